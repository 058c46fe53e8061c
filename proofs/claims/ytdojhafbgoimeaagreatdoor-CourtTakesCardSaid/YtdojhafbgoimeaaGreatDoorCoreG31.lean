/- Part of the proof. -/
import Derived.Test.YtdojhafbgoimeaaGreatDoorCoreG30
import Derived.Test.YtdojhafbgoimeaaGreatDoorCoreG29
import Derived.Test.YtdojhafbgoimeaaGreatDoorCoreG28

section
open Go.Proofs
namespace Go.Ev
noncomputable section
set_option maxRecDepth 100000
theorem zzi:∀(l:D) (s:List UInt8),zag (zku (λ(x:FuncId)=>none) D.nil D.nil D.nil D.nil []) 3 (45:FuncId) [V.dat (29:TypeId) l,V.str s] (V.int IntKind.i64 (iX l s))=((∃(x:Nat),(x<=l.len/\
∀(i:Nat),i<x->sAt l i=s->False)/\(0=(x:Int)/\True)/\True)/\∀(x:Nat),(x<=l.len/\∀(i:Nat),i<x->sAt l i=s->False)->l.len-x<LIM/\((x:Int)<(l.len:Int)->0<=(x:Int)/\(x:Int)
<(l.len:Int)/\(s=sAt l x->(x:Int)=iX l s)/\((s=sAt l x->False)->fits64 ((x:Int)+1)/\∃(y:Nat),(y<=l.len/\∀(i:Nat),i<y->sAt l i=s->False)/\l.len-y<l.len-x/\((x:Int)+1=(y:
Int)/\True)/\True))/\(((x:Int)<(l.len:Int)->False)->(-1)=iX l s)):=by intros;kernel_rfl
theorem zA4:∀(l ps ct nm g:D) (ls:List Nat),zag (zku (tk0 ct nm g ls) (LL l) ct nm g ls) 4 (11:FuncId) [V.dat (76:TypeId) l,V.dat (48:TypeId) ps] (V.prop True)=(((zvB ps/\(0:Int)<=20/\(20:
Int)<=64)/\g=gsD 20 ps)/\((0:Int)<=0/\0<=min (l.len:Int) 4/\min (l.len:Int) 4<=(l.len:Int)/\((∃(x:Nat),x=0/\((0:Int)=0/\True/\True)/\(True/\True)/\True)\/∃(x:Nat),(0<x/\x<=(LL
l).len)/\(0=(x:Int)/\False/\True)/\False/\(False/\True)/\False/\True)/\(∀(x:Nat),x=0->(LL l).len-x<LIM/\(0<(↑(LL l).len:Int)->(0:Int)<=0/\0<(↑(LL l).len:Int)/\zq3 (el (LL l) 0)/\
(0<(mMl (el (LL l) 0)).length->0+1<= [zfB].length/\0+(mMl (el (LL l) 0)).length<=(mMl (el (LL l) 0)).length/\(mMl (el (LL l) 0)).length+1<=16777216/\0+((mMl (el (LL l) 0)).length+1)<=(List.take (mMl
(el (LL l) 0)).length (mMl (el (LL l) 0))++List.take 1 [zfB]).length/\0+1<= [D.list (List.take ((mMl (el (LL l) 0)).length+1) (List.take (mMl (el (LL l) 0)).length (mMl (el (LL l) 0))++List.take 1
[zfB]))].length/\(1:Nat)<=16777216/\(0:Int)<=0/\0<=(zaS.length:Int)/\(zaS.length:Int)<=(zaS.length:Int)/\(0:Int)<=0/\(0:Int)<=1/\1<=(↑(List.take (zaS.length-0) (List.drop 0
zaS)).length:Int)/\0+1<= [D.str (List.take (Int.toNat 1-0) (List.drop 0 (List.take (zaS.length-0) (List.drop 0 zaS))))].length/\(1:Nat)<=8796093022208/\fits64 (0+1)/\((∃(y:Nat),y=0/\(LL l).len
-y<(LL l).len-x/\((0:Int)+1=0/\False/\True)/\(False/\True)/\True)\/∃(y:Nat),(0<y/\y<=(LL l).len)/\(LL l).len-y<(LL l).len-x/\(0+1=(y:Int)/\((0:Nat)=0/\1=y/\True)/\True)/\
List.take 1 [D.list (List.take ((mMl (el (LL l) 0)).length+1) (List.take (mMl (el (LL l) 0)).length (mMl (el (LL l) 0))++List.take 1 [zfB]))]=tcL (LL l) y/\(((0:Nat)=0/\1=y/\True)/\True)/\List.take 1
[D.str (List.take (Int.toNat 1-0) (List.drop 0 (List.take (zaS.length-0) (List.drop 0 zaS))))]=tnL y/\True))/\((0<(mMl (el (LL l) 0)).length->False)->0+1<= [zfB].length/\(1:Nat)<=16777216/\0+1<=
(List.take 1 [zfB]).length/\0+1<= [D.list (List.take 1 (List.take 1 [zfB]))].length/\(1:Nat)<=16777216/\(0:Int)<=0/\0<=(zaS.length:Int)/\(zaS.length:Int)<=(zaS.length:Int)/\(0:Int)<=0/\(0:
Int)<=1/\1<=(↑(List.take (zaS.length-0) (List.drop 0 zaS)).length:Int)/\0+1<= [D.str (List.take (Int.toNat 1-0) (List.drop 0 (List.take (zaS.length-0) (List.drop 0 zaS))))].length/\(1:Nat)<=
8796093022208/\fits64 (0+1)/\((∃(y:Nat),y=0/\(LL l).len-y<(LL l).len-x/\((0:Int)+1=0/\False/\True)/\(False/\True)/\True)\/∃(y:Nat),(0<y/\y<=(LL l).len)/\(LL l).len-y<(LL l).len
-x/\(0+1=(y:Int)/\((0:Nat)=0/\1=y/\True)/\True)/\List.take 1 [D.list (List.take 1 (List.take 1 [zfB]))]=tcL (LL l) y/\(((0:Nat)=0/\1=y/\True)/\True)/\List.take 1 [D.str (List.take
(Int.toNat 1-0) (List.drop 0 (List.take (zaS.length-0) (List.drop 0 zaS))))]=tnL y/\True)))/\((0<(↑(LL l).len:Int)->False)->∃(x:Unit),True/\(D.nil=ct/\True)/\(D.nil=nm/\True)/\True))/\∀(x:
Nat),0<x/\x<=(LL l).len->(LL l).len-x<LIM/\((x:Int)<(↑(LL l).len:Int)->0<=(x:Int)/\(x:Int)<(↑(LL l).len:Int)/\zq3 (el (LL l) x)/\(0<(mMl (el (LL l) x)).length->0+1<= [zfB].length/\0
+(mMl (el (LL l) x)).length<=(mMl (el (LL l) x)).length/\(mMl (el (LL l) x)).length+1<=16777216/\0+((mMl (el (LL l) x)).length+1)<=(List.take (mMl (el (LL l) x)).length (mMl (el (LL l) x))++List.take 1
[zfB]).length/\0+1<= [D.list (List.take ((mMl (el (LL l) x)).length+1) (List.take (mMl (el (LL l) x)).length (mMl (el (LL l) x))++List.take 1 [zfB]))].length/\0+x<=(tcL (LL l) x).length/\x+1<=16777216/\
0<=(x:Int)/\(x:Int)<=(zaS.length:Int)/\(zaS.length:Int)<=(zaS.length:Int)/\(0:Int)<=0/\(0:Int)<=1/\1<=(↑(List.take (zaS.length-x) (List.drop x zaS)).length:Int)/\0+1<= [D.str
(List.take (Int.toNat 1-0) (List.drop 0 (List.take (zaS.length-x) (List.drop x zaS))))].length/\0+x<=(tnL x).length/\x+1<=8796093022208/\fits64 ((x:Int)+1)/\((∃(y:Nat),y=0/\(LL l).len-y<(LL
l).len-x/\((x:Int)+1=0/\False/\True)/\(False/\True)/\True)\/∃(y:Nat),(0<y/\y<=(LL l).len)/\(LL l).len-y<(LL l).len-x/\((x:Int)+1=(y:Int)/\((0:Nat)=0/\x+1=y/\True)/\True)
/\List.take x (tcL (LL l) x)++List.take 1 [D.list (List.take ((mMl (el (LL l) x)).length+1) (List.take (mMl (el (LL l) x)).length (mMl (el (LL l) x))++List.take 1 [zfB]))]=tcL (LL l) y/\(((0:Nat)=0/\x+1
=y/\True)/\True)/\List.take x (tnL x)++List.take 1 [D.str (List.take (Int.toNat 1-0) (List.drop 0 (List.take (zaS.length-x) (List.drop x zaS))))]=tnL y/\True))/\((0<(mMl (el (LL l) x)).length->False)->
0+1<= [zfB].length/\(1:Nat)<=16777216/\0+1<=(List.take 1 [zfB]).length/\0+1<= [D.list (List.take 1 (List.take 1 [zfB]))].length/\0+x<=(tcL (LL l) x).length/\x+1<=16777216/\0<=(x:Int)/\(x:
Int)<=(zaS.length:Int)/\(zaS.length:Int)<=(zaS.length:Int)/\(0:Int)<=0/\(0:Int)<=1/\1<=(↑(List.take (zaS.length-x) (List.drop x zaS)).length:Int)/\0+1<= [D.str (List.take (Int.toNat 1-0)
(List.drop 0 (List.take (zaS.length-x) (List.drop x zaS))))].length/\0+x<=(tnL x).length/\x+1<=8796093022208/\fits64 ((x:Int)+1)/\((∃(y:Nat),y=0/\(LL l).len-y<(LL l).len-x/\((x:Int)+1
=0/\False/\True)/\(False/\True)/\True)\/∃(y:Nat),(0<y/\y<=(LL l).len)/\(LL l).len-y<(LL l).len-x/\((x:Int)+1=(y:Int)/\((0:Nat)=0/\x+1=y/\True)/\True)/\List.take x (tcL (LL l)
x)++List.take 1 [D.list (List.take 1 (List.take 1 [zfB]))]=tcL (LL l) y/\(((0:Nat)=0/\x+1=y/\True)/\True)/\List.take x (tnL x)++List.take 1 [D.str (List.take (Int.toNat 1-0) (List.drop 0 (List.take
(zaS.length-x) (List.drop x zaS))))]=tnL y/\True)))/\(((x:Int)<(↑(LL l).len:Int)->False)->0+x<=(tcL (LL l) x).length/\0+x<=(tnL x).length/\∃(x_1:Unit),True/\(D.list (List.take x (tcL (LL l)
x))=ct/\True)/\(D.list (List.take x (tnL x))=nm/\True)/\True))/\∀(x:Unit),True->(ct=ct/\nm=nm/\g=g)/\(((((0:Int)=0->False)->False)->(((↑(iD ls).len:Int)=(g.len:Int)->False)->(false=
true↔True))/\((((↑(iD ls).len:Int)=(g.len:Int)->False)->False)->∃(x:Unit),True/\True/\True))/\(((0:Int)=0->False)->(false=true↔True)))/\∀(x:Unit),True->0<=(g.len:Int)/\(g.len:Int)
<=(g.len:Int)/\(g.len:Int)<=16777216/\(zkk (λ_=>none) D.nil D.nil).P.types[4].bytes*g.len<=281474976710656/\(0:Int)<=5/\(5:Int)<=5/\(5:Int)<=16777216/\(zkk (λ_=>none) D.nil
D.nil).P.types[3].bytes*Int.toNat 5<=281474976710656/\(0:Int)<=5/\(5:Int)<=5/\(5:Int)<=16777216/\(zkk (λ_=>none) D.nil D.nil).P.types[3].bytes*Int.toNat 5<=281474976710656/\(∃(x:Nat),x.le
g.len/\(0=(x:Int)/\True)/\List.replicate (Int.toNat 5) (D.int 0)=zas (toZ nm g x)/\True)/\∀(x:Nat),x.le g.len->g.len-x<LIM/\((x:Int)<(g.len:Int)->0<=(x:Int)/\(x:Int)<(g.len:Int)/\
nm.len<=100/\(0<=iX nm ((el g x).fld 2).asStr->0<=iX nm ((el g x).fld 2).asStr/\iX nm ((el g x).fld 2).asStr<(↑(5:Nat):Int)/\(iX nm ((el g x).fld 2).asStr).toNat<(zas (toZ nm g x)).length/\fits64 ((zad
(zas (toZ nm g x)) (iX nm ((el g x).fld 2).asStr).toNat).asInt+1)/\0<=iX nm ((el g x).fld 2).asStr/\iX nm ((el g x).fld 2).asStr<(↑(5:Nat):Int)/\(iX nm ((el g x).fld 2).asStr).toNat<(zas (toZ nm g
x)).length/\fits64 ((x:Int)+1)/\∃(y:Nat),y.le g.len/\g.len-y<g.len-x/\((x:Int)+1=(y:Int)/\True)/\(zas (toZ nm g x)).set (iX nm ((el g x).fld 2).asStr).toNat (D.int ((zad (zas (toZ nm g
x)) (iX nm ((el g x).fld 2).asStr).toNat).asInt+1))=zas (toZ nm g y)/\True)/\((0<=iX nm ((el g x).fld 2).asStr->False)->(0:Int)<=4/\4<(↑(5:Nat):Int)/\0+Int.toNat 4<(zas (toZ nm g x)).length/\
fits64 ((zad (zas (toZ nm g x)) (0+Int.toNat 4)).asInt+1)/\(0:Int)<=4/\4<(↑(5:Nat):Int)/\0+Int.toNat 4<(zas (toZ nm g x)).length/\fits64 ((x:Int)+1)/\∃(y:Nat),y.le g.len/\g.len-y<
g.len-x/\((x:Int)+1=(y:Int)/\True)/\(zas (toZ nm g x)).set (0+Int.toNat 4) (D.int ((zad (zas (toZ nm g x)) (0+Int.toNat 4)).asInt+1))=zas (toZ nm g y)/\True))/\(((x:Int)<(g.len:Int)->
False)->(∃(x_1:Nat),x_1.le ls.length/\(0=(x_1:Int)/\True)/\List.replicate g.len (D.bool (false=true))=tkB g.len ls x_1/\List.replicate (Int.toNat 5) (D.int 0)=zas (cnZ nm g ls x_1)/\zas (toZ nm g
x)=zas (lfZ nm g ls x_1)/\ [D.int (-1),D.int (-1),D.int (-1),D.int (-1),D.int (-1)]=zas (laZ nm g ls x_1)/\True)/\∀(x:Nat),x.le ls.length->ls.length-x<LIM/\((x:Int)<(↑(iD ls).len:Int)->0<=
(x:Int)/\(x:Int)<(↑(iD ls).len:Int)/\((((el (iD ls) x).asInt<0->False)->(((g.len:Int)<=(el (iD ls) x).asInt->False)->0<=(el (iD ls) x).asInt/\(el (iD ls) x).asInt<(g.len:Int)/\(el (iD ls)
x).asInt.toNat<(tkB g.len ls x).length/\((zad (tkB g.len ls x) (el (iD ls) x).asInt.toNat).asProp->(false=true↔True))/\(((zad (tkB g.len ls x) (el (iD ls) x).asInt.toNat).asProp->False)->∃(x:Unit),True/\
True/\True))/\((g.len:Int)<=(el (iD ls) x).asInt->(false=true↔True)))/\((el (iD ls) x).asInt<0->(false=true↔True)))/\∀(x_1:Unit),True->0<=(el (iD ls) x).asInt/\(el (iD ls) x).asInt<(g.len:
Int)/\(el (iD ls) x).asInt.toNat<(tkB g.len ls x).length/\(0<=(el (iD ls) x).asInt/\(el (iD ls) x).asInt<(g.len:Int)/\nm.len<=100/\(0<=iX nm ((el g (el (iD ls) x).asInt.toNat).fld 2).asStr->∃(x_2:Unit),
True/\(iX nm ((el g (el (iD ls) x).asInt.toNat).fld 2).asStr=(↑(kN nm g (el (iD ls) x).asInt.toNat):Int)/\True)/\True)/\((0<=iX nm ((el g (el (iD ls) x).asInt.toNat).fld 2).asStr->False)->∃(x_2:Unit),True
/\(4=(↑(kN nm g (el (iD ls) x).asInt.toNat):Int)/\True)/\True))/\∀(x_2:Unit),True->(0<=(↑(kN nm g (el (iD ls) x).asInt.toNat):Int)/\(↑(kN nm g (el (iD ls) x).asInt.toNat):Int)<(↑(5:Nat):Int)/\kN
nm g (el (iD ls) x).asInt.toNat<(zas (laZ nm g ls x)).length/\(0<=(zad (zas (laZ nm g ls x)) (kN nm g (el (iD ls) x).asInt.toNat)).asInt->((↑(kN nm g (el (iD ls) x).asInt.toNat):Int)=4->(((el (iD ls)
x).asInt<(zad (zas (laZ nm g ls x)) (kN nm g (el (iD ls) x).asInt.toNat)).asInt->False)->((↑(kN nm g (el (iD ls) x).asInt.toNat):Int)<4->0<=(↑(kN nm g (el (iD ls) x).asInt.toNat):Int)/\(↑(kN nm g (el (iD
ls) x).asInt.toNat):Int)<(ct.len:Int)/\0<=(zad (zas (laZ nm g ls x)) (kN nm g (el (iD ls) x).asInt.toNat)).asInt/\(zad (zas (laZ nm g ls x)) (kN nm g (el (iD ls) x).asInt.toNat)).asInt<(g.len:Int)/\0
<=(el (iD ls) x).asInt/\(el (iD ls) x).asInt<(g.len:Int)/\(zaE (el ct (kN nm g (el (iD ls) x).asInt.toNat))/\((el g (zad (zas (laZ nm g ls x)) (kN nm g (el (iD ls) x).asInt.toNat)).asInt.toNat).fld (Nat.succ
6).succ).len<=100/\((el g (el (iD ls) x).asInt.toNat).fld (Nat.succ 6).succ).len<=100)/\(0<=(zf3 (el ct (kN nm g (el (iD ls) x).asInt.toNat)) (gAt (el g (zad (zas (laZ nm g ls x)) (kN nm g (el (iD ls)
x).asInt.toNat)).asInt.toNat)) (gAt (el g (el (iD ls) x).asInt.toNat)) (zad (zas (laZ nm g ls x)) (kN nm g (el (iD ls) x).asInt.toNat)).asInt (el (iD ls) x).asInt).snd->(false=true↔True))/\((0<=(zf3 (el ct (kN
nm g (el (iD ls) x).asInt.toNat)) (gAt (el g (zad (zas (laZ nm g ls x)) (kN nm g (el (iD ls) x).asInt.toNat)).asInt.toNat)) (gAt (el g (el (iD ls) x).asInt.toNat)) (zad (zas (laZ nm g ls x)) (kN nm g (el (iD ls)
x).asInt.toNat)).asInt (el (iD ls) x).asInt).snd->False)->∃(x:Unit),True/\True/\True))/\(((↑(kN nm g (el (iD ls) x).asInt.toNat):Int)<4->False)->∃(x:Unit),True/\True/\True))/\((el (iD ls) x).asInt<
(zad (zas (laZ nm g ls x)) (kN nm g (el (iD ls) x).asInt.toNat)).asInt->(false=true↔True)))/\(((↑(kN nm g (el (iD ls) x).asInt.toNat):Int)=4->False)->((↑(kN nm g (el (iD ls) x).asInt.toNat):Int)<4->0
<=(↑(kN nm g (el (iD ls) x).asInt.toNat):Int)/\(↑(kN nm g (el (iD ls) x).asInt.toNat):Int)<(ct.len:Int)/\0<=(zad (zas (laZ nm g ls x)) (kN nm g (el (iD ls) x).asInt.toNat)).asInt/\(zad (zas (laZ nm g ls
x)) (kN nm g (el (iD ls) x).asInt.toNat)).asInt<(g.len:Int)/\0<=(el (iD ls) x).asInt/\(el (iD ls) x).asInt<(g.len:Int)/\(zaE (el ct (kN nm g (el (iD ls) x).asInt.toNat))/\((el g (zad (zas (laZ nm g ls
x)) (kN nm g (el (iD ls) x).asInt.toNat)).asInt.toNat).fld (Nat.succ 6).succ).len<=100/\((el g (el (iD ls) x).asInt.toNat).fld (Nat.succ 6).succ).len<=100)/\(0<=(zf3 (el ct (kN nm g (el (iD ls) x).asInt.toNat))
(gAt (el g (zad (zas (laZ nm g ls x)) (kN nm g (el (iD ls) x).asInt.toNat)).asInt.toNat)) (gAt (el g (el (iD ls) x).asInt.toNat)) (zad (zas (laZ nm g ls x)) (kN nm g (el (iD ls) x).asInt.toNat)).asInt (el (iD ls)
x).asInt).snd->(false=true↔True))/\((0<=(zf3 (el ct (kN nm g (el (iD ls) x).asInt.toNat)) (gAt (el g (zad (zas (laZ nm g ls x)) (kN nm g (el (iD ls) x).asInt.toNat)).asInt.toNat)) (gAt (el g (el (iD ls)
x).asInt.toNat)) (zad (zas (laZ nm g ls x)) (kN nm g (el (iD ls) x).asInt.toNat)).asInt (el (iD ls) x).asInt).snd->False)->∃(x:Unit),True/\True/\True))/\(((↑(kN nm g (el (iD ls) x).asInt.toNat):Int)<4->
False)->∃(x:Unit),True/\True/\True)))/\((0<=(zad (zas (laZ nm g ls x)) (kN nm g (el (iD ls) x).asInt.toNat)).asInt->False)->∃(x:Unit),True/\True/\True))/\∀(x_3:Unit),True->(∃(x:Nat),x.le
ct.len/\(0=(x:Int)/\True)/\True)/\∀(x_4:Nat),x_4.le ct.len->ct.len-x_4<LIM/\((x_4:Int)<(ct.len:Int)->(0<=(x_4:Int)/\(x_4:Int)<(↑(5:Nat):Int)/\x_4<(zas (lfZ nm g ls x)).length/\
(0<(zad (zas (lfZ nm g ls x)) x_4).asInt->(((x_4:Int)=(↑(kN nm g (el (iD ls) x).asInt.toNat):Int)->False)->(((↑(kN nm g (el (iD ls) x).asInt.toNat):Int)=4->False)->0<=(x_4:Int)/\(x_4:Int)<(↑(5
:Nat):Int)/\x_4<(zas (cnZ nm g ls x)).length/\0<=(↑(kN nm g (el (iD ls) x).asInt.toNat):Int)/\(↑(kN nm g (el (iD ls) x).asInt.toNat):Int)<(↑(5:Nat):Int)/\kN nm g (el (iD ls) x).asInt.toNat<(zas
(cnZ nm g ls x)).length/\(((zad (zas (cnZ nm g ls x)) x_4).asInt<(zad (zas (cnZ nm g ls x)) (kN nm g (el (iD ls) x).asInt.toNat)).asInt->False)->0<=(x_4:Int)/\(x_4:Int)<(↑(5:Nat):Int)/\x_4<
(zas (cnZ nm g ls x)).length/\0<=(↑(kN nm g (el (iD ls) x).asInt.toNat):Int)/\(↑(kN nm g (el (iD ls) x).asInt.toNat):Int)<(↑(5:Nat):Int)/\kN nm g (el (iD ls) x).asInt.toNat<(zas (cnZ nm g ls
x)).length/\((zad (zas (cnZ nm g ls x)) x_4).asInt=(zad (zas (cnZ nm g ls x)) (kN nm g (el (iD ls) x).asInt.toNat)).asInt->((x_4:Int)<(↑(kN nm g (el (iD ls) x).asInt.toNat):Int)->(false=true↔True))/\
(((x_4:Int)<(↑(kN nm g (el (iD ls) x).asInt.toNat):Int)->False)->∃(x:Unit),True/\True/\True))/\(((zad (zas (cnZ nm g ls x)) x_4).asInt=(zad (zas (cnZ nm g ls x)) (kN nm g (el (iD ls)
x).asInt.toNat)).asInt->False)->∃(x:Unit),True/\True/\True))/\((zad (zas (cnZ nm g ls x)) x_4).asInt<(zad (zas (cnZ nm g ls x)) (kN nm g (el (iD ls) x).asInt.toNat)).asInt->(false=true↔True)))/\
((↑(kN nm g (el (iD ls) x).asInt.toNat):Int)=4->(false=true↔True)))/\((((x_4:Int)=(↑(kN nm g (el (iD ls) x).asInt.toNat):Int)->False)->False)->∃(x:Unit),True/\True/\True))/\((0<(zad (zas
(lfZ nm g ls x)) x_4).asInt->False)->∃(x:Unit),True/\True/\True))/\∀(x:Unit),True->fits64 ((x_4:Int)+1)/\∃(y:Nat),y.le ct.len/\ct.len-y<ct.len-x_4/\((x_4:Int)+1=(y:Int)/\True)/\
True)/\(((x_4:Int)<(ct.len:Int)->False)->0<=(↑(kN nm g (el (iD ls) x).asInt.toNat):Int)/\(↑(kN nm g (el (iD ls) x).asInt.toNat):Int)<(↑(5:Nat):Int)/\kN nm g (el (iD ls) x).asInt.toNat<(zas (laZ
nm g ls x)).length/\0<=(↑(kN nm g (el (iD ls) x).asInt.toNat):Int)/\(↑(kN nm g (el (iD ls) x).asInt.toNat):Int)<(↑(5:Nat):Int)/\kN nm g (el (iD ls) x).asInt.toNat<(zas (cnZ nm g ls x)).length/\fits64
((zad (zas (cnZ nm g ls x)) (kN nm g (el (iD ls) x).asInt.toNat)).asInt+1)/\0<=(↑(kN nm g (el (iD ls) x).asInt.toNat):Int)/\(↑(kN nm g (el (iD ls) x).asInt.toNat):Int)<(↑(5:Nat):Int)/\kN nm g (el (iD
ls) x).asInt.toNat<(zas (cnZ nm g ls x)).length/\0<=(↑(kN nm g (el (iD ls) x).asInt.toNat):Int)/\(↑(kN nm g (el (iD ls) x).asInt.toNat):Int)<(↑(5:Nat):Int)/\kN nm g (el (iD ls) x).asInt.toNat<(zas
(lfZ nm g ls x)).length/\fits64 ((zad (zas (lfZ nm g ls x)) (kN nm g (el (iD ls) x).asInt.toNat)).asInt-1)/\0<=(↑(kN nm g (el (iD ls) x).asInt.toNat):Int)/\(↑(kN nm g (el (iD ls) x).asInt.toNat):Int)<(↑(5
:Nat):Int)/\kN nm g (el (iD ls) x).asInt.toNat<(zas (lfZ nm g ls x)).length/\fits64 ((x:Int)+1)/\∃(y:Nat),y.le ls.length/\ls.length-y<ls.length-x/\((x:Int)+1=(y:Int)/\True)/\(tkB g.len
ls x).set (el (iD ls) x).asInt.toNat (D.bool (true=true))=tkB g.len ls y/\(zas (cnZ nm g ls x)).set (kN nm g (el (iD ls) x).asInt.toNat) (D.int ((zad (zas (cnZ nm g ls x)) (kN nm g (el (iD ls)
x).asInt.toNat)).asInt+1))=zas (cnZ nm g ls y)/\(zas (lfZ nm g ls x)).set (kN nm g (el (iD ls) x).asInt.toNat) (D.int ((zad (zas (lfZ nm g ls x)) (kN nm g (el (iD ls) x).asInt.toNat)).asInt-1))=zas (lfZ
nm g ls y)/\(zas (laZ nm g ls x)).set (kN nm g (el (iD ls) x).asInt.toNat) (D.int (el (iD ls) x).asInt)=zas (laZ nm g ls y)/\True))/\(((x:Int)<(↑(iD ls).len:Int)->False)->(true=true↔True)))):=by intros;kernel_rfl
theorem zAv (l:D) (s:List UInt8) (h:l.len<=100):zag (zku (λ_=>none) .nil .nil .nil .nil []) 3 45 [.dat 29 l,.str s] (.int .i64 (iX l s)):=by
 rw [zzi]
 have T:True:=trivial
 refine ⟨⟨0,⟨Nat.zero_le _,λi hi=>absurd hi (Nat.not_lt_zero _)⟩,⟨rfl,T⟩,T⟩,λx hx=>⟨zfU (by omega),λhlt=>⟨by omega,hlt,λe=> ?_,λe=>⟨⟨by omega,by omega⟩,x+1,⟨by omega,λi hi q=> ?_⟩,by omega,⟨by omega,T⟩,T⟩⟩,λhge=> ?_⟩⟩
 .have hh:zbG l s:=⟨x,by omega,e.symm⟩
  have h1:=zl6 hh
  have h2:=zjC h1
  have h3:=zpq hh x (by omega) e.symm
  have h4:¬idx l s<x:=λq=>hx.2 _ q h2
  unfold iX;rw [if_pos h1];omega
 .by_cases q2:i=x
  .subst q2;exact e q.symm
  .exact hx.2 i (by omega) q
 .have:=zcc hx.1 hge
  subst this
  unfold iX
  rw [if_neg]
  intro q
  exact hx.2 _ q (zjC q)
theorem zwT (d:D):List.take 1 [D.list (List.take ((mMl d).length+1) (List.take (mMl d).length (mMl d)++List.take 1 [zfB]))]= [tcD d]:=by rw [zw7];rfl
theorem zwS {d:D} (h:0<(mMl d).length->False):List.take 1 [D.list (List.take 1 (List.take 1 [zfB]))]= [tcD d]:=by rw [zw6 h];rfl
theorem zwR (d:D):0+((mMl d).length+1)<=(List.take (mMl d).length (mMl d)++List.take 1 [zfB]).length:=by
 rw [List.length_append,List.take_of_length_le (Nat.le_refl _)]
 show 0+((mMl d).length+1)<=(mMl d).length+1;omega
theorem zpL (d:D):(mMl d).length<=8:=by unfold mMl;rw [zd2];exact (zjI d).2
theorem zlD {x:Nat} (h:x<4):(1:Int)<=(List.take (zaS.length-x) (List.drop x zaS)).length:=by
 rw [List.length_take,List.length_drop]
 have:zaS.length=4:=rfl
 omega
theorem s11 (l ps ct nm g:D) (ls:List Nat) (hps:zvB ps) (hg:g=gsD 20 ps) (hct:ct=tcF (LL l)) (hnm:nm=tnF (LL l)) (hu:∀i,i<(LL l).len->zq3 (el (LL l) i)) (h4:(LL l).len<=4) (hml:min (l.len:Int) 4<=l.len/\0<=min (l.len:Int) 4) (F:tkF ct nm g ls):
  zag (zku (tk0 ct nm g ls) (LL l) ct nm g ls) 4 11 [.dat 76 l,.dat 48 ps] (.prop True):=by
 have hb1:(zkk (λ_=>none) D.nil D.nil).P.types[(4:Nat)].bytes=1:=by kernel_rfl
 have hb8:(zkk (λ_=>none) D.nil D.nil).P.types[(3:Nat)].bytes=8:=by kernel_rfl
 have ha:zaS.length=4:=rfl
 rw [zA4,hb1,hb8]
 have T:True:=trivial
 have e1:(true=true↔True):=⟨λ_=>trivial,λ_=>rfl⟩
 have hll:ls.length=g.len:=by have:=F.pm.length_eq;rw [List.length_range] at this;exact this
 have gl:=F.gl
 have cl:=F.cl
 have hil:(iD ls).len=ls.length:=zpo ls
 refine ⟨⟨⟨hps,by omega,by omega⟩,hg⟩,⟨by omega,hml.2,hml.1,.inl ⟨0,rfl,⟨rfl,T,T⟩,⟨T,T⟩,T⟩,λx hx=> ?_,λx hx=> ?_⟩,λ_ _=>⟨⟨rfl,rfl,rfl⟩,⟨λ_=>⟨λh=>(h (by omega)).elim,λ_=>⟨⟨⟩,T,T,T⟩⟩,λh=>(h rfl).elim⟩,λ_ _=>⟨by omega,by omega,by omega,by omega,by omega,by omega,by omega,by decide,by omega,by omega,by omega,by decide,⟨0,Nat.zero_le _,⟨rfl,T⟩,rfl,T⟩,λx hx=> ?_⟩⟩⟩
 .subst hx
  have h8:=zpL (el (LL l) 0)
  refine ⟨zfU (by omega),λhlt=>⟨by omega,hlt,hu 0 (by omega),λhy=>⟨Nat.le_refl _,by omega,by omega,zwR _,Nat.le_refl _,by omega,by omega,by omega,by omega,by omega,by omega,zlD (x:=0) (by omega),Nat.le_refl _,by omega,⟨by omega,by omega⟩,.inr ⟨1,⟨by omega,by omega⟩,by omega,⟨by omega,⟨rfl,rfl,T⟩,T⟩,zwT _,⟨⟨rfl,rfl,T⟩,T⟩,rfl,T⟩⟩,λhn=>⟨Nat.le_refl _,by omega,Nat.le_refl _,Nat.le_refl _,by omega,by omega,by omega,by omega,by omega,by omega,zlD (x:=0) (by omega),Nat.le_refl _,by omega,⟨by omega,by omega⟩,.inr ⟨1,⟨by omega,by omega⟩,by omega,⟨by omega,⟨rfl,rfl,T⟩,T⟩,zwS hn,⟨⟨rfl,rfl,T⟩,T⟩,rfl,T⟩⟩⟩,λhge=>⟨⟨⟩,T,⟨?_,T⟩,⟨?_,T⟩,T⟩⟩
  .have hge:¬(0:Int)<(LL l).len:=hge
   rw [hct];unfold tcF;rw [show (LL l).len=0 by omega];rfl
  .have hge:¬(0:Int)<(LL l).len:=hge
   rw [hnm];unfold tnF;rw [show (LL l).len=0 by omega];rfl
 .have h8:=zpL (el (LL l) x)
  have hcl:=zvw (LL l) x
  have hnl:=zvz x
  have t1:List.take x (tcL (LL l) x)=tcL (LL l) x:=List.take_of_length_le (by omega)
  have t2:List.take x (tnL x)=tnL x:=List.take_of_length_le (by omega)
  refine ⟨zfU (by omega),λhlt=>⟨by omega,hlt,hu x (by omega),λhy=>⟨Nat.le_refl _,by omega,by omega,zwR _,Nat.le_refl _,by omega,by omega,by omega,by omega,by omega,by omega,by omega,zlD (by omega),Nat.le_refl _,by omega,by omega,⟨by omega,by omega⟩,.inr ⟨x+1,⟨by omega,by omega⟩,by omega,⟨by omega,⟨rfl,rfl,T⟩,T⟩, ?_,⟨⟨rfl,rfl,T⟩,T⟩, ?_,T⟩⟩,λhn=>⟨Nat.le_refl _,by omega,Nat.le_refl _,Nat.le_refl _,by omega,by omega,by omega,by omega,by omega,by omega,by omega,zlD (by omega),Nat.le_refl _,by omega,by omega,⟨by omega,by omega⟩,.inr ⟨x+1,⟨by omega,by omega⟩,by omega,⟨by omega,⟨rfl,rfl,T⟩,T⟩, ?_,⟨⟨rfl,rfl,T⟩,T⟩, ?_,T⟩⟩⟩,λhge=>⟨by omega,by omega,⟨⟩,T,⟨?_,T⟩,⟨?_,T⟩,T⟩⟩
  .rw [t1,zwT,zmM]
  .rw [t2,zmO];rfl
  .rw [t1,zwS hn,zmM]
  .rw [t2,zmO];rfl
  .have e:=zcc hx.2 hge
   rw [t1,hct];unfold tcF;rw [<-e];exact zgF (by omega)
  .have e:=zcc hx.2 hge
   rw [t2,hnm];unfold tnF;rw [<-e];exact zgF (by omega)
 have hx:x<=g.len:=hx
 have k5:∀v,kN nm g v<5:=λv=>by rcases F.kl v with h|h<;>omega
 have nl:=F.nl
 refine ⟨zfU (by omega),λhlt=>⟨by omega,hlt,by omega,λhy=> ?_,λhn=> ?_⟩,λhge=> ?_⟩
 .have e:iX nm ((el g x).fld 2).asStr=(kN nm g x:Nat):=zzw hy
  have k:=k5 x
  have b:=zq1 (nm:=nm) (g:=g) x (kN nm g x)
  rw [e,Int.toNat_natCast,zeh k]
  exact ⟨by omega,by omega,k,⟨by omega,by omega⟩,by omega,by omega,k,⟨by omega,by omega⟩,x+1,(by show x+1<=g.len;omega),by omega,⟨by omega,T⟩,ztO k rfl,T⟩
 .have e:kN nm g x=4:=zzv hn
  have b:=zq1 (nm:=nm) (g:=g) x 4
  have e4:(zad (zas (toZ nm g x)) (0+Int.toNat 4)).asInt=toZ nm g x 4:=rfl
  rw [e4]
  exact ⟨by omega,by omega,(by show 4<5;omega),⟨by omega,by omega⟩,by omega,by omega,(by show 4<5;omega),⟨by omega,by omega⟩,x+1,(by show x+1<=g.len;omega),by omega,⟨by omega,T⟩,ztO (k:=4) (by omega) e,T⟩
 have e:=zcc hx hge
 rw [e]
 refine ⟨⟨0,Nat.zero_le _,⟨rfl,T⟩,zyK _,rfl,zzR,rfl,T⟩,λx hx=>⟨zfU (by have hx:x<=ls.length:=hx;omega),λhlt=> ?_,λ_=>e1⟩⟩
 have hx:x<=ls.length:=hx
 have hl:x<ls.length:=by omega
 have ev:(el (iD ls) x).asInt=(atN ls x:Nat):=zvY hl
 rw [ev,Int.toNat_natCast]
 have hv:atN ls x<g.len:=List.mem_range.1 (F.pm.mem_iff.1 (zlJ hl))
 have k:=k5 (atN ls x)
 have U:∃_:Unit,True/\True/\True:=⟨⟨⟩,T,T,T⟩
 have nd:ls.Nodup:=F.pm.nodup_iff.2 List.nodup_range
 rw [zeh k,zw9 hv]
 refine ⟨by omega,hlt,⟨⟨λ_=>⟨λ_=>⟨by omega,by omega,by rw [zfu];exact hv,λq=>absurd q (zpU nd hl),λ_=>U⟩,λq=>absurd q (by omega)⟩,λq=>absurd q (by omega)⟩,λ_ _=>⟨by omega,by omega,by rw [zfu];exact hv,⟨by omega,by omega,by omega,λhy=>⟨⟨⟩,T,⟨zzw hy,T⟩,T⟩,λhn=>⟨⟨⟩,T,⟨by rw [zzv hn];rfl,T⟩,T⟩⟩,λ_ _=>⟨⟨by omega,by omega,k,λhla=> ?_,λ_=>U⟩,λ_ _=>⟨⟨0,Nat.zero_le _,⟨rfl,T⟩,T⟩,λy hy=> ?_⟩⟩⟩⟩⟩
 .obtain ⟨j,hj,ej,kj⟩:=zwv x hla
  have hjl:j<ls.length:=by omega
  have hv2:atN ls j<g.len:=List.mem_range.1 (F.pm.mem_iff.1 (zlJ hjl))
  rw [ej,Int.toNat_natCast]
  refine ⟨λe4=>⟨λ_=>⟨λq=>absurd q (by omega),λ_=>U⟩,λq=>absurd q ?_⟩,λn4=>⟨λ_=> ?_,λ_=>U⟩⟩
  .have:=F.o4 j x hj hl kj (by omega);omega
  .have kc:kN nm g (atN ls x)<ct.len:=by rcases F.kl (atN ls x) with h|h<;>omega
   exact ⟨by omega,by omega,by omega,by omega,by omega,by omega,⟨F.sm _ kc,F.tg _ hv2,F.tg _ hv⟩,λq=>absurd q (by have:=F.od j x hj hl kj kc;omega),λ_=>U⟩
 have hy:y<=ct.len:=hy
 refine ⟨zfU (by omega),λhyl=>⟨⟨by omega,by omega,(by show y<5;omega),λh0=> ?_,λ_=>U⟩,λ_ _=>⟨⟨by omega,by omega⟩,y+1,(by show y+1<=ct.len;omega),by omega,⟨by omega,T⟩,T⟩⟩,λ_=> ?_⟩
 .have y5:y<5:=by omega
  rw [zeh y5] at h0
  rw [zeh y5,zeh k]
  refine ⟨λhne=> ?_,λ_=>U⟩
  have f:=F.fr x y hl (by omega) (λq=>hne (by rw [q])) h0
  refine ⟨λ_=>⟨by omega,by omega,y5,by omega,by omega,k,λ_=>⟨by omega,by omega,y5,by omega,by omega,k,λq=>⟨λq2=>absurd q (λq=>f.2.2 ⟨q,by omega⟩),λ_=>U⟩,λ_=>U⟩,λq=>absurd q f.2.1⟩,λq=>absurd q (by have:=f.1;omega)⟩
 .have b:=zv4 (nm:=nm) (g:=g) (ls:=ls) x (kN nm g (atN ls x))
  have b2:=zq1 (nm:=nm) (g:=g) g.len (kN nm g (atN ls x))
  have e5:lfZ nm g ls x (kN nm g (atN ls x))=toZ nm g g.len (kN nm g (atN ls x))-cnZ nm g ls x (kN nm g (atN ls x)):=rfl
  rw [zeh k,zeh k]
  exact ⟨by omega,by omega,k,by omega,by omega,k,⟨by omega,by omega⟩,by omega,by omega,k,by omega,by omega,k,⟨by omega,by omega⟩,by omega,by omega,k,⟨by omega,by omega⟩,x+1,(by show x+1<=ls.length;omega),by omega,⟨by omega,T⟩,zvy hl hv,zv5 hl k rfl,zwy hl k rfl,zww k rfl,T⟩
end
end Go.Ev

end

section
open Go.Proofs
namespace Go.Ev
noncomputable section
set_option maxRecDepth 100000
set_option maxHeartbeats 4000000
def zfX (l:D) (x:Nat) (e:D) (r:List UInt8):Prop:=
 (0:Nat)+(1:Nat)<= [e].length/\(0:Nat)+x<=(mL l x).length/\x+(1:Nat)<=(16777216:Nat)/\((-9223372036854775808:Int)<=(↑x:Int)+(1:Int)/\(↑x:Int)+(1:Int)<(9223372036854775808:Int))/\((∃(y:Nat),y=(0:Nat)/\l.len-y<l.len-x/\((↑x:Int)+(1:Int)=(0:Int)/\False/\r= []/\True)/\True)\/∃(y:Nat),((0:Nat)<y/\y<=l.len)/\l.len-y<l.len-x/\((↑x:Int)+(1:Int)=(↑y:Int)/\((0:Nat)=(0:Nat)/\x+(1:Nat)=y/\True)/\r=mR l y/\True)/\List.take x (mL l x)++List.take (1:Nat) [e]=mL l y/\True)
def zwa (l:D) (x:Nat) (e:D) (r:List UInt8):Prop:=
 (0:Nat)+(1:Nat)<= [e].length/\(1:Nat)<=(16777216:Nat)/\((-9223372036854775808:Int)<=(0:Int)+(1:Int)/\(0:Int)+(1:Int)<(9223372036854775808:Int))/\((∃(y:Nat),y=(0:Nat)/\l.len-y<l.len-x/\((0:Int)+(1:Int)=(0:Int)/\False/\r= []/\True)/\True)\/∃(y:Nat),((0:Nat)<y/\y<=l.len)/\l.len-y<l.len-x/\((0:Int)+(1:Int)=(↑y:Int)/\((0:Nat)=(0:Nat)/\(1:Nat)=y/\True)/\r=mR l y/\True)/\List.take (1:Nat) [e]=mL l y/\True)
def zr6 (l:D) (x:Nat):Prop:=
 mK (el (m8 l) (0:Nat))=(1:Int)->(0:Int)<=(0:Int)/\(0:Int)<(↑(2:Nat):Int)/\(0:Nat)+(0:Nat)<([D.str (nm1 (el (m8 l) (0:Nat)))]++ [D.str (nm2 (el (m8 l) (0:
 Nat)))]).length/\(0:Nat)+(2:Nat)<=([D.str (nm1 (el (m8 l) (0:Nat)))]++ [D.str (nm2 (el (m8 l) (0:Nat)))]).length/\zwa (m8 l) x (D.sct [D.int (mK (el (m8 l) (0:Nat))),D.str [],
 D.bool (false=true),D.list (List.take (2:Nat) ([D.str (nm1 (el (m8 l) (0:Nat)))]++ [D.str (nm2 (el (m8 l) (0:Nat)))])),D.int (0:Int)]) ((zad ([D.str (nm1 (el (m8 l) (0:Nat)))]++
 [D.str (nm2 (el (m8 l) (0:Nat)))]) ((0:Nat)+(0:Nat))).asStr)
def zkC (l:D) (x:Nat):Prop:=
 ∃(y:Nat),y=(0:Nat)/\(m8 l).len-y<(m8 l).len-x/\((0:Int)+(1:Int)=(0:Int)/\False/\([]:List UInt8)= []/\True)/\True
def zuz (l:D) (x:Nat):Prop:=
 (mK (el (m8 l) (0:Nat))=(7:Int)->False)->(mK (el (m8 l) (0:Nat))=(10:Int)->((64:Int)=(0:Int)->False)/\(0:Nat)+(1:Nat)<= [D.sct [D.int (mK (el (m8 l) (0:Nat))),D.str [],
 D.bool (false=true),D.nil,D.int (IntKind.i64.wrap (((el (m8 l) (0:Nat)).fld (1:Nat)).asInt.tmod (64:Int)))]].length/\(1:Nat)<=(16777216:Nat)/\((-9223372036854775808:Int)<=(0:Int)
 +(1:Int)/\(0:Int)+(1:Int)<(9223372036854775808:Int))/\((zkC l x)\/∃(y:Nat),((0:Nat)<y/\y<=(m8 l).len)/\(m8 l).len-y<(m8 l).len-x/\((0:Int)+(1:Int)=(↑y:
 Int)/\((0:Nat)=(0:Nat)/\(1:Nat)=y/\True)/\ []=mR (m8 l) y/\True)/\List.take (1:Nat) [D.sct [D.int (mK (el (m8 l) (0:Nat))),D.str [],D.bool (false=true),D.nil,D.int
 (IntKind.i64.wrap (((el (m8 l) (0:Nat)).fld (1:Nat)).asInt.tmod (64:Int)))]]=mL (m8 l) y/\True))/\((mK (el (m8 l) (0:Nat))=(10:Int)->False)->(0:Nat)+(1:Nat)<= [D.sct [D.int (mK
 (el (m8 l) (0:Nat))),D.str [],D.bool (false=true),D.nil,D.int (0:Int)]].length/\(1:Nat)<=(16777216:Nat)/\((-9223372036854775808:Int)<=(0:Int)+(1:Int)/\(0:Int)+(1:Int)
 <(9223372036854775808:Int))/\((zkC l x)\/∃(y:Nat),((0:Nat)<y/\y<=(m8 l).len)/\(m8 l).len-y<(m8 l).len-x/\((0:Int)+(1:Int)=(↑y:Int)/\((0:Nat)=(0:Nat)/\(1:
 Nat)=y/\True)/\ []=mR (m8 l) y/\True)/\List.take (1:Nat) [D.sct [D.int (mK (el (m8 l) (0:Nat))),D.str [],D.bool (false=true),D.nil,D.int (0:Int)]]=mL (m8 l) y/\True))
def zuA (l:D) (x:Nat):Prop:=
 mK (el (m8 l) (0:Nat))=(4:Int)->((2:Int)=(0:Int)->False)/\((-9223372036854775808:Int)<=(1:Int)+IntKind.i64.wrap (((el (m8 l) (0:Nat)).fld (1:Nat)).asInt.tmod (2:Int))/\(1
 :Int)+IntKind.i64.wrap (((el (m8 l) (0:Nat)).fld (1:Nat)).asInt.tmod (2:Int))<(9223372036854775808:Int))/\(0:Nat)+(1:Nat)<= [D.sct [D.int (mK (el (m8 l) (0:Nat))),D.str [],
 D.bool (cNm (el (m8 l) (0:Nat))).asProp,D.nil,D.int ((1:Int)+IntKind.i64.wrap (((el (m8 l) (0:Nat)).fld (1:Nat)).asInt.tmod (2:Int)))]].length/\(1:Nat)<=(16777216:Nat)/\
 ((-9223372036854775808:Int)<=(0:Int)+(1:Int)/\(0:Int)+(1:Int)<(9223372036854775808:Int))/\((zkC l x)\/∃(y:Nat),((0:Nat)<y/\y<=(m8 l).len)/\(m8 l).len-y<(m8
 l).len-x/\((0:Int)+(1:Int)=(↑y:Int)/\((0:Nat)=(0:Nat)/\(1:Nat)=y/\True)/\ []=mR (m8 l) y/\True)/\List.take (1:Nat) [D.sct [D.int (mK (el (m8 l) (0:Nat))),D.str [],
 D.bool (cNm (el (m8 l) (0:Nat))).asProp,D.nil,D.int ((1:Int)+IntKind.i64.wrap (((el (m8 l) (0:Nat)).fld (1:Nat)).asInt.tmod (2:Int)))]]=mL (m8 l) y/\True)
def zr7 (l:D) (x:Nat):Prop:=
 mK (el (m8 l) (0:Nat))=(1:Int)->(0:Int)<=(0:Int)/\(0:Int)<(↑(1:Nat):Int)/\(0:Nat)+(0:Nat)< [D.str (nm1 (el (m8 l) (0:Nat)))].length/\(0:Nat)+(1:Nat)<= [D.str (nm1
 (el (m8 l) (0:Nat)))].length/\zwa (m8 l) x (D.sct [D.int (mK (el (m8 l) (0:Nat))),D.str [],D.bool (false=true),D.list (List.take (1:Nat) [D.str (nm1 (el (m8 l) (0:Nat)))]),D.int (0:
 Int)]) ((zad [D.str (nm1 (el (m8 l) (0:Nat)))] ((0:Nat)+(0:Nat))).asStr)
def zo6 (l:D) (x:Nat):Prop:=
 mK (el (m8 l) (0:Nat))=(5:Int)->(0:Nat)+(1:Nat)<= [D.sct [D.int (mK (el (m8 l) (0:Nat))),D.str [],D.bool (cNm (el (m8 l) (0:Nat))).asProp,D.nil,D.int (0:Int)]].length/\(1:
 Nat)<=(16777216:Nat)/\((-9223372036854775808:Int)<=(0:Int)+(1:Int)/\(0:Int)+(1:Int)<(9223372036854775808:Int))/\((zkC l x)\/∃(y:Nat),((0:Nat)<y/\y<=(m8 l).len)/\
 (m8 l).len-y<(m8 l).len-x/\((0:Int)+(1:Int)=(↑y:Int)/\((0:Nat)=(0:Nat)/\(1:Nat)=y/\True)/\ []=mR (m8 l) y/\True)/\List.take (1:Nat) [D.sct [D.int (mK (el (m8 l) (0
 :Nat))),D.str [],D.bool (cNm (el (m8 l) (0:Nat))).asProp,D.nil,D.int (0:Int)]]=mL (m8 l) y/\True)
def zjy (l:D) (x:Nat):Prop:=
 (-9223372036854775808:Int)<=(1:Int)+IntKind.i64.wrap (((el (m8 l) x).fld (1:Nat)).asInt.tmod (2:Int))/\(1:Int)+IntKind.i64.wrap (((el (m8 l) x).fld (1:Nat)).asInt.tmod (2:Int))<
 (9223372036854775808:Int)
def zo7 (l:D) (x:Nat):Prop:=
 mK (el (m8 l) x)=(1:Int)->(0:Int)<=(0:Int)/\(0:Int)<(↑(2:Nat):Int)/\(0:Nat)+(0:Nat)<([D.str (nm1 (el (m8 l) x))]++ [D.str (nm2 (el (m8 l) x))]).length/\(0:Nat)+(2:
 Nat)<=([D.str (nm1 (el (m8 l) x))]++ [D.str (nm2 (el (m8 l) x))]).length/\zfX (m8 l) x (D.sct [D.int (mK (el (m8 l) x)),D.str [],D.bool (false=true),D.list (List.take (2:Nat) ([D.str (nm1
 (el (m8 l) x))]++ [D.str (nm2 (el (m8 l) x))])),D.int (0:Int)]) ((zad ([D.str (nm1 (el (m8 l) x))]++ [D.str (nm2 (el (m8 l) x))]) ((0:Nat)+(0:Nat))).asStr)
def zo8 (l:D) (x:Nat):Prop:=
 (mK (el (m8 l) x)=(7:Int)->False)->(mK (el (m8 l) x)=(10:Int)->((64:Int)=(0:Int)->False)/\zfX (m8 l) x (D.sct [D.int (mK (el (m8 l) x)),D.str (mR (m8 l) x),D.bool (false=true),
 D.nil,D.int (IntKind.i64.wrap (((el (m8 l) x).fld (1:Nat)).asInt.tmod (64:Int)))]) (mR (m8 l) x))/\((mK (el (m8 l) x)=(10:Int)->False)->zfX (m8 l) x (D.sct [D.int (mK (el (m8 l) x)),
 D.str (mR (m8 l) x),D.bool (false=true),D.nil,D.int (0:Int)]) (mR (m8 l) x))
def zo9 (l:D) (x:Nat):Prop:=
 (zkC l x)\/∃(y:Nat),((0:Nat)<y/\y<=(m8 l).len)/\(m8 l).len-y<(m8 l).len-x/\((0:Int)+(1:Int)=(↑y:Int)/\((0:Nat)=(0:Nat)/\(1:Nat)=y/\True)/\ []=mR (m8 l) y
 /\True)/\List.take (1:Nat) [D.sct [D.int (mK (el (m8 l) (0:Nat))),D.str [],D.bool (cNm (el (m8 l) (0:Nat))).asProp,D.list (List.take (2:Nat) ([D.str (nm1 (el (m8 l) (0:Nat)))]++ [D.str
 (nm2 (el (m8 l) (0:Nat)))])),D.int (0:Int)]]=mL (m8 l) y/\True
def zr4 (l:D) (x:Nat):Prop:=
 (mK (el (m8 l) (0:Nat))=(1:Int)->False)->(zuA l x)/\((mK (el (m8 l) (0:Nat))=(4:Int)->False)->(zo6 l x)/\((mK (el (m8 l) (0:Nat))=(5:Int)->False)->(mK (el (m8 l) (0:
 Nat))=(6:Int)->(0:Nat)+(2:Nat)<=([D.str (nm1 (el (m8 l) (0:Nat)))]++ [D.str (nm2 (el (m8 l) (0:Nat)))]).length/\(0:Nat)+(1:Nat)<= [D.sct [D.int (mK (el (m8 l) (0:Nat))),
 D.str [],D.bool (cNm (el (m8 l) (0:Nat))).asProp,D.list (List.take (2:Nat) ([D.str (nm1 (el (m8 l) (0:Nat)))]++ [D.str (nm2 (el (m8 l) (0:Nat)))])),D.int (0:Int)]].length/\(1:Nat)<=
 (16777216:Nat)/\((-9223372036854775808:Int)<=(0:Int)+(1:Int)/\(0:Int)+(1:Int)<(9223372036854775808:Int))/\(zo9 l x))/\((mK (el (m8 l) (0:Nat))=(6:Int)->False)->(mK
 (el (m8 l) (0:Nat))=(7:Int)->(0:Nat)+(2:Nat)<=([D.str (nm1 (el (m8 l) (0:Nat)))]++ [D.str (nm2 (el (m8 l) (0:Nat)))]).length/\(0:Nat)+(1:Nat)<= [D.sct [D.int (mK (el (m8 l)
 (0:Nat))),D.str [],D.bool (cNm (el (m8 l) (0:Nat))).asProp,D.list (List.take (2:Nat) ([D.str (nm1 (el (m8 l) (0:Nat)))]++ [D.str (nm2 (el (m8 l) (0:Nat)))])),D.int (0:Int)]].length/\
 (1:Nat)<=(16777216:Nat)/\((-9223372036854775808:Int)<=(0:Int)+(1:Int)/\(0:Int)+(1:Int)<(9223372036854775808:Int))/\(zo9 l x))/\(zuz l x))))
def zpa (l:D) (x:Nat):Prop:=
 (mK (el (m8 l) x)=(7:Int)->False)->(mK (el (m8 l) x)=(10:Int)->((64:Int)=(0:Int)->False)/\zfX (m8 l) x (D.sct [D.int (mK (el (m8 l) x)),D.str [],D.bool (false=true),D.nil,
 D.int (IntKind.i64.wrap (((el (m8 l) x).fld (1:Nat)).asInt.tmod (64:Int)))]) (mR (m8 l) x))/\((mK (el (m8 l) x)=(10:Int)->False)->zfX (m8 l) x (D.sct [D.int (mK (el (m8 l) x)),D.str [],
 D.bool (false=true),D.nil,D.int (0:Int)]) (mR (m8 l) x))
def zux (l:D) (x:Nat):Prop:=
 (mK (el (m8 l) x)=(1:Int)->False)->(mK (el (m8 l) x)=(4:Int)->((2:Int)=(0:Int)->False)/\(zjy l x)/\zfX (m8 l) x (D.sct [D.int (mK (el (m8 l) x)),D.str [],D.bool (cNm (el (m8
 l) x)).asProp,D.nil,D.int ((1:Int)+IntKind.i64.wrap (((el (m8 l) x).fld (1:Nat)).asInt.tmod (2:Int)))]) (mR (m8 l) x))/\((mK (el (m8 l) x)=(4:Int)->False)->(mK (el (m8 l) x)=(5:
 Int)->zfX (m8 l) x (D.sct [D.int (mK (el (m8 l) x)),D.str [],D.bool (cNm (el (m8 l) x)).asProp,D.nil,D.int (0:Int)]) (mR (m8 l) x))/\((mK (el (m8 l) x)=(5:Int)->False)->(mK (el (m8 l)
 x)=(6:Int)->(0:Nat)+(2:Nat)<=([D.str (nm1 (el (m8 l) x))]++ [D.str (nm2 (el (m8 l) x))]).length/\zfX (m8 l) x (D.sct [D.int (mK (el (m8 l) x)),D.str [],D.bool (cNm (el (m8 l)
 x)).asProp,D.list (List.take (2:Nat) ([D.str (nm1 (el (m8 l) x))]++ [D.str (nm2 (el (m8 l) x))])),D.int (0:Int)]) (mR (m8 l) x))/\((mK (el (m8 l) x)=(6:Int)->False)->(mK (el (m8 l) x)=
 (7:Int)->(0:Nat)+(2:Nat)<=([D.str (nm1 (el (m8 l) x))]++ [D.str (nm2 (el (m8 l) x))]).length/\zfX (m8 l) x (D.sct [D.int (mK (el (m8 l) x)),D.str [],D.bool (cNm (el (m8 l) x)).asProp,
 D.list (List.take (2:Nat) ([D.str (nm1 (el (m8 l) x))]++ [D.str (nm2 (el (m8 l) x))])),D.int (0:Int)]) (mR (m8 l) x))/\(zpa l x))))
def zuy (l:D) (x:Nat):Prop:=
 (mK (el (m8 l) x)=(1:Int)->False)->(mK (el (m8 l) x)=(4:Int)->((2:Int)=(0:Int)->False)/\(zjy l x)/\zfX (m8 l) x (D.sct [D.int (mK (el (m8 l) x)),D.str [],D.bool (cNm (el (m8
 l) x)).asProp,D.nil,D.int ((1:Int)+IntKind.i64.wrap (((el (m8 l) x).fld (1:Nat)).asInt.tmod (2:Int)))]) (mR (m8 l) x))/\((mK (el (m8 l) x)=(4:Int)->False)->(mK (el (m8 l) x)=(5:
 Int)->zfX (m8 l) x (D.sct [D.int (mK (el (m8 l) x)),D.str [],D.bool (cNm (el (m8 l) x)).asProp,D.nil,D.int (0:Int)]) (mR (m8 l) x))/\((mK (el (m8 l) x)=(5:Int)->False)->(mK (el (m8 l)
 x)=(6:Int)->(0:Nat)+(1:Nat)<= [D.str (nm1 (el (m8 l) x))].length/\zfX (m8 l) x (D.sct [D.int (mK (el (m8 l) x)),D.str [],D.bool (cNm (el (m8 l) x)).asProp,D.list (List.take (1:Nat)
 [D.str (nm1 (el (m8 l) x))]),D.int (0:Int)]) (mR (m8 l) x))/\((mK (el (m8 l) x)=(6:Int)->False)->(mK (el (m8 l) x)=(7:Int)->(0:Nat)+(1:Nat)<= [D.str (nm1 (el (m8 l) x))].length/\
 zfX (m8 l) x (D.sct [D.int (mK (el (m8 l) x)),D.str [],D.bool (cNm (el (m8 l) x)).asProp,D.list (List.take (1:Nat) [D.str (nm1 (el (m8 l) x))]),D.int (0:Int)]) (mR (m8 l) x))/\(zpa l
 x))))
def zpb (l:D) (x:Nat):Prop:=
 mK (el (m8 l) x)=(1:Int)->(0:Int)<=(0:Int)/\(0:Int)<(↑(1:Nat):Int)/\(0:Nat)+(0:Nat)< [D.str (nm1 (el (m8 l) x))].length/\(0:Nat)+(1:Nat)<= [D.str (nm1 (el (m8 l)
 x))].length/\zfX (m8 l) x (D.sct [D.int (mK (el (m8 l) x)),D.str [],D.bool (false=true),D.list (List.take (1:Nat) [D.str (nm1 (el (m8 l) x))]),D.int (0:Int)]) ((zad [D.str (nm1 (el (m8 l)
 x))] ((0:Nat)+(0:Nat))).asStr)
def zpc (l:D) (x:Nat):Prop:=
 (zkC l x)\/∃(y:Nat),((0:Nat)<y/\y<=(m8 l).len)/\(m8 l).len-y<(m8 l).len-x/\((0:Int)+(1:Int)=(↑y:Int)/\((0:Nat)=(0:Nat)/\(1:Nat)=y/\True)/\ []=mR (m8 l) y
 /\True)/\List.take (1:Nat) [D.sct [D.int (mK (el (m8 l) (0:Nat))),D.str [],D.bool (cNm (el (m8 l) (0:Nat))).asProp,D.list (List.take (1:Nat) [D.str (nm1 (el (m8 l) (0:Nat)))]),D.int (0
 :Int)]]=mL (m8 l) y/\True
def zr5 (l:D) (x:Nat):Prop:=
 (mK (el (m8 l) (0:Nat))=(1:Int)->False)->(zuA l x)/\((mK (el (m8 l) (0:Nat))=(4:Int)->False)->(zo6 l x)/\((mK (el (m8 l) (0:Nat))=(5:Int)->False)->(mK (el (m8 l) (0:
 Nat))=(6:Int)->(0:Nat)+(1:Nat)<= [D.str (nm1 (el (m8 l) (0:Nat)))].length/\(0:Nat)+(1:Nat)<= [D.sct [D.int (mK (el (m8 l) (0:Nat))),D.str [],D.bool (cNm (el (m8 l) (0:
 Nat))).asProp,D.list (List.take (1:Nat) [D.str (nm1 (el (m8 l) (0:Nat)))]),D.int (0:Int)]].length/\(1:Nat)<=(16777216:Nat)/\((-9223372036854775808:Int)<=(0:Int)+(1:Int)/\(0:
 Int)+(1:Int)<(9223372036854775808:Int))/\(zpc l x))/\((mK (el (m8 l) (0:Nat))=(6:Int)->False)->(mK (el (m8 l) (0:Nat))=(7:Int)->(0:Nat)+(1:Nat)<= [D.str (nm1 (el (m8
 l) (0:Nat)))].length/\(0:Nat)+(1:Nat)<= [D.sct [D.int (mK (el (m8 l) (0:Nat))),D.str [],D.bool (cNm (el (m8 l) (0:Nat))).asProp,D.list (List.take (1:Nat) [D.str (nm1 (el (m8 l) (0:
 Nat)))]),D.int (0:Int)]].length/\(1:Nat)<=(16777216:Nat)/\((-9223372036854775808:Int)<=(0:Int)+(1:Int)/\(0:Int)+(1:Int)<(9223372036854775808:Int))/\(zpc l x))/\
 (zuz l x))))
theorem zzh:∀(l:D),zag (zrg (λ_=>none) zil) 3 (29:FuncId) [V.dat (40:TypeId) l] (V.ownr (69:TypeId) false (0<(mL (m8 l) (m8 l).len).length) (mL (m8 l) (m8 l).len))=((0:Int)<=0/\0<=min
(l.len:Int) 8/\min (l.len:Int) 8<=(l.len:Int)/\((∃(x:Nat),x=0/\((0:Int)=0/\True/\([]:List UInt8)= []/\True)/\True)\/∃(x:Nat),(0<x/\x<=(m8 l).len)/\(0=(x:Int)/\False/\ []=mR (m8
l) x/\True)/\False/\True)/\(∀(x:Nat),x=0->(m8 l).len-x<LIM/\(0<(↑(m8 l).len:Int)->(0:Int)<=0/\0<(↑(m8 l).len:Int)/\((10:Int)=0->False)/\((4:Int)=0->False)/\0<=((el (m8 l) 0).fld
2).asInt.tmod 4/\((el (m8 l) 0).fld 2).asInt.tmod 4<=(zaS.length:Int)/\(zaS.length:Int)<=(zaS.length:Int)/\(0:Int)<=0/\(0:Int)<=1/\1<=(↑(List.take (zaS.length-(((el (m8 l) 0).fld 2).asInt.tmod
4).toNat) (List.drop (((el (m8 l) 0).fld 2).asInt.tmod 4).toNat zaS)).length:Int)/\(0<=((el (m8 l) 0).fld 2).asInt/\(0:Int)<=4/\(0<=((el (m8 l) 0).fld 2).asInt/\((el (m8 l) 0).fld 2).asInt<256)/\((0:Int)
<=4/\(4:Int)<256)/\((zae ((el (m8 l) 0).fld 2).asInt 4=0->False)->((4:Int)=0->False)/\0<=(IntKind.u8.wrap (((el (m8 l) 0).fld 2).asInt+1)).tmod 4/\(IntKind.u8.wrap (((el (m8 l) 0).fld 2).asInt+
1)).tmod 4<=(zaS.length:Int)/\(zaS.length:Int)<=(zaS.length:Int)/\(0:Int)<=0/\(0:Int)<=1/\1<=(↑(List.take (zaS.length-((IntKind.u8.wrap (((el (m8 l) 0).fld 2).asInt+1)).tmod 4).toNat)
(List.drop ((IntKind.u8.wrap (((el (m8 l) 0).fld 2).asInt+1)).tmod 4).toNat zaS)).length:Int)/\0+1<= [D.str (nm2 (el (m8 l) 0))].length/\0+1<= [D.str (nm1 (el (m8 l) 0))].length/\(1:Nat)+1<=8796093022208
/\((∃(x:Unit),zae ((el (m8 l) 0).fld 2).asInt 4=0/\False)\/∃(x:Unit),(zae ((el (m8 l) 0).fld 2).asInt 4=0->False)/\(((0:Nat)=0/\(1:Nat)+1=2/\True)/\True)/\List.take 1 [D.str (nm1 (el (m8
l) 0))]++List.take 1 [D.str (nm2 (el (m8 l) 0))]= [D.str (nm1 (el (m8 l) 0))]++ [D.str (nm2 (el (m8 l) 0))]/\True))/\(((zae ((el (m8 l) 0).fld 2).asInt 4=0->False)->False)->(∃(x:Unit),zae ((el (m8 l)
0).fld 2).asInt 4=0/\(((0:Nat)=0/\(1:Nat)=1/\(1:Nat)=1)/\True)/\ [D.str (nm1 (el (m8 l) 0))]= [D.str (nm1 (el (m8 l) 0))]/\True)\/∃(x:Unit),(zae ((el (m8 l) 0).fld 2).asInt 4=0->False)/\
False))/\(∀(x_1:Unit),zae ((el (m8 l) 0).fld 2).asInt 4=0->(((el (m8 l) 0).fld 4).asProp->((mK (el (m8 l) 0)=1->False)->(zr7 l x)/\(zr5 l x))/\(((mK (el (m8 l) 0)=1->False)->False)->(zr7 l x)
/\(zr5 l x)))/\((((el (m8 l) 0).fld 4).asProp->False)->(zr7 l x)/\(zr5 l x)))/\∀(x_1:Unit),(zae ((el (m8 l) 0).fld 2).asInt 4=0->False)->(((el (m8 l) 0).fld 4).asProp->((mK (el (m8 l) 0)=1->
False)->(zr6 l x)/\(zr4 l x))/\(((mK (el (m8 l) 0)=1->False)->False)->(zr6 l x)/\(zr4 l x)))/\((((el (m8 l) 0).fld 4).asProp->False)->(zr6 l x)/\(zr4 l x)))/\((0<(↑(m8 l).len:Int)->False)->
(0<(mL (m8 l) (m8 l).len).length->False)))/\∀(x:Nat),0<x/\x<=(m8 l).len->(m8 l).len-x<LIM/\((x:Int)<(↑(m8 l).len:Int)->0<=(x:Int)/\(x:Int)<(↑(m8 l).len:Int)/\((10:Int)=0->False)/\
((4:Int)=0->False)/\0<=((el (m8 l) x).fld 2).asInt.tmod 4/\((el (m8 l) x).fld 2).asInt.tmod 4<=(zaS.length:Int)/\(zaS.length:Int)<=(zaS.length:Int)/\(0:Int)<=0/\(0:Int)<=1/\1<=(↑(List.take
(zaS.length-(((el (m8 l) x).fld 2).asInt.tmod 4).toNat) (List.drop (((el (m8 l) x).fld 2).asInt.tmod 4).toNat zaS)).length:Int)/\(0<=((el (m8 l) x).fld 2).asInt/\(0:Int)<=4/\(0<=((el (m8 l) x).fld 2).asInt
/\((el (m8 l) x).fld 2).asInt<256)/\((0:Int)<=4/\(4:Int)<256)/\((zae ((el (m8 l) x).fld 2).asInt 4=0->False)->((4:Int)=0->False)/\0<=(IntKind.u8.wrap (((el (m8 l) x).fld 2).asInt+1)).tmod 4/\
(IntKind.u8.wrap (((el (m8 l) x).fld 2).asInt+1)).tmod 4<=(zaS.length:Int)/\(zaS.length:Int)<=(zaS.length:Int)/\(0:Int)<=0/\(0:Int)<=1/\1<=(↑(List.take (zaS.length-((IntKind.u8.wrap (((el (m8
l) x).fld 2).asInt+1)).tmod 4).toNat) (List.drop ((IntKind.u8.wrap (((el (m8 l) x).fld 2).asInt+1)).tmod 4).toNat zaS)).length:Int)/\0+1<= [D.str (nm2 (el (m8 l) x))].length/\0+1<= [D.str (nm1 (el (m8 l)
x))].length/\(1:Nat)+1<=8796093022208/\((∃(x_1:Unit),zae ((el (m8 l) x).fld 2).asInt 4=0/\False)\/∃(x_1:Unit),(zae ((el (m8 l) x).fld 2).asInt 4=0->False)/\(((0:Nat)=0/\(1:Nat)+1=2/\
True)/\True)/\List.take 1 [D.str (nm1 (el (m8 l) x))]++List.take 1 [D.str (nm2 (el (m8 l) x))]= [D.str (nm1 (el (m8 l) x))]++ [D.str (nm2 (el (m8 l) x))]/\True))/\(((zae ((el (m8 l) x).fld 2).asInt 4=0->
False)->False)->(∃(x_1:Unit),zae ((el (m8 l) x).fld 2).asInt 4=0/\(((0:Nat)=0/\(1:Nat)=1/\(1:Nat)=1)/\True)/\ [D.str (nm1 (el (m8 l) x))]= [D.str (nm1 (el (m8 l) x))]/\True)\/∃(x_1:Unit),
(zae ((el (m8 l) x).fld 2).asInt 4=0->False)/\False))/\(∀(x_1:Unit),zae ((el (m8 l) x).fld 2).asInt 4=0->(((el (m8 l) x).fld 4).asProp->((mK (el (m8 l) x)=1->False)->(mK (el (m8 l) x)=1->(0:Int)
<=0/\0<(↑(1:Nat):Int)/\0+0< [D.str (nm1 (el (m8 l) x))].length/\0+1<= [D.str (nm1 (el (m8 l) x))].length/\zfX (m8 l) x (D.sct [D.int (mK (el (m8 l) x)),D.str (mR (m8 l) x),D.bool (false=true),D.list
(List.take 1 [D.str (nm1 (el (m8 l) x))]),D.int 0]) ((zad [D.str (nm1 (el (m8 l) x))] (0+0)).asStr))/\((mK (el (m8 l) x)=1->False)->(mK (el (m8 l) x)=4->((2:Int)=0->False)/\(zjy l x)/\zfX (m8 l) x
(D.sct [D.int (mK (el (m8 l) x)),D.str (mR (m8 l) x),D.bool (cNm (el (m8 l) x)).asProp,D.nil,D.int (1+IntKind.i64.wrap (((el (m8 l) x).fld 1).asInt.tmod 2))]) (mR (m8 l) x))/\((mK (el (m8 l) x)=4->False)->(mK
(el (m8 l) x)=5->zfX (m8 l) x (D.sct [D.int (mK (el (m8 l) x)),D.str (mR (m8 l) x),D.bool (cNm (el (m8 l) x)).asProp,D.nil,D.int 0]) (mR (m8 l) x))/\((mK (el (m8 l) x)=5->False)->(mK (el (m8 l) x)=6->0+
1<= [D.str (nm1 (el (m8 l) x))].length/\zfX (m8 l) x (D.sct [D.int (mK (el (m8 l) x)),D.str (mR (m8 l) x),D.bool (cNm (el (m8 l) x)).asProp,D.list (List.take 1 [D.str (nm1 (el (m8 l) x))]),D.int 0]) (mR (m8 l) x))
/\((mK (el (m8 l) x)=6->False)->(mK (el (m8 l) x)=7->0+1<= [D.str (nm1 (el (m8 l) x))].length/\zfX (m8 l) x (D.sct [D.int (mK (el (m8 l) x)),D.str (mR (m8 l) x),D.bool (cNm (el (m8 l) x)).asProp,D.list
(List.take 1 [D.str (nm1 (el (m8 l) x))]),D.int 0]) (mR (m8 l) x))/\(zo8 l x))))))/\(((mK (el (m8 l) x)=1->False)->False)->(zpb l x)/\(zuy l x)))/\((((el (m8 l) x).fld 4).asProp->False)->(zpb l x)
/\(zuy l x)))/\∀(x_1:Unit),(zae ((el (m8 l) x).fld 2).asInt 4=0->False)->(((el (m8 l) x).fld 4).asProp->((mK (el (m8 l) x)=1->False)->(mK (el (m8 l) x)=1->(0:Int)<=0/\0<(↑(2:Nat):Int)/\0+
0<([D.str (nm1 (el (m8 l) x))]++ [D.str (nm2 (el (m8 l) x))]).length/\0+2<=([D.str (nm1 (el (m8 l) x))]++ [D.str (nm2 (el (m8 l) x))]).length/\zfX (m8 l) x (D.sct [D.int (mK (el (m8 l) x)),D.str (mR (m8 l) x),
D.bool (false=true),D.list (List.take 2 ([D.str (nm1 (el (m8 l) x))]++ [D.str (nm2 (el (m8 l) x))])),D.int 0]) ((zad ([D.str (nm1 (el (m8 l) x))]++ [D.str (nm2 (el (m8 l) x))]) (0+0)).asStr))/\((mK (el (m8 l)
x)=1->False)->(mK (el (m8 l) x)=4->((2:Int)=0->False)/\(zjy l x)/\zfX (m8 l) x (D.sct [D.int (mK (el (m8 l) x)),D.str (mR (m8 l) x),D.bool (cNm (el (m8 l) x)).asProp,D.nil,D.int (1+
IntKind.i64.wrap (((el (m8 l) x).fld 1).asInt.tmod 2))]) (mR (m8 l) x))/\((mK (el (m8 l) x)=4->False)->(mK (el (m8 l) x)=5->zfX (m8 l) x (D.sct [D.int (mK (el (m8 l) x)),D.str (mR (m8 l) x),D.bool (cNm (el (m8
l) x)).asProp,D.nil,D.int 0]) (mR (m8 l) x))/\((mK (el (m8 l) x)=5->False)->(mK (el (m8 l) x)=6->0+2<=([D.str (nm1 (el (m8 l) x))]++ [D.str (nm2 (el (m8 l) x))]).length/\zfX (m8 l) x (D.sct [D.int (mK (el
(m8 l) x)),D.str (mR (m8 l) x),D.bool (cNm (el (m8 l) x)).asProp,D.list (List.take 2 ([D.str (nm1 (el (m8 l) x))]++ [D.str (nm2 (el (m8 l) x))])),D.int 0]) (mR (m8 l) x))/\((mK (el (m8 l) x)=6->False)->(mK (el
(m8 l) x)=7->0+2<=([D.str (nm1 (el (m8 l) x))]++ [D.str (nm2 (el (m8 l) x))]).length/\zfX (m8 l) x (D.sct [D.int (mK (el (m8 l) x)),D.str (mR (m8 l) x),D.bool (cNm (el (m8 l) x)).asProp,D.list (List.take 2
([D.str (nm1 (el (m8 l) x))]++ [D.str (nm2 (el (m8 l) x))])),D.int 0]) (mR (m8 l) x))/\(zo8 l x))))))/\(((mK (el (m8 l) x)=1->False)->False)->(zo7 l x)/\(zux l x)))/\((((el (m8 l) x).fld 4).asProp->
False)->(zo7 l x)/\(zux l x)))/\(((x:Int)<(↑(m8 l).len:Int)->False)->0<(mL (m8 l) (m8 l).len).length/\(0:Nat)=0/\x=(mL (m8 l) (m8 l).len).length/\mL (m8 l) x=mL (m8 l) (m8 l).len)):=by intros;kernel_rfl
theorem zAu (l:D) (hu:zq3 l):zag (zrg (λ_=>none) zil) 3 29 [.dat 40 l] (.ownr 69 false (0<(mL (m8 l) (m8 l).len).length) (mL (m8 l) (m8 l).len)):=by
 rw [zzh]
 unfold zr5 zpc zpb zuy zux zpa zr4 zo9 zo8 zo7 zjy zo6 zr7 zuA zuz zkC zr6
 have hl:=zjI l
 have hp:∀x,x<(m8 l).len->u8C (el (m8 l) x):=λx h=>by rw [zwC h];exact hu.out x (by omega)
 refine ⟨Int.le_refl _,by omega,by omega,Or.inl ⟨0,rfl,⟨rfl,trivial,rfl,trivial⟩,trivial⟩,λx hx=>⟨zia (by omega),λh=> ?_,λh=> ?_⟩,λx hx=>⟨zia (by omega),λh=> ?_,λh=> ?_⟩⟩
 .subst hx
  have hq:=(hp 0 (by omega)).out
  have e1:=ztp hq.2.2.1
  have e2:=ztp (zxE (((el (m8 l) 0).fld 2).asInt+1)).1
  have w2:=zlx hq.2.1 2 (by omega)
  have w64:=zlx hq.2.1 64 (by omega)
  clear hp hl hu
  repeat' (first|apply And.intro|intro _|refine Or.inl (Exists.intro () (And.intro (Classical.byContradiction ‹(zae _ 4=0->False)->False›) ?_))|refine Or.inr (Exists.intro () (And.intro ‹zae _ 4=0->False› ?_))|fail)
  all_goals first
   |with_reducible rfl
   |exact True.intro
   |omega
   |exact Nat.le_refl _
   |exact zuP ‹_›
   |exact zpF ‹_›
   |exact zkP h (mC1 ‹_› (by first|exact zlG ‹_› ‹_›|exact zex ‹_›|exact zea ‹_›) (by first|exact zvN ‹_›|exact zvO ‹_›)) (zys (x:=0) ‹_›)
   |exact zkP h (mC4 ‹_› (by first|exact zlG ‹_› ‹_›|exact zex ‹_›|exact zea ‹_›)) (zng ‹_›)
   |exact zkP h (mC5 ‹_› (by first|exact zlG ‹_› ‹_›|exact zex ‹_›|exact zea ‹_›)) (zng ‹_›)
   |exact zkP h (mC6 ‹_› (by first|exact zlG ‹_› ‹_›|exact zex ‹_›|exact zea ‹_›) (by first|exact zvN ‹_›|exact zvO ‹_›)) (zng ‹_›)
   |exact zkP h (mC7 ‹_› (by first|exact zlG ‹_› ‹_›|exact zex ‹_›|exact zea ‹_›) (by first|exact zvN ‹_›|exact zvO ‹_›)) (zng ‹_›)
   |exact zkP h (zyr ‹_› (by first|exact zlG ‹_› ‹_›|exact zex ‹_›|exact zea ‹_›)) (zng ‹_›)
   |exact zkP h (mC0 ‹_› ‹_› ‹_› ‹_› ‹_› ‹_› (by first|exact zlG ‹_› ‹_›|exact zex ‹_›|exact zea ‹_›)) (zng ‹_›)
   |rfl
   |exact Nat.zero_lt_succ _
 .intro k
  rw [zd2] at k
  have h:¬(0:Int)<((m8 l).len:Int):=h
  omega
 .have hq:=(hp x (by omega)).out
  have e1:=ztp hq.2.2.1
  have e2:=ztp (zxE (((el (m8 l) x).fld 2).asInt+1)).1
  have w2:=zlx hq.2.1 2 (by omega)
  have w64:=zlx hq.2.1 64 (by omega)
  have hll:0+x<=(mL (m8 l) x).length:=by rw [zd2];omega
  clear hp hu
  repeat' (first|apply And.intro|intro _|refine Or.inl (Exists.intro () (And.intro (Classical.byContradiction ‹(zae _ 4=0->False)->False›) ?_))|refine Or.inr (Exists.intro () (And.intro ‹zae _ 4=0->False› ?_))|fail)
  all_goals first
   |with_reducible rfl
   |exact True.intro
   |omega
   |exact hll
   |exact Nat.le_refl _
   |exact zuP ‹_›
   |exact zpF ‹_›
   |exact zuX h (mC1 ‹_› (by first|exact zlG ‹_› ‹_›|exact zex ‹_›|exact zea ‹_›) (by first|exact zvN ‹_›|exact zvO ‹_›)) (zys ‹_›)
   |exact zuX h (mC4 ‹_› (by first|exact zlG ‹_› ‹_›|exact zex ‹_›|exact zea ‹_›)) (zsi ‹_›)
   |exact zuX h (mC5 ‹_› (by first|exact zlG ‹_› ‹_›|exact zex ‹_›|exact zea ‹_›)) (zsi ‹_›)
   |exact zuX h (mC6 ‹_› (by first|exact zlG ‹_› ‹_›|exact zex ‹_›|exact zea ‹_›) (by first|exact zvN ‹_›|exact zvO ‹_›)) (zsi ‹_›)
   |exact zuX h (mC7 ‹_› (by first|exact zlG ‹_› ‹_›|exact zex ‹_›|exact zea ‹_›) (by first|exact zvN ‹_›|exact zvO ‹_›)) (zsi ‹_›)
   |exact zuX h (zyr ‹_› (by first|exact zlG ‹_› ‹_›|exact zex ‹_›|exact zea ‹_›)) (zsi ‹_›)
   |exact zuX h (mC0 ‹_› ‹_› ‹_› ‹_› ‹_› ‹_› (by first|exact zlG ‹_› ‹_›|exact zex ‹_›|exact zea ‹_›)) (zsi ‹_›)
   |rfl
   |exact Nat.zero_lt_succ _
 .have e:=zcc hx.2 h
  subst e
  exact ⟨by rw [zd2];exact hx.1,rfl,(zd2 _ _).symm,rfl⟩
end
end Go.Ev

end

section
open Go.Proofs
namespace Go.Ev
noncomputable section
set_option maxRecDepth 100000
theorem v90:∀d,5<=d->VC d 90 zm0:=λd hd=>
 zaf (C:=zrg (λ_=>none) zil) (G:=GC) (B:=2) (m:=3) rfl rfl rfl (λd _=>zg7 d) (λ_ _ _ _ h=>(zeQ h).elim) (λus p r hc hp ht=>by
  unfold zm0 at hc
  split at hc
  .cases hc;exact s90 _ _ _ hp.1 hp.2
  .cases hc) (λ_ _=>rfl) rfl rfl d hd
theorem vg0:∀d,5<=d->∀g c,(λ|90=>some zm0|_=>none:FuncId->Option Con) g=some c->VC d g c:=λd hd g c h=>by
 dsimp only at h
 split at h
 .cases h;exact v90 d hd
 .cases h
theorem v30:∀d,8<=d->VC d 30 zv6:=λd hd=>
 zat (C:=zrg (λ|90=>some zm0|_=>none) zil) (G:=GC) (B:=5) (m:=3) rfl rfl rfl vg0 (λus p r hc hp ht=>by
  unfold zv6 at hc
  split at hc
  .cases hc;exact s30 _ _ hp.1 hp.2.1 hp.2.2
  .cases hc) (λ_ _=>rfl) rfl rfl d hd
theorem zA1 (g:D):∀d,8<=d->VC d 30 (zoD g):=λd hd us p r hc hp=>by
 unfold zoD at hc;split at hc
 .cases hc;obtain ⟨h1,rfl⟩:=hp;exact v30 d hd _ _ _ rfl h1
 .cases hc
theorem zA0:∀d,5<=d->VC d 29 zoC:=λd hd=>
 zat (C:=zrg (λ_=>none) zil) (G:=GC) (B:=2) (m:=3) rfl rfl rfl (λd _=>zg7 d) (λus p r hc hp ht=>by
  unfold zoC at hc
  split at hc
  .cases hc;exact zAu _ hp
  .cases hc) (λ_ _=>rfl) rfl rfl d hd
theorem zA3:∀d,5<=d->VC d 45 zoF:=λd hd=>
 zat (C:=zku (λ_=>none) .nil .nil .nil .nil []) (G:=GC) (B:=2) (m:=3) rfl rfl rfl (λd _=>zg7 d) (λus p r hc hp ht=>by
  unfold zoF at hc
  split at hc
  .cases hc;exact zAv _ _ hp
  .cases hc) (λ_ _=>rfl) rfl rfl d hd
open Classical in
theorem zAB:∀d,8<=d->VC d 104 zlM:=λd hd us p r hc hp=>by
 have hc0:=hc
 unfold zlM at hc;split at hc
 .rename_i s g
  exact zat (C:=zxm (λ_=>none) s g) (G:=GC) (B:=2) (m:=6) (g:=104) (c:=λus=>if us= [.str s,.dat 23 g] then zlM us else none) rfl rfl rfl (λd _=>zg7 d) (λus p r hc hp ht=>by
   split at hc
   .rename_i e;subst e;cases hc;exact zz4 _ _ hp
   .cases hc) (λ_ _=>rfl) rfl rfl d hd _ p r (by show (if _ then _ else _)=_;rw [if_pos rfl];exact hc0) hp
 .cases hc
theorem zBn:∀d,41<=d->∀g c,tv0 g=some c->VC d g c:=λd hd g c h=>by
 unfold tv0 at h
 split at h
 .cases h;exact v98 d (by omega)
 .cases h;exact zzB d (by omega)
 .cases h;exact zyO d (by omega)
 .cases h;exact zAB d (by omega)
 .cases h;exact v99 d (by omega)
 .cases h
open Classical in
theorem v43:∀d,45<=d->VC d 43 zrC:=λd hd us p r hc hp=>by
 have hc0:=hc
 unfold zrC at hc;split at hc
 .rename_i ct nm g
  exact zat (C:=zxn tv0 ct nm g) (G:=GC) (B:=41) (m:=4) (g:=43) (c:=λus=>if us= [.dat 28 ct,.dat 29 nm,.dat 23 g] then zrC us else none) rfl rfl rfl zBn (λus p r hc hp ht=>by
   split at hc
   .rename_i e;subst e;cases hc;exact s43 _ _ _ hp
   .cases hc) (λ_ _=>rfl) rfl rfl d hd _ p r (by show (if _ then _ else _)=_;rw [if_pos rfl];exact hc0) hp
 .cases hc
theorem zA2 {ct nm g:D} {ls:List Nat} (h:zu8 ct nm g) (e:alD ct nm g=(iD ls,0)):∀d,45<=d->VC d 43 (zoE ct nm g ls):=λd hd us p r hc hp=>by
 unfold zoE at hc;split at hc
 .cases hc;obtain ⟨rfl,rfl,rfl⟩:=hp
  exact v43 d hd _ (zu8 _ _ _) _ (by unfold zrC;show some (_,V.tup [V.dat 34 (alD _ _ _).1,V.int IntKind.i64 (alD _ _ _).2])=_;rw [e]) h
 .cases hc
theorem zBm {ct nm g:D} {ls:List Nat} (h:zu8 ct nm g) (e:alD ct nm g=(iD ls,0)):∀d,45<=d->∀f k,tk0 ct nm g ls f=some k->VC d f k:=λd hd f k hk=>by
 unfold tk0 at hk
 split at hk
 .cases hk;exact zA0 d (by omega)
 .cases hk;exact zq4 (zA1 g d (by omega))
 .cases hk;exact zA2 h e d hd
 .cases hk;exact zA3 d (by omega)
 .cases hk;exact v32 d (by omega)
 .cases hk
structure u8A (l:D):Prop where
 out:∀i,i<l.len->zq3 (el l i)
def zhl:Con:=λ| [.dat 76 l,.dat 48 p]=>some (u8A l/\zvB p,.prop True)|_=>none
open Classical in
theorem zAC:∀d,49<=d->VC d 11 zhl:=λd hd us p r hc hp=>by
 have hc0:=hc
 unfold zhl at hc;split at hc
 .rename_i l ps
  cases hc
  have h4:=zpK (n:=4) (by omega) l
  have hl:(LL l).len<=4:=by have:(LL l).len=(mG 4 l).len:=rfl;omega
  have hu:∀i,i<(LL l).len->zq3 (el (LL l) i):=λi hi=>by
   have e:el (LL l) i=el l i:=zwD (n:=4) (l:=l) hi
   rw [e];exact hp.1.out i (by have:(LL l).len=(mG 4 l).len:=rfl;omega)
  obtain ⟨ls,hA,eA,F⟩:=zsO (ps:=ps) hl hu
  exact zat (C:=zku (tk0 (tcF (LL l)) (tnF (LL l)) (gsD 20 ps) ls) (LL l) (tcF (LL l)) (tnF (LL l)) (gsD 20 ps) ls) (G:=GC) (B:=45) (m:=4) (g:=11) (c:=λus=>if us= [.dat 76 l,.dat 48 ps] then zhl us else none) rfl rfl rfl (zBm hA eA) (λus p r hc hp ht=>by
   split at hc
   .rename_i e;subst e;cases hc
    exact s11 l ps _ _ _ ls hp.2 rfl rfl rfl hu hl ⟨by omega,by omega⟩ F
   .cases hc) (λ_ _=>rfl) rfl rfl d hd _ _ _ (by show (if _ then _ else _)=_;rw [if_pos rfl];exact hc0) hp
 .cases hc
section
variable {P:Program}
theorem zjM {f:Nat} {t:TypeId} {d:D} {k:IntKind} (hu:P.underlying t=some (.int k)) (h:okD P (f+1) t d):inR k d.asInt:=by
 unfold okD at h;rw [hu] at h
 obtain ⟨n,rfl,hr⟩:=h
 exact hr
theorem zig {f:Nat} {t e:TypeId} {d:D} (hu:P.underlying t=some (.slice e)) (h:okD P (f+1) t d):∀i,i<d.len->okD P f e (el d i):=by
 unfold okD at h;rw [hu] at h
 rcases h with rfl| ⟨l,rfl,_,h⟩
 .exact λi hi=>by simp [D.len,D.asList] at hi
 .refine λi hi=>h i _ ?_
  have hi:i<l.length:=hi
  show l[i]? =some (zad l i)
  unfold zad
  rw [List.getElem?_eq_getElem hi];rfl
theorem zpZ {f:Nat} {t u:TypeId} {d:D} {f0 f1 f2 f3 f4:Field} (hu:P.underlying t=some (.struct #[f0,f1,f2,f3,f4])) (h0:f0.type=u) (h1:f1.type=u) (h2:f2.type=u)
  (hb:P.underlying u=some (.int .u8)) (h:okD P (f+2) t d):u8C d:=by
 unfold okD at h;rw [hu] at h
 obtain ⟨ds,rfl,hl,hf⟩:=h
 match ds,hl with
 | [a,b,c,x,y],_=>exact ⟨zjM hb (h0▸hf 0 _ a rfl rfl),zjM hb (h1▸hf 1 _ b rfl rfl),zjM hb (h2▸hf 2 _ c rfl rfl)⟩
theorem zp0 {f:Nat} {t u:TypeId} {d:D} {f0 f1:Field} (hu:P.underlying t=some (.struct #[f0,f1])) (h0:f0.type=u) (h1:f1.type=u)
  (hb:P.underlying u=some (.int .u8)) (h:okD P (f+2) t d):u8P d:=by
 unfold okD at h;rw [hu] at h
 obtain ⟨ds,rfl,hl,hf⟩:=h
 match ds,hl with
 | [a,b],_=>exact ⟨zjM hb (h0▸hf 0 _ a rfl rfl),zjM hb (h1▸hf 1 _ b rfl rfl)⟩
end
theorem zzT {d:D} (h:okD Tryz.prog 20 76 d):u8A d:=⟨λi hi=>⟨λj hj=>zpZ Tryz.underlying121 rfl rfl rfl Tryz.underlying5 (zig Tryz.underlying40 (zig Tryz.underlying76 h i hi) j hj)⟩⟩
theorem zzS {d:D} (h:okD Tryz.prog 20 48 d):zvB d:=⟨λi hi=>zp0 Tryz.underlying42 rfl rfl Tryz.underlying5 (zig Tryz.underlying48 h i hi)⟩
end
end Go.Ev

end
