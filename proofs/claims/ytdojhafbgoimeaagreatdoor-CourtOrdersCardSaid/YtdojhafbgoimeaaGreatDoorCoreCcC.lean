/- Part of the proof. -/
import Derived.Test.YtdojhafbgoimeaaGreatDoorCoreG24
open Go.Proofs
namespace Go.Ev
set_option maxRecDepth 100000
set_option maxHeartbeats 4000000
theorem zyJ:∀(c:D) (i:Int),zac (ctx cc1 zaY) 3 (154:FuncId) [V.dat (22:TypeId) c,V.int IntKind.i64 i] (V.int IntKind.i64 (zdI c i.toNat))=(0<=i/\i<(c.len:Int)/\True/\((zay (cK (el c
i.toNat)) (cA (el c i.toNat)) (cL (el c i.toNat)) (cNm (el c i.toNat)).len (cN (el c i.toNat))->False)->30=zdI c i.toNat)/\(((zay (cK (el c i.toNat)) (cA (el c i.toNat)) (cL (el c i.toNat)) (cNm (el c
i.toNat)).len (cN (el c i.toNat))->False)->False)->0<=i/\i<(c.len:Int)/\((cA (el c i.toNat)= []->False)->0<=i/\i<(c.len:Int)/\True/\((zaI (cA (el c i.toNat))->False)->4=zdI c i.toNat)/\
(((zaI (cA (el c i.toNat))->False)->False)->(∃(x:Nat),(x<=(cNm (el c i.toNat)).len/\∀(i_1:Nat),i_1<x->zaI (sAt (cNm (el c i.toNat)) i_1))/\(0=(x:Int)/\True)/\True)/\∀(x:Nat),(x<=(cNm (el
c i.toNat)).len/\∀(i_1:Nat),i_1<x->zaI (sAt (cNm (el c i.toNat)) i_1))->(cNm (el c i.toNat)).len-x<LIM/\0<=i/\i<(c.len:Int)/\((x:Int)<(↑(cNm (el c i.toNat)).len:Int)->0<=i/\i<(c.len:
Int)/\0<=(x:Int)/\(x:Int)<(↑(cNm (el c i.toNat)).len:Int)/\True/\((zaI (sAt (cNm (el c i.toNat)) x)->False)->4=zdI c i.toNat)/\(((zaI (sAt (cNm (el c i.toNat)) x)->False)->False)->fits64 ((x:
Int)+1)/\∃(y:Nat),(y<=(cNm (el c i.toNat)).len/\∀(i_1:Nat),i_1<y->zaI (sAt (cNm (el c i.toNat)) i_1))/\(cNm (el c i.toNat)).len-y<(cNm (el c i.toNat)).len-x/\((x:Int)+1=(y:Int)/\True)/\
True))/\(((x:Int)<(↑(cNm (el c i.toNat)).len:Int)->False)->(∃(x:Nat),(x<=(cNm (el c i.toNat)).len/\∀(i_1 k:Nat),k<i_1->i_1<x->sAt (cNm (el c i.toNat)) k=sAt (cNm (el c i.toNat)) i_1->False)/\
(0=(x:Int)/\True)/\True)/\∀(x:Nat),(x<=(cNm (el c i.toNat)).len/\∀(i_1 k:Nat),k<i_1->i_1<x->sAt (cNm (el c i.toNat)) k=sAt (cNm (el c i.toNat)) i_1->False)->(cNm (el c i.toNat)).len-x<LIM/\
0<=i/\i<(c.len:Int)/\((x:Int)<(↑(cNm (el c i.toNat)).len:Int)->0<=i/\i<(c.len:Int)/\(0:Int)<=0/\0<=(x:Int)/\(x:Int)<=(↑(cNm (el c i.toNat)).len:Int)/\0<=i/\i<(c.len:Int)/\0<=(x
:Int)/\(x:Int)<(↑(cNm (el c i.toNat)).len:Int)/\((cNm (el c i.toNat)).sub 0 x).len<=100/\(zbk ((cNm (el c i.toNat)).sub 0 x) (sAt (cNm (el c i.toNat)) x)->5=zdI c i.toNat)/\((zbk ((cNm (el c
i.toNat)).sub 0 x) (sAt (cNm (el c i.toNat)) x)->False)->fits64 ((x:Int)+1)/\∃(y:Nat),(y<=(cNm (el c i.toNat)).len/\∀(i_1 k:Nat),k<i_1->i_1<y->sAt (cNm (el c i.toNat)) k=sAt (cNm (el c i.toNat))
i_1->False)/\(cNm (el c i.toNat)).len-y<(cNm (el c i.toNat)).len-x/\((x:Int)+1=(y:Int)/\True)/\True))/\(((x:Int)<(↑(cNm (el c i.toNat)).len:Int)->False)->0<=i/\i<(c.len:Int)/\(cA (el c
i.toNat)= []->0=zdI c i.toNat)/\((cA (el c i.toNat)= []->False)->(∃(x:Nat),(x<=i.toNat/\∀(k:Nat),k<x->cK (el c k)=1/\zbk (cNm (el c k)) (cA (el c i.toNat))->False)/\(0=(x:Int)/\True)/\
True)/\∀(x:Nat),(x<=i.toNat/\∀(k:Nat),k<x->cK (el c k)=1/\zbk (cNm (el c k)) (cA (el c i.toNat))->False)->i.toNat-x<LIM/\((x:Int)<i->0<=(x:Int)/\(x:Int)<(c.len:Int)/\(cK (el c x)
=1->0<=(x:Int)/\(x:Int)<(c.len:Int)/\0<=i/\i<(c.len:Int)/\(cNm (el c x)).len<=100/\(zbk (cNm (el c x)) (cA (el c i.toNat))->0=zdI c i.toNat)/\((zbk (cNm (el c x)) (cA (el c i.toNat))->False)
->fits64 ((x:Int)+1)/\∃(y:Nat),(y<=i.toNat/\∀(k:Nat),k<y->cK (el c k)=1/\zbk (cNm (el c k)) (cA (el c i.toNat))->False)/\i.toNat-y<i.toNat-x/\((x:Int)+1=(y:Int)/\True)/\True))/\
((cK (el c x)=1->False)->fits64 ((x:Int)+1)/\∃(y:Nat),(y<=i.toNat/\∀(k:Nat),k<y->cK (el c k)=1/\zbk (cNm (el c k)) (cA (el c i.toNat))->False)/\i.toNat-y<i.toNat-x/\((x:Int)+1=(y
:Int)/\True)/\True))/\(((x:Int)<i->False)->31=zdI c i.toNat))))))/\(((cA (el c i.toNat)= []->False)->False)->(∃(x:Nat),(x<=(cNm (el c i.toNat)).len/\∀(i_1:Nat),i_1<x->zaI (sAt (cNm (el c
i.toNat)) i_1))/\(0=(x:Int)/\True)/\True)/\∀(x:Nat),(x<=(cNm (el c i.toNat)).len/\∀(i_1:Nat),i_1<x->zaI (sAt (cNm (el c i.toNat)) i_1))->(cNm (el c i.toNat)).len-x<LIM/\0<=i/\i<(c.len:
Int)/\((x:Int)<(↑(cNm (el c i.toNat)).len:Int)->0<=i/\i<(c.len:Int)/\0<=(x:Int)/\(x:Int)<(↑(cNm (el c i.toNat)).len:Int)/\True/\((zaI (sAt (cNm (el c i.toNat)) x)->False)->4=zdI c
i.toNat)/\(((zaI (sAt (cNm (el c i.toNat)) x)->False)->False)->fits64 ((x:Int)+1)/\∃(y:Nat),(y<=(cNm (el c i.toNat)).len/\∀(i_1:Nat),i_1<y->zaI (sAt (cNm (el c i.toNat)) i_1))/\(cNm (el c
i.toNat)).len-y<(cNm (el c i.toNat)).len-x/\((x:Int)+1=(y:Int)/\True)/\True))/\(((x:Int)<(↑(cNm (el c i.toNat)).len:Int)->False)->(∃(x:Nat),(x<=(cNm (el c i.toNat)).len/\∀(i_1 k:Nat),k
<i_1->i_1<x->sAt (cNm (el c i.toNat)) k=sAt (cNm (el c i.toNat)) i_1->False)/\(0=(x:Int)/\True)/\True)/\∀(x:Nat),(x<=(cNm (el c i.toNat)).len/\∀(i_1 k:Nat),k<i_1->i_1<x->sAt (cNm (el c
i.toNat)) k=sAt (cNm (el c i.toNat)) i_1->False)->(cNm (el c i.toNat)).len-x<LIM/\0<=i/\i<(c.len:Int)/\((x:Int)<(↑(cNm (el c i.toNat)).len:Int)->0<=i/\i<(c.len:Int)/\(0:Int)<=0/\0<=(x:
Int)/\(x:Int)<=(↑(cNm (el c i.toNat)).len:Int)/\0<=i/\i<(c.len:Int)/\0<=(x:Int)/\(x:Int)<(↑(cNm (el c i.toNat)).len:Int)/\((cNm (el c i.toNat)).sub 0 x).len<=100/\(zbk ((cNm (el c
i.toNat)).sub 0 x) (sAt (cNm (el c i.toNat)) x)->5=zdI c i.toNat)/\((zbk ((cNm (el c i.toNat)).sub 0 x) (sAt (cNm (el c i.toNat)) x)->False)->fits64 ((x:Int)+1)/\∃(y:Nat),(y<=(cNm (el c i.toNat)).len/\
∀(i_1 k:Nat),k<i_1->i_1<y->sAt (cNm (el c i.toNat)) k=sAt (cNm (el c i.toNat)) i_1->False)/\(cNm (el c i.toNat)).len-y<(cNm (el c i.toNat)).len-x/\((x:Int)+1=(y:Int)/\True)/\True))/\(((x:
Int)<(↑(cNm (el c i.toNat)).len:Int)->False)->0<=i/\i<(c.len:Int)/\(cA (el c i.toNat)= []->0=zdI c i.toNat)/\((cA (el c i.toNat)= []->False)->(∃(x:Nat),(x<=i.toNat/\∀(k:Nat),k<x->cK (el
c k)=1/\zbk (cNm (el c k)) (cA (el c i.toNat))->False)/\(0=(x:Int)/\True)/\True)/\∀(x:Nat),(x<=i.toNat/\∀(k:Nat),k<x->cK (el c k)=1/\zbk (cNm (el c k)) (cA (el c i.toNat))->False)->i.toNat
-x<LIM/\((x:Int)<i->0<=(x:Int)/\(x:Int)<(c.len:Int)/\(cK (el c x)=1->0<=(x:Int)/\(x:Int)<(c.len:Int)/\0<=i/\i<(c.len:Int)/\(cNm (el c x)).len<=100/\(zbk (cNm (el c x)) (cA (el
c i.toNat))->0=zdI c i.toNat)/\((zbk (cNm (el c x)) (cA (el c i.toNat))->False)->fits64 ((x:Int)+1)/\∃(y:Nat),(y<=i.toNat/\∀(k:Nat),k<y->cK (el c k)=1/\zbk (cNm (el c k)) (cA (el c i.toNat))
->False)/\i.toNat-y<i.toNat-x/\((x:Int)+1=(y:Int)/\True)/\True))/\((cK (el c x)=1->False)->fits64 ((x:Int)+1)/\∃(y:Nat),(y<=i.toNat/\∀(k:Nat),k<y->cK (el c k)=1/\zbk (cNm (el
c k)) (cA (el c i.toNat))->False)/\i.toNat-y<i.toNat-x/\((x:Int)+1=(y:Int)/\True)/\True))/\(((x:Int)<i->False)->31=zdI c i.toNat))))))):=by intros;kernel_rfl
theorem zxL:∀(b:D) (k:Int) (a:List UInt8) (la:Prop) (nm:D) (n:Int),zac (ctx cc2 zaY) 6 (130:FuncId) [V.dat (22:TypeId) b,V.agg [V.int IntKind.u8 k,V.str a,V.prop la,V.dat (29:TypeId) nm,
V.int IntKind.i64 n]] (V.int IntKind.i64 (zcH b b.len k a la nm n))=(True/\((zay k a la nm.len n->False)->30=zcH b b.len k a la nm n)/\(((zay k a la nm.len n->False)->False)->(∃(x:Nat),(x<=nm.len/\
∀(i:Nat),i<x->zaI (sAt nm i))/\(0=(x:Int)/\True)/\True)/\∀(x:Nat),(x<=nm.len/\∀(i:Nat),i<x->zaI (sAt nm i))->nm.len-x<LIM/\((x:Int)<(nm.len:Int)->0<=(x:Int)/\(x:Int)<
(nm.len:Int)/\True/\((zaI (sAt nm x)->False)->((0<=(x:Int)->False)->((a= []->False)->True/\((zaI a->False)->4=zcH b b.len k a la nm n)/\(((zaI a->False)->False)->nm.len<=100/\(zbD nm->
5=zcH b b.len k a la nm n)/\((zbD nm->False)->((a= []->False)->zan b/\((zaO b b.len a->False)->31=zcH b b.len k a la nm n)/\(((zaO b b.len a->False)->False)->0=zcH b b.len k a la nm
n))/\(((a= []->False)->False)->0=zcH b b.len k a la nm n))))/\(((a= []->False)->False)->nm.len<=100/\(zbD nm->5=zcH b b.len k a la nm n)/\((zbD nm->False)->((a= []->False)->zan b/\
((zaO b b.len a->False)->31=zcH b b.len k a la nm n)/\(((zaO b b.len a->False)->False)->0=zcH b b.len k a la nm n))/\(((a= []->False)->False)->0=zcH b b.len k a la nm n))))/\(0<=(x:Int)->
4=zcH b b.len k a la nm n))/\(((zaI (sAt nm x)->False)->False)->fits64 ((x:Int)+1)/\∃(y:Nat),(y<=nm.len/\∀(i:Nat),i<y->zaI (sAt nm i))/\nm.len-y<nm.len-x/\((x:Int)+1=(y:Int)/\
True)/\True))/\(((x:Int)<(nm.len:Int)->False)->((a= []->False)->True/\((zaI a->False)->4=zcH b b.len k a la nm n)/\(((zaI a->False)->False)->nm.len<=100/\(zbD nm->5=zcH b b.len k a la
nm n)/\((zbD nm->False)->((a= []->False)->zan b/\((zaO b b.len a->False)->31=zcH b b.len k a la nm n)/\(((zaO b b.len a->False)->False)->0=zcH b b.len k a la nm n))/\(((a= []->False)->
False)->0=zcH b b.len k a la nm n))))/\(((a= []->False)->False)->nm.len<=100/\(zbD nm->5=zcH b b.len k a la nm n)/\((zbD nm->False)->((a= []->False)->zan b/\((zaO b b.len a->False)->
31=zcH b b.len k a la nm n)/\(((zaO b b.len a->False)->False)->0=zcH b b.len k a la nm n))/\(((a= []->False)->False)->0=zcH b b.len k a la nm n)))))):=by intros;kernel_rfl
theorem zBb:∀(c:D),zac (ctx (λ_=>none) zpq) 8 (15:FuncId) [V.dat (22:TypeId) c] (V.prop (zkH c))=(((c.len:Int)<=40->(∃(x:Nat),(x<=c.len/\∀(i:Nat),i<x->zvK (el c i))/\(0=(x:
Int)/\True)/\True)/\∀(x:Nat),(x<=c.len/\∀(i:Nat),i<x->zvK (el c i))->c.len-x<LIM/\((x:Int)<(c.len:Int)->0<=(x:Int)/\(x:Int)<(c.len:Int)/\((40<(↑(cA (el c x)).length:Int)->
False)->((20<(↑(cNm (el c x)).len:Int)->False)->(∃(x_1:Nat),(x_1<=(cNm (el c x)).len/\∀(i:Nat),i<x_1->(sAt (cNm (el c x)) i).length<=40)/\(0=(x_1:Int)/\True)/\True)/\∀(x_1:Nat),(x_1<=
(cNm (el c x)).len/\∀(i:Nat),i<x_1->(sAt (cNm (el c x)) i).length<=40)->(cNm (el c x)).len-x_1<LIM/\((x_1:Int)<(↑(cNm (el c x)).len:Int)->0<=(x_1:Int)/\(x_1:Int)<(↑(cNm (el c x)).len:Int)
/\(40<(↑(sAt (cNm (el c x)) x_1).length:Int)->(0<=(x_1:Int)->(0<=(x:Int)->False↔zkH c))/\((0<=(x_1:Int)->False)->fits64 ((x:Int)+1)/\∃(y:Nat),(y<=c.len/\∀(i:Nat),i<y->zvK (el c
i))/\c.len-y<c.len-x/\((x:Int)+1=(y:Int)/\True)/\True))/\((40<(↑(sAt (cNm (el c x)) x_1).length:Int)->False)->fits64 ((x_1:Int)+1)/\∃(y:Nat),(y<=(cNm (el c x)).len/\∀(i:Nat),i<y
->(sAt (cNm (el c x)) i).length<=40)/\(cNm (el c x)).len-y<(cNm (el c x)).len-x_1/\((x_1:Int)+1=(y:Int)/\True)/\True))/\(((x_1:Int)<(↑(cNm (el c x)).len:Int)->False)->fits64 ((x:Int)+1)/\
∃(y:Nat),(y<=c.len/\∀(i:Nat),i<y->zvK (el c i))/\c.len-y<c.len-x/\((x:Int)+1=(y:Int)/\True)/\True))/\(20<(↑(cNm (el c x)).len:Int)->(0<=(x:Int)->False↔zkH c)))/\(40<(↑(cA
(el c x)).length:Int)->(0<=(x:Int)->False↔zkH c)))/\(((x:Int)<(c.len:Int)->False)->((!false)=true↔zkH c)))/\(((c.len:Int)<=40->False)->(false=true↔zkH c))):=by intros;kernel_rfl
theorem zAw:∀(c:D),zac (ctx (λ_=>none) zaY) 5 (60:FuncId) [V.dat (22:TypeId) c] (V.dat (22:TypeId) (zar c))=(((∃(x:Nat),x=0/\((0:Int)=0/\True/\True)/\True)\/∃(x:Nat),(0<x/\
x<=c.len)/\(0=(x:Int)/\False/\True)/\False/\True)/\(∀(x:Nat),x=0->c.len-x<LIM/\(0<(c.len:Int)->(0:Int)<=0/\0<(c.len:Int)/\((cNm (el c 0)).isNil->0+1<= [D.str [(115:UInt8),(112:
UInt8),(97:UInt8),(114:UInt8),(101:UInt8)]].length/\(1:Nat)<=8796093022208/\(0:Int)<=0/\0<=(↑(cNm (el c 0)).len:Int)/\((↑(1:Nat):Int)-(↑(cNm (el c 0)).len:Int)).NonNeg/\0+0+(cNm (el c
0)).len<=(List.take 1 [D.str [(115:UInt8),(112:UInt8),(97:UInt8),(114:UInt8),(101:UInt8)]]).length/\0+1<= [D.sct [D.int (cK (el c 0)),D.str (cA (el c 0)),D.bool (cL (el c 0)),D.list (List.take (cNm
(el c 0)).len (List.drop (0+0) (List.take 1 [D.str [(115:UInt8),(112:UInt8),(97:UInt8),(114:UInt8),(101:UInt8)]]))),D.int (cN (el c 0))]].length/\(1:Nat)<=16777216/\fits64 (0+1)/\((∃(y:Nat),y
=0/\c.len-y<c.len-x/\((0:Int)+1=0/\False/\True)/\True)\/∃(y:Nat),(0<y/\y<=c.len)/\c.len-y<c.len-x/\(0+1=(y:Int)/\((0:Nat)=0/\1=y/\True)/\True)/\List.take 1 [D.sct
[D.int (cK (el c 0)),D.str (cA (el c 0)),D.bool (cL (el c 0)),D.list (List.take (cNm (el c 0)).len (List.drop (0+0) (List.take 1 [D.str [(115:UInt8),(112:UInt8),(97:UInt8),(114:UInt8),(101:UInt8)]]))),
D.int (cN (el c 0))]]=zbf c y/\True))/\(((cNm (el c 0)).isNil->False)->((cNm (el c 0)).len=0->0+1<= [D.str [(115:UInt8),(112:UInt8),(97:UInt8),(114:UInt8),(101:UInt8)]].length/\0+0<=([]:
List D).length/\(0:Nat)+1<=8796093022208/\(0:Int)<=0/\0<=(↑(cNm (el c 0)).len:Int)/\((↑(0+1):Int)-(↑(cNm (el c 0)).len:Int)).NonNeg/\0+0+(cNm (el c 0)).len<=(List.take 0 ([]:List D)++
List.take 1 [D.str [(115:UInt8),(112:UInt8),(97:UInt8),(114:UInt8),(101:UInt8)]]).length/\0+1<= [D.sct [D.int (cK (el c 0)),D.str (cA (el c 0)),D.bool (cL (el c 0)),D.list (List.take (cNm (el c
0)).len (List.drop (0+0) (List.take 0 ([]:List D)++List.take 1 [D.str [(115:UInt8),(112:UInt8),(97:UInt8),(114:UInt8),(101:UInt8)]]))),D.int (cN (el c 0))]].length/\(1:Nat)<=16777216/\fits64 (0
+1)/\((∃(y:Nat),y=0/\c.len-y<c.len-x/\((0:Int)+1=0/\False/\True)/\True)\/∃(y:Nat),(0<y/\y<=c.len)/\c.len-y<c.len-x/\(0+1=(y:Int)/\((0:Nat)=0/\1=y/\True)/\True)/\
List.take 1 [D.sct [D.int (cK (el c 0)),D.str (cA (el c 0)),D.bool (cL (el c 0)),D.list (List.take (cNm (el c 0)).len (List.drop (0+0) (List.take 0 ([]:List D)++List.take 1 [D.str [(115:UInt8),(112:UInt8),
(97:UInt8),(114:UInt8),(101:UInt8)]]))),D.int (cN (el c 0))]]=zbf c y/\True))/\(0<(cNm (el c 0)).len->0+0<=([]:List D).length/\0+(cNm (el c 0)).len<=8796093022208/\(0+(cNm (el c 0)).len<=0
->0+0+(cNm (el c 0)).len<=([]:List D).length/\0+1<= [D.str [(115:UInt8),(112:UInt8),(97:UInt8),(114:UInt8),(101:UInt8)]].length/\0+(cNm (el c 0)).len<=(List.take (0+0) []++(cNm (el c
0)).asList++List.drop (0+0+(cNm (el c 0)).len) []).length/\(cNm (el c 0)).len+1<=8796093022208/\((cNm (el c 0)).len+1<=0->0+(cNm (el c 0)).len+1<=(List.take (0+0) []++(cNm (el c 0)).asList++
List.drop (0+0+(cNm (el c 0)).len) []).length/\(0:Int)<=0/\0<=(↑(cNm (el c 0)).len:Int)/\((↑(0:Nat):Int)-(↑(cNm (el c 0)).len:Int)).NonNeg/\0+0+(cNm (el c 0)).len<=(List.take (0+(cNm (el c
0)).len) (List.take (0+0) []++(cNm (el c 0)).asList++List.drop (0+0+(cNm (el c 0)).len) [])++List.take 1 [D.str [(115:UInt8),(112:UInt8),(97:UInt8),(114:UInt8),(101:UInt8)]]++List.drop (0+
(cNm (el c 0)).len+1) (List.take (0+0) []++(cNm (el c 0)).asList++List.drop (0+0+(cNm (el c 0)).len) [])).length/\0+1<= [D.sct [D.int (cK (el c 0)),D.str (cA (el c 0)),D.bool (cL (el c 0)),D.list
(List.take (cNm (el c 0)).len (List.drop (0+0) (List.take (0+(cNm (el c 0)).len) (List.take (0+0) []++(cNm (el c 0)).asList++List.drop (0+0+(cNm (el c 0)).len) [])++List.take 1 [D.str [(115:UInt8),(112
:UInt8),(97:UInt8),(114:UInt8),(101:UInt8)]]++List.drop (0+(cNm (el c 0)).len+1) (List.take (0+0) []++(cNm (el c 0)).asList++List.drop (0+0+(cNm (el c 0)).len) [])))),D.int (cN (el c
0))]].length/\(1:Nat)<=16777216/\fits64 (0+1)/\((∃(y:Nat),y=0/\c.len-y<c.len-x/\((0:Int)+1=0/\False/\True)/\True)\/∃(y:Nat),(0<y/\y<=c.len)/\c.len-y<c.len-x/\(0+1=(y:
Int)/\((0:Nat)=0/\1=y/\True)/\True)/\List.take 1 [D.sct [D.int (cK (el c 0)),D.str (cA (el c 0)),D.bool (cL (el c 0)),D.list (List.take (cNm (el c 0)).len (List.drop (0+0) (List.take (0+(cNm (el c
0)).len) (List.take (0+0) []++(cNm (el c 0)).asList++List.drop (0+0+(cNm (el c 0)).len) [])++List.take 1 [D.str [(115:UInt8),(112:UInt8),(97:UInt8),(114:UInt8),(101:UInt8)]]++List.drop (0+
(cNm (el c 0)).len+1) (List.take (0+0) []++(cNm (el c 0)).asList++List.drop (0+0+(cNm (el c 0)).len) [])))),D.int (cN (el c 0))]]=zbf c y/\True))/\(0<(cNm (el c 0)).len+1->(0:Int)<=0/\0<=
(↑(cNm (el c 0)).len:Int)/\((↑((cNm (el c 0)).len+1):Int)-(↑(cNm (el c 0)).len:Int)).NonNeg/\0+0+(cNm (el c 0)).len<=(List.take (cNm (el c 0)).len (List.take (0+0) []++(cNm (el c 0)).asList++
List.drop (0+0+(cNm (el c 0)).len) [])++List.take 1 [D.str [(115:UInt8),(112:UInt8),(97:UInt8),(114:UInt8),(101:UInt8)]]).length/\0+1<= [D.sct [D.int (cK (el c 0)),D.str (cA (el c 0)),D.bool (cL
(el c 0)),D.list (List.take (cNm (el c 0)).len (List.drop (0+0) (List.take (cNm (el c 0)).len (List.take (0+0) []++(cNm (el c 0)).asList++List.drop (0+0+(cNm (el c 0)).len) [])++List.take 1 [D.str [(115:
UInt8),(112:UInt8),(97:UInt8),(114:UInt8),(101:UInt8)]]))),D.int (cN (el c 0))]].length/\(1:Nat)<=16777216/\fits64 (0+1)/\((∃(y:Nat),y=0/\c.len-y<c.len-x/\((0:Int)+1=0/\False/\
True)/\True)\/∃(y:Nat),(0<y/\y<=c.len)/\c.len-y<c.len-x/\(0+1=(y:Int)/\((0:Nat)=0/\1=y/\True)/\True)/\List.take 1 [D.sct [D.int (cK (el c 0)),D.str (cA (el c 0)),D.bool (cL (el c 0)),
D.list (List.take (cNm (el c 0)).len (List.drop (0+0) (List.take (cNm (el c 0)).len (List.take (0+0) []++(cNm (el c 0)).asList++List.drop (0+0+(cNm (el c 0)).len) [])++List.take 1 [D.str [(115:UInt8),
(112:UInt8),(97:UInt8),(114:UInt8),(101:UInt8)]]))),D.int (cN (el c 0))]]=zbf c y/\True)))/\(0<0+(cNm (el c 0)).len->0+1<= [D.str [(115:UInt8),(112:UInt8),(97:UInt8),(114:UInt8),(101
:UInt8)]].length/\0+(cNm (el c 0)).len<=(List.take 0 ([]:List D)++(cNm (el c 0)).asList).length/\(cNm (el c 0)).len+1<=8796093022208/\(0:Int)<=0/\0<=(↑(cNm (el c 0)).len:Int)/\((↑((cNm (el c 0)).len
+1):Int)-(↑(cNm (el c 0)).len:Int)).NonNeg/\0+0+(cNm (el c 0)).len<=(List.take (cNm (el c 0)).len (List.take 0 ([]:List D)++(cNm (el c 0)).asList)++List.take 1 [D.str [(115:UInt8),(112:UInt8),(97
:UInt8),(114:UInt8),(101:UInt8)]]).length/\0+1<= [D.sct [D.int (cK (el c 0)),D.str (cA (el c 0)),D.bool (cL (el c 0)),D.list (List.take (cNm (el c 0)).len (List.drop (0+0) (List.take (cNm (el c 0)).len
(List.take 0 ([]:List D)++(cNm (el c 0)).asList)++List.take 1 [D.str [(115:UInt8),(112:UInt8),(97:UInt8),(114:UInt8),(101:UInt8)]]))),D.int (cN (el c 0))]].length/\(1:Nat)<=16777216/\fits64 (0+
1)/\((∃(y:Nat),y=0/\c.len-y<c.len-x/\((0:Int)+1=0/\False/\True)/\True)\/∃(y:Nat),(0<y/\y<=c.len)/\c.len-y<c.len-x/\(0+1=(y:Int)/\((0:Nat)=0/\1=y/\True)/\True)/\
List.take 1 [D.sct [D.int (cK (el c 0)),D.str (cA (el c 0)),D.bool (cL (el c 0)),D.list (List.take (cNm (el c 0)).len (List.drop (0+0) (List.take (cNm (el c 0)).len (List.take 0 ([]:List D)++(cNm (el c
0)).asList)++List.take 1 [D.str [(115:UInt8),(112:UInt8),(97:UInt8),(114:UInt8),(101:UInt8)]]))),D.int (cN (el c 0))]]=zbf c y/\True)))))/\((0<(c.len:Int)->False)->D.nil=zar c))/\∀(x:
Nat),0<x/\x<=c.len->c.len-x<LIM/\((x:Int)<(c.len:Int)->0<=(x:Int)/\(x:Int)<(c.len:Int)/\((cNm (el c x)).isNil->0+1<= [D.str [(115:UInt8),(112:UInt8),(97:UInt8),(114:UInt8),(101
:UInt8)]].length/\(1:Nat)<=8796093022208/\(0:Int)<=0/\0<=(↑(cNm (el c x)).len:Int)/\((↑(1:Nat):Int)-(↑(cNm (el c x)).len:Int)).NonNeg/\0+0+(cNm (el c x)).len<=(List.take 1 [D.str [(115:
UInt8),(112:UInt8),(97:UInt8),(114:UInt8),(101:UInt8)]]).length/\0+1<= [D.sct [D.int (cK (el c x)),D.str (cA (el c x)),D.bool (cL (el c x)),D.list (List.take (cNm (el c x)).len (List.drop (0+0)
(List.take 1 [D.str [(115:UInt8),(112:UInt8),(97:UInt8),(114:UInt8),(101:UInt8)]]))),D.int (cN (el c x))]].length/\0+x<=(zbf c x).length/\x+1<=16777216/\fits64 ((x:Int)+1)/\((∃(y:Nat),y
=0/\c.len-y<c.len-x/\((x:Int)+1=0/\False/\True)/\True)\/∃(y:Nat),(0<y/\y<=c.len)/\c.len-y<c.len-x/\((x:Int)+1=(y:Int)/\((0:Nat)=0/\x+1=y/\True)/\True)/\List.take x
(zbf c x)++List.take 1 [D.sct [D.int (cK (el c x)),D.str (cA (el c x)),D.bool (cL (el c x)),D.list (List.take (cNm (el c x)).len (List.drop (0+0) (List.take 1 [D.str [(115:UInt8),(112:UInt8),(97:UInt8),
(114:UInt8),(101:UInt8)]]))),D.int (cN (el c x))]]=zbf c y/\True))/\(((cNm (el c x)).isNil->False)->((cNm (el c x)).len=0->0+1<= [D.str [(115:UInt8),(112:UInt8),(97:UInt8),(114:UInt8),(101
:UInt8)]].length/\0+0<=([]:List D).length/\(0:Nat)+1<=8796093022208/\(0:Int)<=0/\0<=(↑(cNm (el c x)).len:Int)/\((↑(0+1):Int)-(↑(cNm (el c x)).len:Int)).NonNeg/\0+0+(cNm (el c x)).len<=
(List.take 0 ([]:List D)++List.take 1 [D.str [(115:UInt8),(112:UInt8),(97:UInt8),(114:UInt8),(101:UInt8)]]).length/\0+1<= [D.sct [D.int (cK (el c x)),D.str (cA (el c x)),D.bool (cL (el c x)),
D.list (List.take (cNm (el c x)).len (List.drop (0+0) (List.take 0 ([]:List D)++List.take 1 [D.str [(115:UInt8),(112:UInt8),(97:UInt8),(114:UInt8),(101:UInt8)]]))),D.int (cN (el c x))]].length/\0+
x<=(zbf c x).length/\x+1<=16777216/\fits64 ((x:Int)+1)/\((∃(y:Nat),y=0/\c.len-y<c.len-x/\((x:Int)+1=0/\False/\True)/\True)\/∃(y:Nat),(0<y/\y<=c.len)/\c.len-y<c.len-x/\
((x:Int)+1=(y:Int)/\((0:Nat)=0/\x+1=y/\True)/\True)/\List.take x (zbf c x)++List.take 1 [D.sct [D.int (cK (el c x)),D.str (cA (el c x)),D.bool (cL (el c x)),D.list (List.take (cNm (el c
x)).len (List.drop (0+0) (List.take 0 ([]:List D)++List.take 1 [D.str [(115:UInt8),(112:UInt8),(97:UInt8),(114:UInt8),(101:UInt8)]]))),D.int (cN (el c x))]]=zbf c y/\True))/\(0<(cNm (el c
x)).len->0+0<=([]:List D).length/\0+(cNm (el c x)).len<=8796093022208/\(0+(cNm (el c x)).len<=0->0+0+(cNm (el c x)).len<=([]:List D).length/\0+1<= [D.str [(115:UInt8),(112:UInt8),(97:
UInt8),(114:UInt8),(101:UInt8)]].length/\0+(cNm (el c x)).len<=(List.take (0+0) []++(cNm (el c x)).asList++List.drop (0+0+(cNm (el c x)).len) []).length/\(cNm (el c x)).len+1<=8796093022208/\
((cNm (el c x)).len+1<=0->0+(cNm (el c x)).len+1<=(List.take (0+0) []++(cNm (el c x)).asList++List.drop (0+0+(cNm (el c x)).len) []).length/\(0:Int)<=0/\0<=(↑(cNm (el c x)).len:Int)/\((↑(0:
Nat):Int)-(↑(cNm (el c x)).len:Int)).NonNeg/\0+0+(cNm (el c x)).len<=(List.take (0+(cNm (el c x)).len) (List.take (0+0) []++(cNm (el c x)).asList++List.drop (0+0+(cNm (el c x)).len) [])++
List.take 1 [D.str [(115:UInt8),(112:UInt8),(97:UInt8),(114:UInt8),(101:UInt8)]]++List.drop (0+(cNm (el c x)).len+1) (List.take (0+0) []++(cNm (el c x)).asList++List.drop (0+0+(cNm (el c
x)).len) [])).length/\0+1<= [D.sct [D.int (cK (el c x)),D.str (cA (el c x)),D.bool (cL (el c x)),D.list (List.take (cNm (el c x)).len (List.drop (0+0) (List.take (0+(cNm (el c x)).len) (List.take (0+0) []++
(cNm (el c x)).asList++List.drop (0+0+(cNm (el c x)).len) [])++List.take 1 [D.str [(115:UInt8),(112:UInt8),(97:UInt8),(114:UInt8),(101:UInt8)]]++List.drop (0+(cNm (el c x)).len+1) (List.take
(0+0) []++(cNm (el c x)).asList++List.drop (0+0+(cNm (el c x)).len) [])))),D.int (cN (el c x))]].length/\0+x<=(zbf c x).length/\x+1<=16777216/\fits64 ((x:Int)+1)/\((∃(y:Nat),y=0/\c.len-
y<c.len-x/\((x:Int)+1=0/\False/\True)/\True)\/∃(y:Nat),(0<y/\y<=c.len)/\c.len-y<c.len-x/\((x:Int)+1=(y:Int)/\((0:Nat)=0/\x+1=y/\True)/\True)/\List.take x (zbf c x)++
List.take 1 [D.sct [D.int (cK (el c x)),D.str (cA (el c x)),D.bool (cL (el c x)),D.list (List.take (cNm (el c x)).len (List.drop (0+0) (List.take (0+(cNm (el c x)).len) (List.take (0+0) []++(cNm (el c
x)).asList++List.drop (0+0+(cNm (el c x)).len) [])++List.take 1 [D.str [(115:UInt8),(112:UInt8),(97:UInt8),(114:UInt8),(101:UInt8)]]++List.drop (0+(cNm (el c x)).len+1) (List.take (0+0) []
++(cNm (el c x)).asList++List.drop (0+0+(cNm (el c x)).len) [])))),D.int (cN (el c x))]]=zbf c y/\True))/\(0<(cNm (el c x)).len+1->(0:Int)<=0/\0<=(↑(cNm (el c x)).len:Int)/\((↑((cNm (el c
x)).len+1):Int)-(↑(cNm (el c x)).len:Int)).NonNeg/\0+0+(cNm (el c x)).len<=(List.take (cNm (el c x)).len (List.take (0+0) []++(cNm (el c x)).asList++List.drop (0+0+(cNm (el c x)).len) [])++
List.take 1 [D.str [(115:UInt8),(112:UInt8),(97:UInt8),(114:UInt8),(101:UInt8)]]).length/\0+1<= [D.sct [D.int (cK (el c x)),D.str (cA (el c x)),D.bool (cL (el c x)),D.list (List.take (cNm (el c
x)).len (List.drop (0+0) (List.take (cNm (el c x)).len (List.take (0+0) []++(cNm (el c x)).asList++List.drop (0+0+(cNm (el c x)).len) [])++List.take 1 [D.str [(115:UInt8),(112:UInt8),(97:UInt8),
(114:UInt8),(101:UInt8)]]))),D.int (cN (el c x))]].length/\0+x<=(zbf c x).length/\x+1<=16777216/\fits64 ((x:Int)+1)/\((∃(y:Nat),y=0/\c.len-y<c.len-x/\((x:Int)+1=0/\False/\True)
/\True)\/∃(y:Nat),(0<y/\y<=c.len)/\c.len-y<c.len-x/\((x:Int)+1=(y:Int)/\((0:Nat)=0/\x+1=y/\True)/\True)/\List.take x (zbf c x)++List.take 1 [D.sct [D.int (cK (el c x)),D.str (cA
(el c x)),D.bool (cL (el c x)),D.list (List.take (cNm (el c x)).len (List.drop (0+0) (List.take (cNm (el c x)).len (List.take (0+0) []++(cNm (el c x)).asList++List.drop (0+0+(cNm (el c x)).len) [])++
List.take 1 [D.str [(115:UInt8),(112:UInt8),(97:UInt8),(114:UInt8),(101:UInt8)]]))),D.int (cN (el c x))]]=zbf c y/\True)))/\(0<0+(cNm (el c x)).len->0+1<= [D.str [(115:UInt8),(112:UInt8),
(97:UInt8),(114:UInt8),(101:UInt8)]].length/\0+(cNm (el c x)).len<=(List.take 0 ([]:List D)++(cNm (el c x)).asList).length/\(cNm (el c x)).len+1<=8796093022208/\(0:Int)<=0/\0<=(↑(cNm (el c
x)).len:Int)/\((↑((cNm (el c x)).len+1):Int)-(↑(cNm (el c x)).len:Int)).NonNeg/\0+0+(cNm (el c x)).len<=(List.take (cNm (el c x)).len (List.take 0 ([]:List D)++(cNm (el c x)).asList)++List.take 1
[D.str [(115:UInt8),(112:UInt8),(97:UInt8),(114:UInt8),(101:UInt8)]]).length/\0+1<= [D.sct [D.int (cK (el c x)),D.str (cA (el c x)),D.bool (cL (el c x)),D.list (List.take (cNm (el c x)).len (List.drop
(0+0) (List.take (cNm (el c x)).len (List.take 0 ([]:List D)++(cNm (el c x)).asList)++List.take 1 [D.str [(115:UInt8),(112:UInt8),(97:UInt8),(114:UInt8),(101:UInt8)]]))),D.int (cN (el c
x))]].length/\0+x<=(zbf c x).length/\x+1<=16777216/\fits64 ((x:Int)+1)/\((∃(y:Nat),y=0/\c.len-y<c.len-x/\((x:Int)+1=0/\False/\True)/\True)\/∃(y:Nat),(0<y/\y<=c.len)/\c.len
-y<c.len-x/\((x:Int)+1=(y:Int)/\((0:Nat)=0/\x+1=y/\True)/\True)/\List.take x (zbf c x)++List.take 1 [D.sct [D.int (cK (el c x)),D.str (cA (el c x)),D.bool (cL (el c x)),D.list (List.take
(cNm (el c x)).len (List.drop (0+0) (List.take (cNm (el c x)).len (List.take 0 ([]:List D)++(cNm (el c x)).asList)++List.take 1 [D.str [(115:UInt8),(112:UInt8),(97:UInt8),(114:UInt8),(101:
UInt8)]]))),D.int (cN (el c x))]]=zbf c y/\True)))))/\(((x:Int)<(c.len:Int)->False)->0+x<=(zbf c x).length/\D.list (List.take x (zbf c x))=zar c)):=by intros;kernel_rfl
theorem zAf:∀(a b:D),zac (ctx cc2 zaY) 5 (69:FuncId) [V.dat (22:TypeId) a,V.dat (22:TypeId) b] (V.prop (zcc a b))=((((a.len:Int)=(b.len:Int)->False)->(false=true↔zcc a b))/\
((((a.len:Int)=(b.len:Int)->False)->False)->(∃(x:Nat),(x<=a.len/\∀(i:Nat),i<x->zpQ (el a i) (el b i))/\(0=(x:Int)/\True)/\True)/\∀(x:Nat),(x<=a.len/\∀(i:Nat),i<x->zpQ (el a
i) (el b i))->a.len-x<LIM/\((x:Int)<(a.len:Int)->0<=(x:Int)/\(x:Int)<(a.len:Int)/\0<=(x:Int)/\(x:Int)<(b.len:Int)/\(cNm (el a x)).len<=100/\((cK (el a x)=cK (el b x)/\cA (el a x)=
cA (el b x)/\(cL (el a x)↔cL (el b x))/\cN (el a x)=cN (el b x)/\eqS (cNm (el a x)) (cNm (el b x))->False)->(false=true↔zcc a b))/\(((cK (el a x)=cK (el b x)/\cA (el a x)=cA (el b x)/\(cL (el a x)
↔cL (el b x))/\cN (el a x)=cN (el b x)/\eqS (cNm (el a x)) (cNm (el b x))->False)->False)->fits64 ((x:Int)+1)/\∃(y:Nat),(y<=a.len/\∀(i:Nat),i<y->zpQ (el a i) (el b i))/\a.len-y<a.len-x
/\((x:Int)+1=(y:Int)/\True)/\True))/\(((x:Int)<(a.len:Int)->False)->(true=true↔zcc a b)))):=by intros;kernel_rfl
theorem zA3:∀(c:D),zac (ctx cc3 zaY) 5 (98:FuncId) [V.dat (22:TypeId) c] (V.tup [V.int IntKind.i64 (zaK c).fst,V.int IntKind.i64 (zaK c).snd])=((32<(c.len:Int)->0=(zaK c).fst/\7=(zaK
c).snd/\True)/\((32<(c.len:Int)->False)->(∃(x:Nat),(x<=c.len/\zbr c (c.len-x) x=zbr c c.len 0)/\(0=(x:Int)/\True)/\True)/\∀(x:Nat),x<=c.len/\zbr c (c.len-x) x=zbr c c.len 0->
c.len-x<LIM/\((x:Int)<(c.len:Int)->0<=(x:Int)/\(x:Int)<(c.len:Int)/\(0:Int)<=0/\0<=(x:Int)/\(x:Int)<=(c.len:Int)/\(zan (c.sub 0 x)/\(cNm (el c x)).len<=100)/\((zcH (c.sub 0 x)
(c.sub 0 x).len (cK (el c x)) (cA (el c x)) (cL (el c x)) (cNm (el c x)) (cN (el c x))=0->False)->(x:Int)=(zaK c).fst/\zcH (c.sub 0 x) (c.sub 0 x).len (cK (el c x)) (cA (el c x)) (cL (el c x)) (cNm (el c x))
(cN (el c x))=(zaK c).snd/\True)/\(((zcH (c.sub 0 x) (c.sub 0 x).len (cK (el c x)) (cA (el c x)) (cL (el c x)) (cNm (el c x)) (cN (el c x))=0->False)->False)->fits64 ((x:Int)+1)/\∃(y:Nat),(y<=c.len/\
zbr c (c.len-y) y=zbr c c.len 0)/\c.len-y<c.len-x/\((x:Int)+1=(y:Int)/\True)/\True))/\(((x:Int)<(c.len:Int)->False)->0=(zaK c).fst/\0=(zaK c).snd/\True))):=by intros;kernel_rfl
theorem zyI:∀(c:D),zac (ctx cc3 zaY) 5 (117:FuncId) [V.dat (22:TypeId) c] (V.tup [V.int IntKind.i64 (zaK c).fst,V.int IntKind.i64 (zaK c).snd])=((32<(c.len:Int)->0=(zaK c).fst/\7=(zaK
c).snd/\True)/\((32<(c.len:Int)->False)->(∃(x:Nat),(x<=c.len/\zbr c (c.len-x) x=zbr c c.len 0)/\(0=(x:Int)/\True)/\True)/\∀(x:Nat),x<=c.len/\zbr c (c.len-x) x=zbr c c.len 0->
c.len-x<LIM/\((x:Int)<(c.len:Int)->((0<=(x:Int)/\(x:Int)<(c.len:Int))/\zan c)/\((zdI c x=0->False)->(x:Int)=(zaK c).fst/\zdI c x=(zaK c).snd/\True)/\(((zdI c x=0->False)->
False)->fits64 ((x:Int)+1)/\∃(y:Nat),(y<=c.len/\zbr c (c.len-y) y=zbr c c.len 0)/\c.len-y<c.len-x/\((x:Int)+1=(y:Int)/\True)/\True))/\(((x:Int)<(c.len:Int)->False)->0=
(zaK c).fst/\0=(zaK c).snd/\True))):=by intros;kernel_rfl
section
variable {c:D} {i:Nat} {k:Int} {a:List UInt8} {la:Prop} {nm:D} {n:Int}
theorem e30 (h:¬zay k a la nm.len n):zcH c i k a la nm n=30:=by unfold zcH;rw [if_pos h]
theorem e4 (h:zay k a la nm.len n) (hb:zhE nm\/(a≠ []/\¬zaI a)):zcH c i k a la nm n=4:=by unfold zcH;rw [if_neg (λhn=>hn h),if_pos hb]
theorem e5 (h:zay k a la nm.len n) (hb:¬(zhE nm\/(a≠ []/\¬zaI a))) (ht:zbD nm):zcH c i k a la nm n=5:=by unfold zcH;rw [if_neg (λhn=>hn h),if_neg hb,if_pos ht]
theorem e31 (h:zay k a la nm.len n) (hb:¬(zhE nm\/(a≠ []/\¬zaI a))) (ht:¬zbD nm) (ha:a≠ []) (hl:¬zaO c i a):zcH c i k a la nm n=31:=by unfold zcH;rw [if_neg (λhn=>hn h),if_neg hb,if_neg ht,if_pos ⟨ha,hl⟩]
theorem e0 (h:zay k a la nm.len n) (hb:¬(zhE nm\/(a≠ []/\¬zaI a))) (ht:¬zbD nm) (hl:a= []\/zaO c i a):zcH c i k a la nm n=0:=by
 unfold zcH;rw [if_neg (λhn=>hn h),if_neg hb,if_neg ht,if_neg (λhh=>hl.elim hh.1 hh.2)]
end
theorem zzN (c:D) (i:Int) (hi:0<=i/\i<c.len) (h:zan c):zac (ctx cc1 zaY) 3 154 [.dat 22 c,.int .i64 i] (.int .i64 (zdI c i.toNat)):=by
 have hlen:=h.out.1
 have hnl:=h.out.2 i.toNat (by omega)
 rw [zyJ]
 simp only [imp_false,Classical.not_not,true_and,and_true]
 refine ⟨hi.1,hi.2,λhf=>(e30 hf).symm,λhf=>⟨hi.1,hi.2,λha=>⟨hi.1,hi.2,λhn=>(e4 hf (.inr ⟨ha,hn⟩)).symm,λhn=> ?_⟩,λha=> ?_⟩⟩
 all_goals
  have hA:¬(cA (el c i.toNat)≠ []/\¬zaI (cA (el c i.toNat))):=by first|exact λh=>h.2 hn|exact λh=>h.1 ha
  refine ⟨⟨0,⟨by omega,λi hi=>by omega⟩,rfl⟩,λx ⟨hx,hinv⟩=>⟨by unfold LIM;omega,hi.1,hi.2,λhlt=>⟨hi.1,hi.2,by omega,hlt,λhn=>(e4 hf (.inl ⟨x,by omega,hn⟩)).symm,λhn=>⟨by omega,x+1,⟨by omega,λj hj=> ?_⟩,by omega,by omega⟩⟩,λhge=> ?_⟩⟩
  .by_cases e:j=x
   .subst e;exact hn
   .exact hinv j (by omega)
  have hbad:¬(zhE (cNm (el c i.toNat))\/(cA (el c i.toNat)≠ []/\¬zaI (cA (el c i.toNat)))):=λh=>h.elim (λ⟨j,h1,h2⟩=>h2 (hinv j (by omega))) hA
  refine ⟨⟨0,⟨by omega,λi k _ hi=>by omega⟩,rfl⟩,λx ⟨hx,hinv⟩=>⟨by unfold LIM;omega,hi.1,hi.2,λhlt=> ?_,λhge=> ?_⟩⟩
  .have hs:=zrs (cNm (el c i.toNat)) x (by omega) (sAt (cNm (el c i.toNat)) x)
   refine ⟨hi.1,hi.2,by omega,by omega,by omega,hi.1,hi.2,by omega,hlt,by rw [zdY _ x (by omega)];omega,λhh=> ?_,λhn=>⟨by omega,x+1,⟨by omega,λj k hk hj=> ?_⟩,by omega,by omega⟩⟩
   .obtain ⟨k,h1,h2⟩:=hs.1 hh
    exact (e5 hf hbad ⟨x,k,h1,by omega,h2⟩).symm
   .by_cases e:j=x
    .subst e;exact λh=>hn (hs.2 ⟨k,hk,h⟩)
    .exact hinv j k hk (by omega)
  have htw:¬zbD (cNm (el c i.toNat)):=λ⟨⟨j,k,h1,h2,h3⟩⟩=>hinv j k h1 (by omega) h3
  have go:∀x:Nat,(x:Int)<i->(∀k:Nat,k<x->¬(cK (el c k)=1/\zbk (cNm (el c k)) (cA (el c i.toNat))))->¬(cK (el c x)=1/\zbk (cNm (el c x)) (cA (el c i.toNat)))->∃y:Nat,(y<=i.toNat/\∀k:Nat,k<y->¬(cK (el c k)=1/\zbk (cNm (el c k)) (cA (el c i.toNat))))/\i.toNat-y<i.toNat-x/\(x:Int)+1=(y:Int):=λx hx hinv hn=>⟨x+1,⟨by omega,λk hk=>by
   by_cases e:k=x
   .subst e;exact hn
   .exact hinv k (by omega)⟩,by omega,by omega⟩
  exact ⟨hi.1,hi.2,λha=>(e0 hf hbad htw (.inl ha)).symm,λha=>⟨⟨0,⟨by omega,λi hi=>by omega⟩,rfl⟩,λx ⟨hx,hinv⟩=>⟨by unfold LIM;omega,λhlt=>⟨by omega,by omega,λhk=>⟨by omega,by omega,hi.1,hi.2,h.out.2 x (by omega),λhh=>(e0 hf hbad htw (.inr ⟨x,by omega,hk,hh⟩)).symm,λhn=>⟨by omega,go x hlt hinv λh=>hn h.2⟩⟩,λhk=>⟨by omega,go x hlt hinv λh=>hk h.1⟩⟩,
   λhge=>(e31 hf hbad htw ha λ⟨⟨k,h1,h2⟩⟩=>hinv k (by omega) h2).symm⟩⟩⟩
theorem zAB (b:D) (k:Int) (a:List UInt8) (la:Prop) (nm:D) (n:Int) (h:zan b) (hnl:nm.len<=100):zac (ctx cc2 zaY) 6 130 [.dat 22 b,.agg [.int .u8 k,.str a,.prop la,.dat 29 nm,.int .i64 n]] (.int .i64 (zcH b b.len k a la nm n)):=by
 rw [zxL]
 simp only [imp_false,Classical.not_not,true_and,and_true]
 refine ⟨λhf=>(e30 hf).symm,λhf=>⟨⟨0,⟨by omega,λi hi=>by omega⟩,rfl⟩,λx ⟨hx,hinv⟩=>⟨by unfold LIM;omega,λhlt=>⟨by omega,hlt,λhn=>⟨λh0=>absurd (by omega) h0,λ_=>(e4 hf (.inl ⟨x,by omega,hn⟩)).symm⟩,λhn=>⟨by omega,x+1,⟨by omega,λj hj=> ?_⟩,by omega,by omega⟩⟩,λhge=>⟨λha=>⟨λhn=>(e4 hf (.inr ⟨ha,hn⟩)).symm,λhn=> ?_⟩,λha=> ?_⟩⟩⟩⟩
 .by_cases e:j=x
  .subst e;exact hn
  .exact hinv j (by omega)
 all_goals
  have hA:¬(a≠ []/\¬zaI a):=by first|exact λh=>h.2 hn|exact λh=>h.1 ha
  have hbad:¬(zhE nm\/(a≠ []/\¬zaI a)):=λh=>h.elim (λ⟨j,h1,h2⟩=>h2 (hinv j (by omega))) hA
  exact ⟨hnl,λht=>(e5 hf hbad ht).symm,λht=>⟨λha=>⟨h,λhl=>(e31 hf hbad ht ha hl).symm,λhl=>(e0 hf hbad ht (.inr hl)).symm⟩,λha=>(e0 hf hbad ht (.inl ha)).symm⟩⟩
theorem zjO (l:D) (x:Nat) (hx:x<l.len):zbr l (l.len-x) x=if zdI l x≠0 then ((x:Int),zdI l x) else zbr l (l.len-(x+1)) (x+1):=by
 have:l.len-x=(l.len-(x+1))+1:=by omega
 rw [this];rfl
theorem zj3 {l:D} {x:Nat} (hl:¬(32:Int)<l.len) (hx:x<l.len) (hinv:zbr l (l.len-x) x=zbr l l.len 0) {e:Int} (he:zdI l x=e) (hn:e≠0):(zaK l).1=x/\(zaK l).2=e:=by
 have hs:=zjO l x hx
 rw [hinv,if_pos (by rw [he];exact hn),he] at hs
 have:zaK l=((x:Int),e):=by unfold zaK;rw [if_neg (by omega),hs]
 rw [this];exact ⟨rfl,rfl⟩
theorem zqp {l:D} {x:Nat} (hx:x<l.len) (hinv:zbr l (l.len-x) x=zbr l l.len 0) (he:zdI l x=0):zbr l (l.len-(x+1)) (x+1)=zbr l l.len 0:=by
 have hs:=zjO l x hx
 rw [hinv,if_neg (λh=>h he)] at hs
 exact hs.symm
theorem znh {l:D} {x:Nat} (hl:¬(32:Int)<l.len) (hx:l.len<=x) (hinv:zbr l (l.len-x) x=zbr l l.len 0):(zaK l).1=0/\(zaK l).2=0:=by
 have:l.len-x=0:=by omega
 rw [this] at hinv
 have:zaK l=(0,0):=by unfold zaK;rw [if_neg (by omega),<-hinv];rfl
 rw [this];exact ⟨rfl,rfl⟩
theorem zmg {l:D} (hl:(32:Int)<l.len):(zaK l).1=0/\(zaK l).2=7:=by
 have:zaK l=(0,7):=by unfold zaK;rw [if_pos (by omega)]
 rw [this];exact ⟨rfl,rfl⟩
theorem zns (c:D) (x:Nat) (h:x<=c.len) (a:List UInt8):zaO (c.sub 0 x) (c.sub 0 x).len a=zaO c x a:=propext (by
 rw [zdY c x h]
 exact ⟨λ⟨⟨k,h1,h2⟩⟩=>⟨k,h1,by rw [zjQ c x k h1] at h2;exact h2⟩,λ⟨⟨k,h1,h2⟩⟩=>⟨k,h1,by rw [zjQ c x k h1];exact h2⟩⟩)
theorem zvv (c:D) (x:Nat) (h:x<=c.len):zcH (c.sub 0 x) (c.sub 0 x).len (cK (el c x)) (cA (el c x)) (cL (el c x)) (cNm (el c x)) (cN (el c x))=zdI c x:=by
 unfold zdI zcH
 rw [zns c x h]
theorem zqX {c:D} (h:zan c) (x:Nat) (hx:x<=c.len):zan (c.sub 0 x):=⟨by rw [zdY c x hx];exact Nat.le_trans hx h.out.1,λi hi=>by rw [zdY c x hx] at hi;rw [zjQ c x i hi];exact h.out.2 i (by omega)⟩
theorem s98 (c:D) (h:zan c):zac (ctx cc3 zaY) 5 98 [.dat 22 c] (.tup [.int .i64 (zaK c).1,.int .i64 (zaK c).2]):=by
 have hlen:=h.out.1
 rw [zA3]
 simp only [imp_false,Classical.not_not,true_and,and_true]
 refine ⟨λhl=>by have:=zmg hl;exact ⟨this.1.symm,this.2.symm⟩,λhl=>⟨⟨0,⟨by omega,rfl⟩,rfl⟩,λx ⟨hx,hinv⟩=>⟨by unfold LIM;omega,λhlt=> ?_,λhge=> ?_⟩⟩⟩
 .rw [zvv c x (by omega)]
  refine ⟨by omega,hlt,by omega,by omega,by omega,⟨zqX h x (by omega),h.out.2 x (by omega)⟩,λhe=> ?_,λhe=>⟨by omega,x+1,⟨by omega,zqp (by omega) hinv he⟩,by omega,by omega⟩⟩
  have:=zj3 hl (by omega) hinv rfl he;exact ⟨this.1.symm,this.2.symm⟩
 .have:=znh hl (by omega) hinv;exact ⟨this.1.symm,this.2.symm⟩
theorem zAy (c:D) (h:zan c):zac (ctx cc3 zaY) 5 117 [.dat 22 c] (.tup [.int .i64 (zaK c).1,.int .i64 (zaK c).2]):=by
 have hlen:=h.out.1
 rw [zyI]
 simp only [imp_false,Classical.not_not,true_and,and_true]
 refine ⟨λhl=>by have:=zmg hl;exact ⟨this.1.symm,this.2.symm⟩,λhl=>⟨⟨0,⟨by omega,rfl⟩,rfl⟩,λx ⟨hx,hinv⟩=>⟨by unfold LIM;omega,λhlt=> ?_,λhge=> ?_⟩⟩⟩
 .refine ⟨⟨⟨by omega,hlt⟩,h⟩,λhe=> ?_,λhe=>⟨by omega,x+1,⟨by omega,zqp (by omega) hinv he⟩,by omega,by omega⟩⟩
  have:=zj3 hl (by omega) hinv rfl he;exact ⟨this.1.symm,this.2.symm⟩
 .have:=znh hl (by omega) hinv;exact ⟨this.1.symm,this.2.symm⟩
theorem s69 (a b:D) (h:zan a):zac (ctx cc2 zaY) 5 69 [.dat 22 a,.dat 22 b] (.prop (zcc a b)):=by
 have hlen:=h.out.1
 rw [zAf]
 simp only [imp_false,Classical.not_not,true_and,and_true]
 refine ⟨λhne=>⟨λh=>by simp at h,λh=>absurd (by rw [h.out.1]) hne⟩,λheq=>⟨⟨0,⟨by omega,λi hi=>by omega⟩,rfl⟩,λx ⟨hx,hinv⟩=>⟨by unfold LIM;omega,λhlt=>⟨by omega,hlt,by omega,by omega,h.out.2 x (by omega),λhn=>⟨λh=>by simp at h,λh=>absurd (h.out.2 x (by omega)).out hn⟩,λhs=>⟨by omega,x+1,⟨by omega,λi hi=> ?_⟩,by omega,by omega⟩⟩,λhge=>⟨λ_=>⟨by omega,λi hi=>hinv i (by omega)⟩,λ_=>by first|rfl|trivial⟩⟩⟩⟩
 by_cases e:i=x
 .subst e;exact ⟨hs⟩
 .exact hinv i (by omega)
theorem sl7 (c:D):zac (ctx (λ_=>none) zpq) 8 15 [.dat 22 c] (.prop (zkH c)):=by
 rw [zBb]
 simp only [imp_false,Classical.not_not,true_and,and_true]
 have no:∀x,x<c.len->¬zvK (el c x)->(¬(0:Int)<=x↔zkH c):=λx hx hn=>⟨λh=>absurd (by omega) h,λh=>absurd (h.out.2 x hx) hn⟩
 refine ⟨λhl=>⟨⟨0,⟨by omega,λi hi=>by omega⟩,rfl⟩,λx ⟨hx,hinv⟩=>⟨by unfold LIM;omega,λhlt=>⟨by omega,hlt,λh1=>⟨λh2=>⟨⟨0,⟨by omega,λi hi=>by omega⟩,rfl⟩,λj ⟨hj,jinv⟩=>⟨by unfold LIM;omega,λhjl=>⟨by omega,hjl,λh3=>⟨λ_=>no x (by omega) λh=> ?_,λh=>absurd (by omega) h⟩,λh3=>⟨by omega,j+1,⟨by omega,λi hi=> ?_⟩,by omega,by omega⟩⟩,λhje=>⟨by omega,x+1,⟨by omega,λi hi=> ?_⟩,by omega,by omega⟩⟩⟩,λh2=>no x (by omega) λh=> ?_⟩,λh1=>no x (by omega) λh=> ?_⟩,λhge=> ?_⟩⟩,λhl=>⟨λh=>by simp at h,λh=>absurd h.out.1 (by omega)⟩⟩
 .have:=h.out.2.2 j (by omega);omega
 .by_cases e:i=j
  .subst e;omega
  .exact jinv i (by omega)
 .by_cases e:i=x
  .subst e;exact ⟨by omega,by omega,λi hi=>jinv i (by omega)⟩
  .exact hinv i (by omega)
 .have:=h.out.2.1;omega
 .have:=h.out.1;omega
 .exact ⟨λ_=>⟨by omega,λi hi=>hinv i (by omega)⟩,λ_=>by first|rfl|trivial⟩
theorem znu (a b:Int):(b-a).NonNeg↔a<=b:=Iff.rfl
theorem zsJ:Int.toNat (0:Int)=0:=rfl
theorem zoo (l:D) (x:Nat):zbf l (x+1)=zbf l x++ [zpi (el l x)]:=by
 unfold zbf;rw [List.range_succ,List.map_append];rfl
theorem zeu (l:D) (x:Nat):(zbf l x).length=x:=by unfold zbf;simp
theorem zqQ (l:D) (x:Nat) (X:List D) (hX:List.take (cNm (el l x)).len X=(cNm (el l x)).asList):
  List.take x (zbf l x)++List.take 1 [D.sct [D.int (cK (el l x)),D.str (cA (el l x)),D.bool (cL (el l x)),D.list (List.take (cNm (el l x)).len X),D.int (cN (el l x))]]=zbf l (x+1):=by
 rw [hX,zoo,List.take_of_length_le (by rw [zeu];exact Nat.le_refl _)];rfl
theorem zst (l:D) (X:List D) (hX:List.take (cNm (el l 0)).len X=(cNm (el l 0)).asList):
  List.take 1 [D.sct [D.int (cK (el l 0)),D.str (cA (el l 0)),D.bool (cL (el l 0)),D.list (List.take (cNm (el l 0)).len X),D.int (cN (el l 0))]]=zbf l 1:=by
 have:=zqQ l 0 X hX
 exact this
theorem take_zero (o:D) (X:List D) (h:o.len=0):List.take o.len X=o.asList:=by
 rw [h,List.take_zero];exact (List.eq_nil_of_length_eq_zero h).symm
theorem ziM (o:D) (Y:List D):List.take o.len (List.take o.len o.asList++Y)=o.asList:=by
 have e:List.take o.len o.asList=o.asList:=List.take_of_length_le (Nat.le_refl _)
 rw [e]
 exact List.take_left' rfl
theorem zjD (o:D) (Y Z:List D):List.take o.len (List.take o.len o.asList++Y++Z)=o.asList:=by
 rw [List.append_assoc];exact ziM o _
theorem zki {o:D} (h:o.isNil):o.len=0:=by cases o<;>first|rfl|exact h.elim
theorem ztk (o:D):o.asList.length=o.len:=rfl
theorem s60 (l:D) (h:zan l):zac (ctx (λ_=>none) zaY) 5 60 [.dat 22 l] (.dat 22 (zar l)):=by
 have hlen:=h.out.1
 rw [zAw]
 simp only [imp_false,Classical.not_not,true_and,and_true,false_and,and_false,or_false,false_or,exists_false,Nat.zero_add,Nat.add_zero,List.take_nil,List.drop_nil,List.drop_zero,List.nil_append,List.append_nil,List.length_nil,List.length_cons,List.length_append,znu,zsJ,Nat.le_refl,Int.le_refl,forall_eq,exists_eq]
 refine ⟨⟨by unfold LIM;omega,λhlt=>⟨hlt, ?_⟩,λhge=> ?_⟩,λx ⟨hx0,hx⟩=>⟨by unfold LIM;omega,λhlt=>⟨by omega,hlt, ?_⟩,λhge=> ?_⟩⟩
 .have ho:=h.out.2 0 (by omega)
  refine ⟨λhnil=> ?_, ?_⟩
  .have h0:=zki hnil
   repeat' (first|refine And.intro ?_ ?_|intro _)
   all_goals (first|omega| (simp;done)| (simp [h0];done)|skip)
   exact ⟨_,⟨by omega,by omega⟩,by omega,⟨by omega,rfl⟩,zst l _ (take_zero _ _ h0)⟩
  .repeat' (first|refine And.intro ?_ ?_|intro _)
   all_goals (first|omega| (simp only [List.length_take,List.length_drop,List.length_cons,List.length_nil,ztk];omega)|skip)
   all_goals (first
    |exact ⟨_,⟨by omega,by omega⟩,by omega,⟨by omega,rfl⟩,zst l _ (take_zero _ _ (by omega))⟩
    |exact ⟨_,⟨by omega,by omega⟩,by omega,⟨by omega,rfl⟩,zst l _ (ziM _ _)⟩
    |exact ⟨_,⟨by omega,by omega⟩,by omega,⟨by omega,rfl⟩,zst l _ (zjD _ _ _)⟩)
 .have:l.len=0:=by omega
  unfold zar;rw [this];rfl
 .have ho:=h.out.2 x (by omega)
  have hc:=zeu l x
  refine ⟨λhnil=> ?_, ?_⟩
  .have h0:=zki hnil
   repeat' (first|refine And.intro ?_ ?_|intro _)
   all_goals (first|omega| (simp;done)| (simp [h0];done)|skip)
   exact ⟨_,⟨by omega,by omega⟩,by omega,⟨by omega,rfl⟩,zqQ l x _ (take_zero _ _ h0)⟩
  .repeat' (first|refine And.intro ?_ ?_|intro _)
   all_goals (first|omega| (simp only [List.length_take,List.length_drop,List.length_cons,List.length_nil,ztk];omega)|skip)
   all_goals (first
    |exact ⟨_,⟨by omega,by omega⟩,by omega,⟨by omega,rfl⟩,zqQ l x _ (take_zero _ _ (by omega))⟩
    |exact ⟨_,⟨by omega,by omega⟩,by omega,⟨by omega,rfl⟩,zqQ l x _ (ziM _ _)⟩
    |exact ⟨_,⟨by omega,by omega⟩,by omega,⟨by omega,rfl⟩,zqQ l x _ (zjD _ _ _)⟩)
 .have:x=l.len:=by omega
  subst this
  have hne:zbf l l.len≠ []:=λhn=>by have:=zeu l l.len;rw [hn] at this;simp at this;omega
  have hl:zar l= .list (zbf l l.len):=by
   unfold zar zba
   split
   .rename_i hn;exact absurd hn hne
   .rfl
  rw [hl,List.take_of_length_le (by rw [zeu];exact Nat.le_refl _)]
  exact ⟨by rw [zeu];exact Nat.le_refl _,rfl⟩
theorem zbB (l:D):(zar l).len=l.len:=by
 have h:(zbf l l.len).length=l.len:=zeu l l.len
 unfold zar zba
 split
 .rename_i hn;rw [hn] at h;exact h
 .exact h
theorem zvk (l:D):(zar l).asList=zbf l l.len:=by
 unfold zar zba
 split
 .rename_i hn;rw [hn];rfl
 .rfl
theorem zt0 {l:D} {x:Nat} (h:l.len<=x):el l x= .nil:=by
 unfold el zai
 rw [List.getElem?_eq_none h];rfl
theorem zfN (l:D) (x:Nat):(x<l.len/\el (zar l) x=zpi (el l x))\/(el (zar l) x= .nil/\el l x= .nil):=by
 rcases Nat.lt_or_ge x l.len with h|h
 .left
  refine ⟨h, ?_⟩
  show zai (zar l).asList x=_
  rw [zvk]
  unfold zbf zai
  simp [h]
 .right
  exact ⟨zt0 (by rw [zbB];exact h),zt0 h⟩
theorem zta (o:D):zhE (.list o.asList)=zhE o:=propext ⟨λh=>⟨h.out⟩,λh=>⟨h.out⟩⟩
theorem znl (o:D):zbD (.list o.asList)=zbD o:=propext ⟨λh=>⟨h.out⟩,λh=>⟨h.out⟩⟩
theorem zsp (o:D) (s:List UInt8):zbk (.list o.asList) s=zbk o s:=propext ⟨λh=>⟨h.out⟩,λh=>⟨h.out⟩⟩
theorem ztU (l:D) (x:Nat):cK (el (zar l) x)=cK (el l x):=by rcases zfN l x with ⟨_,h⟩| ⟨h,h'⟩<;>rw [h]<;>first|rfl|rw [h']
theorem zyK (l:D) (x:Nat):(cNm (el (zar l) x)).len=(cNm (el l x)).len:=by rcases zfN l x with ⟨_,h⟩| ⟨h,h'⟩<;>rw [h]<;>first|rfl|rw [h']
theorem zv5 (l:D) (x:Nat) (s:List UInt8):zbk (cNm (el (zar l) x)) s=zbk (cNm (el l x)) s:=by
 rcases zfN l x with ⟨_,h⟩| ⟨h,h'⟩
 .rw [h];exact zsp _ s
 .rw [h,h']
theorem zsk (l:D) (n:Nat) (s:List UInt8):zaO (zar l) n s=zaO l n s:=propext
 ⟨λ⟨⟨k,h1,h2⟩⟩=>⟨k,h1,by rw [ztU,zv5] at h2;exact h2⟩,λ⟨⟨k,h1,h2⟩⟩=>⟨k,h1,by rw [ztU,zv5];exact h2⟩⟩
theorem zqb (c:D) (i:Nat) (k:Int) (a:List UInt8) (la:Prop) (nm:D) (n:Int):zcH c i k a la (.list nm.asList) n=zcH c i k a la nm n:=by
 have e:(D.list nm.asList).len=nm.len:=rfl
 unfold zcH
 rw [zta,znl,e]
theorem znW {c c':D} {i:Nat} {k:Int} {a:List UInt8} {la:Prop} {nm:D} {n:Int} (h:zaO c i a=zaO c' i a):zcH c i k a la nm n=zcH c' i k a la nm n:=by
 unfold zcH;rw [h]
theorem zwy (l:D) (x:Nat):zdI (zar l) x=zdI l x:=by
 unfold zdI
 rw [znW (zsk l x _)]
 rcases zfN l x with ⟨_,h⟩| ⟨h,h'⟩
 .rw [h];exact zqb l x (cK (el l x)) (cA (el l x)) (cL (el l x)) (cNm (el l x)) (cN (el l x))
 .rw [h,h']
theorem zts (l:D):∀(f i:Nat),zbr (zar l) f i=zbr l f i
 |0,_=>rfl
 |f+1,i=>by unfold zbr;rw [zwy,zts l f (i+1)]
theorem zt8 (l:D):zaK (zar l)=zaK l:=by unfold zaK;rw [zbB,zts]
theorem zlO {l:D} (h:zan l):zan (zar l):=⟨by rw [zbB];exact h.out.1,λi hi=>by rw [zbB] at hi;rw [zyK];exact h.out.2 i hi⟩
theorem zwn (l:D):zcc (zar l) l:=by
 refine ⟨zbB l,λi hi=> ?_⟩
 rw [zbB] at hi
 rcases zfN l i with ⟨_,h⟩| ⟨h,h'⟩
 .rw [h];exact ⟨rfl,rfl,Iff.rfl,rfl,⟨rfl,λ_ _=>rfl⟩⟩
 .rw [h,h'];exact ⟨rfl,rfl,Iff.rfl,rfl,⟨rfl,λ_ _=>rfl⟩⟩
theorem zqY {l:D} (h:zkH l):zan l:=⟨by have:=h.out.1;omega,λi hi=>by have:=(h.out.2 i hi).out.2.1;omega⟩
end Go.Ev
