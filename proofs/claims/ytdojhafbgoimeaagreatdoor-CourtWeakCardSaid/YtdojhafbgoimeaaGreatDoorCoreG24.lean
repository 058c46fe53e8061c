/- Part of the proof. -/
import Derived.Test.YtdojhafbgoimeaaGreatDoorCoreG23
import Derived.Test.YtdojhafbgoimeaaGreatDoorCoreG22

section
open Go.Proofs
namespace Go.Ev
set_option maxRecDepth 100000
set_option maxHeartbeats 4000000
theorem zvb:∀(c:D) (i:Int),zae (ctx cc1 zaR) 3 (154:FuncId) [V.dat (22:TypeId) c,V.int IntKind.i64 i] (V.int IntKind.i64 (zcM c i.toNat))=(0<=i/\i<(c.len:Int)/\True/\((zax (cK (el c
i.toNat)) (cA (el c i.toNat)) (cL (el c i.toNat)) (cNm (el c i.toNat)).len (cN (el c i.toNat))->False)->30=zcM c i.toNat)/\(((zax (cK (el c i.toNat)) (cA (el c i.toNat)) (cL (el c i.toNat)) (cNm (el c
i.toNat)).len (cN (el c i.toNat))->False)->False)->0<=i/\i<(c.len:Int)/\((cA (el c i.toNat)= []->False)->0<=i/\i<(c.len:Int)/\True/\((zaB (cA (el c i.toNat))->False)->4=zcM c i.toNat)/\
(((zaB (cA (el c i.toNat))->False)->False)->(∃(x:Nat),(x<=(cNm (el c i.toNat)).len/\∀(i_1:Nat),i_1<x->zaB (sAt (cNm (el c i.toNat)) i_1))/\(0=(x:Int)/\True)/\True)/\∀(x:Nat),(x<=(cNm (el
c i.toNat)).len/\∀(i_1:Nat),i_1<x->zaB (sAt (cNm (el c i.toNat)) i_1))->(cNm (el c i.toNat)).len-x<LIM/\0<=i/\i<(c.len:Int)/\((x:Int)<(↑(cNm (el c i.toNat)).len:Int)->0<=i/\i<(c.len:
Int)/\0<=(x:Int)/\(x:Int)<(↑(cNm (el c i.toNat)).len:Int)/\True/\((zaB (sAt (cNm (el c i.toNat)) x)->False)->4=zcM c i.toNat)/\(((zaB (sAt (cNm (el c i.toNat)) x)->False)->False)->fits64 ((x:
Int)+1)/\∃(y:Nat),(y<=(cNm (el c i.toNat)).len/\∀(i_1:Nat),i_1<y->zaB (sAt (cNm (el c i.toNat)) i_1))/\(cNm (el c i.toNat)).len-y<(cNm (el c i.toNat)).len-x/\((x:Int)+1=(y:Int)/\True)/\
True))/\(((x:Int)<(↑(cNm (el c i.toNat)).len:Int)->False)->(∃(x:Nat),(x<=(cNm (el c i.toNat)).len/\∀(i_1 k:Nat),k<i_1->i_1<x->sAt (cNm (el c i.toNat)) k=sAt (cNm (el c i.toNat)) i_1->False)/\
(0=(x:Int)/\True)/\True)/\∀(x:Nat),(x<=(cNm (el c i.toNat)).len/\∀(i_1 k:Nat),k<i_1->i_1<x->sAt (cNm (el c i.toNat)) k=sAt (cNm (el c i.toNat)) i_1->False)->(cNm (el c i.toNat)).len-x<LIM/\
0<=i/\i<(c.len:Int)/\((x:Int)<(↑(cNm (el c i.toNat)).len:Int)->0<=i/\i<(c.len:Int)/\(0:Int)<=0/\0<=(x:Int)/\(x:Int)<=(↑(cNm (el c i.toNat)).len:Int)/\0<=i/\i<(c.len:Int)/\0<=(x
:Int)/\(x:Int)<(↑(cNm (el c i.toNat)).len:Int)/\((cNm (el c i.toNat)).sub 0 x).len<=100/\(zbn ((cNm (el c i.toNat)).sub 0 x) (sAt (cNm (el c i.toNat)) x)->5=zcM c i.toNat)/\((zbn ((cNm (el c
i.toNat)).sub 0 x) (sAt (cNm (el c i.toNat)) x)->False)->fits64 ((x:Int)+1)/\∃(y:Nat),(y<=(cNm (el c i.toNat)).len/\∀(i_1 k:Nat),k<i_1->i_1<y->sAt (cNm (el c i.toNat)) k=sAt (cNm (el c i.toNat))
i_1->False)/\(cNm (el c i.toNat)).len-y<(cNm (el c i.toNat)).len-x/\((x:Int)+1=(y:Int)/\True)/\True))/\(((x:Int)<(↑(cNm (el c i.toNat)).len:Int)->False)->0<=i/\i<(c.len:Int)/\(cA (el c
i.toNat)= []->0=zcM c i.toNat)/\((cA (el c i.toNat)= []->False)->(∃(x:Nat),(x<=i.toNat/\∀(k:Nat),k<x->cK (el c k)=1/\zbn (cNm (el c k)) (cA (el c i.toNat))->False)/\(0=(x:Int)/\True)/\
True)/\∀(x:Nat),(x<=i.toNat/\∀(k:Nat),k<x->cK (el c k)=1/\zbn (cNm (el c k)) (cA (el c i.toNat))->False)->i.toNat-x<LIM/\((x:Int)<i->0<=(x:Int)/\(x:Int)<(c.len:Int)/\(cK (el c x)
=1->0<=(x:Int)/\(x:Int)<(c.len:Int)/\0<=i/\i<(c.len:Int)/\(cNm (el c x)).len<=100/\(zbn (cNm (el c x)) (cA (el c i.toNat))->0=zcM c i.toNat)/\((zbn (cNm (el c x)) (cA (el c i.toNat))->False)
->fits64 ((x:Int)+1)/\∃(y:Nat),(y<=i.toNat/\∀(k:Nat),k<y->cK (el c k)=1/\zbn (cNm (el c k)) (cA (el c i.toNat))->False)/\i.toNat-y<i.toNat-x/\((x:Int)+1=(y:Int)/\True)/\True))/\
((cK (el c x)=1->False)->fits64 ((x:Int)+1)/\∃(y:Nat),(y<=i.toNat/\∀(k:Nat),k<y->cK (el c k)=1/\zbn (cNm (el c k)) (cA (el c i.toNat))->False)/\i.toNat-y<i.toNat-x/\((x:Int)+1=(y
:Int)/\True)/\True))/\(((x:Int)<i->False)->31=zcM c i.toNat))))))/\(((cA (el c i.toNat)= []->False)->False)->(∃(x:Nat),(x<=(cNm (el c i.toNat)).len/\∀(i_1:Nat),i_1<x->zaB (sAt (cNm (el c
i.toNat)) i_1))/\(0=(x:Int)/\True)/\True)/\∀(x:Nat),(x<=(cNm (el c i.toNat)).len/\∀(i_1:Nat),i_1<x->zaB (sAt (cNm (el c i.toNat)) i_1))->(cNm (el c i.toNat)).len-x<LIM/\0<=i/\i<(c.len:
Int)/\((x:Int)<(↑(cNm (el c i.toNat)).len:Int)->0<=i/\i<(c.len:Int)/\0<=(x:Int)/\(x:Int)<(↑(cNm (el c i.toNat)).len:Int)/\True/\((zaB (sAt (cNm (el c i.toNat)) x)->False)->4=zcM c
i.toNat)/\(((zaB (sAt (cNm (el c i.toNat)) x)->False)->False)->fits64 ((x:Int)+1)/\∃(y:Nat),(y<=(cNm (el c i.toNat)).len/\∀(i_1:Nat),i_1<y->zaB (sAt (cNm (el c i.toNat)) i_1))/\(cNm (el c
i.toNat)).len-y<(cNm (el c i.toNat)).len-x/\((x:Int)+1=(y:Int)/\True)/\True))/\(((x:Int)<(↑(cNm (el c i.toNat)).len:Int)->False)->(∃(x:Nat),(x<=(cNm (el c i.toNat)).len/\∀(i_1 k:Nat),k
<i_1->i_1<x->sAt (cNm (el c i.toNat)) k=sAt (cNm (el c i.toNat)) i_1->False)/\(0=(x:Int)/\True)/\True)/\∀(x:Nat),(x<=(cNm (el c i.toNat)).len/\∀(i_1 k:Nat),k<i_1->i_1<x->sAt (cNm (el c
i.toNat)) k=sAt (cNm (el c i.toNat)) i_1->False)->(cNm (el c i.toNat)).len-x<LIM/\0<=i/\i<(c.len:Int)/\((x:Int)<(↑(cNm (el c i.toNat)).len:Int)->0<=i/\i<(c.len:Int)/\(0:Int)<=0/\0<=(x:
Int)/\(x:Int)<=(↑(cNm (el c i.toNat)).len:Int)/\0<=i/\i<(c.len:Int)/\0<=(x:Int)/\(x:Int)<(↑(cNm (el c i.toNat)).len:Int)/\((cNm (el c i.toNat)).sub 0 x).len<=100/\(zbn ((cNm (el c
i.toNat)).sub 0 x) (sAt (cNm (el c i.toNat)) x)->5=zcM c i.toNat)/\((zbn ((cNm (el c i.toNat)).sub 0 x) (sAt (cNm (el c i.toNat)) x)->False)->fits64 ((x:Int)+1)/\∃(y:Nat),(y<=(cNm (el c i.toNat)).len/\
∀(i_1 k:Nat),k<i_1->i_1<y->sAt (cNm (el c i.toNat)) k=sAt (cNm (el c i.toNat)) i_1->False)/\(cNm (el c i.toNat)).len-y<(cNm (el c i.toNat)).len-x/\((x:Int)+1=(y:Int)/\True)/\True))/\(((x:
Int)<(↑(cNm (el c i.toNat)).len:Int)->False)->0<=i/\i<(c.len:Int)/\(cA (el c i.toNat)= []->0=zcM c i.toNat)/\((cA (el c i.toNat)= []->False)->(∃(x:Nat),(x<=i.toNat/\∀(k:Nat),k<x->cK (el
c k)=1/\zbn (cNm (el c k)) (cA (el c i.toNat))->False)/\(0=(x:Int)/\True)/\True)/\∀(x:Nat),(x<=i.toNat/\∀(k:Nat),k<x->cK (el c k)=1/\zbn (cNm (el c k)) (cA (el c i.toNat))->False)->i.toNat
-x<LIM/\((x:Int)<i->0<=(x:Int)/\(x:Int)<(c.len:Int)/\(cK (el c x)=1->0<=(x:Int)/\(x:Int)<(c.len:Int)/\0<=i/\i<(c.len:Int)/\(cNm (el c x)).len<=100/\(zbn (cNm (el c x)) (cA (el
c i.toNat))->0=zcM c i.toNat)/\((zbn (cNm (el c x)) (cA (el c i.toNat))->False)->fits64 ((x:Int)+1)/\∃(y:Nat),(y<=i.toNat/\∀(k:Nat),k<y->cK (el c k)=1/\zbn (cNm (el c k)) (cA (el c i.toNat))
->False)/\i.toNat-y<i.toNat-x/\((x:Int)+1=(y:Int)/\True)/\True))/\((cK (el c x)=1->False)->fits64 ((x:Int)+1)/\∃(y:Nat),(y<=i.toNat/\∀(k:Nat),k<y->cK (el c k)=1/\zbn (cNm (el
c k)) (cA (el c i.toNat))->False)/\i.toNat-y<i.toNat-x/\((x:Int)+1=(y:Int)/\True)/\True))/\(((x:Int)<i->False)->31=zcM c i.toNat))))))):=by intros;kernel_rfl
theorem zu5:∀(b:D) (k:Int) (a:List UInt8) (la:Prop) (nm:D) (n:Int),zae (ctx cc2 zaR) 6 (130:FuncId) [V.dat (22:TypeId) b,V.agg [V.int IntKind.u8 k,V.str a,V.prop la,V.dat (29:TypeId) nm,
V.int IntKind.i64 n]] (V.int IntKind.i64 (zcy b b.len k a la nm n))=(True/\((zax k a la nm.len n->False)->30=zcy b b.len k a la nm n)/\(((zax k a la nm.len n->False)->False)->(∃(x:Nat),(x<=nm.len/\
∀(i:Nat),i<x->zaB (sAt nm i))/\(0=(x:Int)/\True)/\True)/\∀(x:Nat),(x<=nm.len/\∀(i:Nat),i<x->zaB (sAt nm i))->nm.len-x<LIM/\((x:Int)<(nm.len:Int)->0<=(x:Int)/\(x:Int)<
(nm.len:Int)/\True/\((zaB (sAt nm x)->False)->((0<=(x:Int)->False)->((a= []->False)->True/\((zaB a->False)->4=zcy b b.len k a la nm n)/\(((zaB a->False)->False)->nm.len<=100/\(zbc nm->
5=zcy b b.len k a la nm n)/\((zbc nm->False)->((a= []->False)->zaE b/\((zaJ b b.len a->False)->31=zcy b b.len k a la nm n)/\(((zaJ b b.len a->False)->False)->0=zcy b b.len k a la nm
n))/\(((a= []->False)->False)->0=zcy b b.len k a la nm n))))/\(((a= []->False)->False)->nm.len<=100/\(zbc nm->5=zcy b b.len k a la nm n)/\((zbc nm->False)->((a= []->False)->zaE b/\
((zaJ b b.len a->False)->31=zcy b b.len k a la nm n)/\(((zaJ b b.len a->False)->False)->0=zcy b b.len k a la nm n))/\(((a= []->False)->False)->0=zcy b b.len k a la nm n))))/\(0<=(x:Int)->
4=zcy b b.len k a la nm n))/\(((zaB (sAt nm x)->False)->False)->fits64 ((x:Int)+1)/\∃(y:Nat),(y<=nm.len/\∀(i:Nat),i<y->zaB (sAt nm i))/\nm.len-y<nm.len-x/\((x:Int)+1=(y:Int)/\
True)/\True))/\(((x:Int)<(nm.len:Int)->False)->((a= []->False)->True/\((zaB a->False)->4=zcy b b.len k a la nm n)/\(((zaB a->False)->False)->nm.len<=100/\(zbc nm->5=zcy b b.len k a la
nm n)/\((zbc nm->False)->((a= []->False)->zaE b/\((zaJ b b.len a->False)->31=zcy b b.len k a la nm n)/\(((zaJ b b.len a->False)->False)->0=zcy b b.len k a la nm n))/\(((a= []->False)->
False)->0=zcy b b.len k a la nm n))))/\(((a= []->False)->False)->nm.len<=100/\(zbc nm->5=zcy b b.len k a la nm n)/\((zbc nm->False)->((a= []->False)->zaE b/\((zaJ b b.len a->False)->
31=zcy b b.len k a la nm n)/\(((zaJ b b.len a->False)->False)->0=zcy b b.len k a la nm n))/\(((a= []->False)->False)->0=zcy b b.len k a la nm n)))))):=by intros;kernel_rfl
theorem zxh:∀(c:D),zae (ctx (λ_=>none) znM) 8 (15:FuncId) [V.dat (22:TypeId) c] (V.prop (zp4 c))=(((c.len:Int)<=40->(∃(x:Nat),(x<=c.len/\∀(i:Nat),i<x->zr8 (el c i))/\(0=(x:
Int)/\True)/\True)/\∀(x:Nat),(x<=c.len/\∀(i:Nat),i<x->zr8 (el c i))->c.len-x<LIM/\((x:Int)<(c.len:Int)->0<=(x:Int)/\(x:Int)<(c.len:Int)/\((40<(↑(cA (el c x)).length:Int)->
False)->((20<(↑(cNm (el c x)).len:Int)->False)->(∃(x_1:Nat),(x_1<=(cNm (el c x)).len/\∀(i:Nat),i<x_1->(sAt (cNm (el c x)) i).length<=40)/\(0=(x_1:Int)/\True)/\True)/\∀(x_1:Nat),(x_1<=
(cNm (el c x)).len/\∀(i:Nat),i<x_1->(sAt (cNm (el c x)) i).length<=40)->(cNm (el c x)).len-x_1<LIM/\((x_1:Int)<(↑(cNm (el c x)).len:Int)->0<=(x_1:Int)/\(x_1:Int)<(↑(cNm (el c x)).len:Int)
/\(40<(↑(sAt (cNm (el c x)) x_1).length:Int)->(0<=(x_1:Int)->(0<=(x:Int)->False↔zp4 c))/\((0<=(x_1:Int)->False)->fits64 ((x:Int)+1)/\∃(y:Nat),(y<=c.len/\∀(i:Nat),i<y->zr8 (el c
i))/\c.len-y<c.len-x/\((x:Int)+1=(y:Int)/\True)/\True))/\((40<(↑(sAt (cNm (el c x)) x_1).length:Int)->False)->fits64 ((x_1:Int)+1)/\∃(y:Nat),(y<=(cNm (el c x)).len/\∀(i:Nat),i<y
->(sAt (cNm (el c x)) i).length<=40)/\(cNm (el c x)).len-y<(cNm (el c x)).len-x_1/\((x_1:Int)+1=(y:Int)/\True)/\True))/\(((x_1:Int)<(↑(cNm (el c x)).len:Int)->False)->fits64 ((x:Int)+1)/\
∃(y:Nat),(y<=c.len/\∀(i:Nat),i<y->zr8 (el c i))/\c.len-y<c.len-x/\((x:Int)+1=(y:Int)/\True)/\True))/\(20<(↑(cNm (el c x)).len:Int)->(0<=(x:Int)->False↔zp4 c)))/\(40<(↑(cA
(el c x)).length:Int)->(0<=(x:Int)->False↔zp4 c)))/\(((x:Int)<(c.len:Int)->False)->((!false)=true↔zp4 c)))/\(((c.len:Int)<=40->False)->(false=true↔zp4 c))):=by intros;kernel_rfl
theorem zxp:∀(c:D),zae (ctx (λ_=>none) zaR) 5 (60:FuncId) [V.dat (22:TypeId) c] (V.dat (22:TypeId) (ziC c))=(((∃(x:Nat),x=0/\((0:Int)=0/\True/\True)/\True)\/∃(x:Nat),(0<x/\
x<=c.len)/\(0=(x:Int)/\False/\True)/\False/\True)/\(∀(x:Nat),x=0->c.len-x<LIM/\(0<(c.len:Int)->(0:Int)<=0/\0<(c.len:Int)/\((cNm (el c 0)).isNil->0+1<= [D.str [(115:UInt8),(112:
UInt8),(97:UInt8),(114:UInt8),(101:UInt8)]].length/\(1:Nat)<=8796093022208/\(0:Int)<=0/\0<=(↑(cNm (el c 0)).len:Int)/\((↑(1:Nat):Int)-(↑(cNm (el c 0)).len:Int)).NonNeg/\0+0+(cNm (el c
0)).len<=(List.take 1 [D.str [(115:UInt8),(112:UInt8),(97:UInt8),(114:UInt8),(101:UInt8)]]).length/\0+1<= [D.sct [D.int (cK (el c 0)),D.str (cA (el c 0)),D.bool (cL (el c 0)),D.list (List.take (cNm
(el c 0)).len (List.drop (0+0) (List.take 1 [D.str [(115:UInt8),(112:UInt8),(97:UInt8),(114:UInt8),(101:UInt8)]]))),D.int (cN (el c 0))]].length/\(1:Nat)<=16777216/\fits64 (0+1)/\((∃(y:Nat),y
=0/\c.len-y<c.len-x/\((0:Int)+1=0/\False/\True)/\True)\/∃(y:Nat),(0<y/\y<=c.len)/\c.len-y<c.len-x/\(0+1=(y:Int)/\((0:Nat)=0/\1=y/\True)/\True)/\List.take 1 [D.sct
[D.int (cK (el c 0)),D.str (cA (el c 0)),D.bool (cL (el c 0)),D.list (List.take (cNm (el c 0)).len (List.drop (0+0) (List.take 1 [D.str [(115:UInt8),(112:UInt8),(97:UInt8),(114:UInt8),(101:UInt8)]]))),
D.int (cN (el c 0))]]=zbh c y/\True))/\(((cNm (el c 0)).isNil->False)->((cNm (el c 0)).len=0->0+1<= [D.str [(115:UInt8),(112:UInt8),(97:UInt8),(114:UInt8),(101:UInt8)]].length/\0+0<=([]:
List D).length/\(0:Nat)+1<=8796093022208/\(0:Int)<=0/\0<=(↑(cNm (el c 0)).len:Int)/\((↑(0+1):Int)-(↑(cNm (el c 0)).len:Int)).NonNeg/\0+0+(cNm (el c 0)).len<=(List.take 0 ([]:List D)++
List.take 1 [D.str [(115:UInt8),(112:UInt8),(97:UInt8),(114:UInt8),(101:UInt8)]]).length/\0+1<= [D.sct [D.int (cK (el c 0)),D.str (cA (el c 0)),D.bool (cL (el c 0)),D.list (List.take (cNm (el c
0)).len (List.drop (0+0) (List.take 0 ([]:List D)++List.take 1 [D.str [(115:UInt8),(112:UInt8),(97:UInt8),(114:UInt8),(101:UInt8)]]))),D.int (cN (el c 0))]].length/\(1:Nat)<=16777216/\fits64 (0
+1)/\((∃(y:Nat),y=0/\c.len-y<c.len-x/\((0:Int)+1=0/\False/\True)/\True)\/∃(y:Nat),(0<y/\y<=c.len)/\c.len-y<c.len-x/\(0+1=(y:Int)/\((0:Nat)=0/\1=y/\True)/\True)/\
List.take 1 [D.sct [D.int (cK (el c 0)),D.str (cA (el c 0)),D.bool (cL (el c 0)),D.list (List.take (cNm (el c 0)).len (List.drop (0+0) (List.take 0 ([]:List D)++List.take 1 [D.str [(115:UInt8),(112:UInt8),
(97:UInt8),(114:UInt8),(101:UInt8)]]))),D.int (cN (el c 0))]]=zbh c y/\True))/\(0<(cNm (el c 0)).len->0+0<=([]:List D).length/\0+(cNm (el c 0)).len<=8796093022208/\(0+(cNm (el c 0)).len<=0
->0+0+(cNm (el c 0)).len<=([]:List D).length/\0+1<= [D.str [(115:UInt8),(112:UInt8),(97:UInt8),(114:UInt8),(101:UInt8)]].length/\0+(cNm (el c 0)).len<=(List.take (0+0) []++(cNm (el c
0)).asList++List.drop (0+0+(cNm (el c 0)).len) []).length/\(cNm (el c 0)).len+1<=8796093022208/\((cNm (el c 0)).len+1<=0->0+(cNm (el c 0)).len+1<=(List.take (0+0) []++(cNm (el c 0)).asList++
List.drop (0+0+(cNm (el c 0)).len) []).length/\(0:Int)<=0/\0<=(↑(cNm (el c 0)).len:Int)/\((↑(0:Nat):Int)-(↑(cNm (el c 0)).len:Int)).NonNeg/\0+0+(cNm (el c 0)).len<=(List.take (0+(cNm (el c
0)).len) (List.take (0+0) []++(cNm (el c 0)).asList++List.drop (0+0+(cNm (el c 0)).len) [])++List.take 1 [D.str [(115:UInt8),(112:UInt8),(97:UInt8),(114:UInt8),(101:UInt8)]]++List.drop (0+
(cNm (el c 0)).len+1) (List.take (0+0) []++(cNm (el c 0)).asList++List.drop (0+0+(cNm (el c 0)).len) [])).length/\0+1<= [D.sct [D.int (cK (el c 0)),D.str (cA (el c 0)),D.bool (cL (el c 0)),D.list
(List.take (cNm (el c 0)).len (List.drop (0+0) (List.take (0+(cNm (el c 0)).len) (List.take (0+0) []++(cNm (el c 0)).asList++List.drop (0+0+(cNm (el c 0)).len) [])++List.take 1 [D.str [(115:UInt8),(112
:UInt8),(97:UInt8),(114:UInt8),(101:UInt8)]]++List.drop (0+(cNm (el c 0)).len+1) (List.take (0+0) []++(cNm (el c 0)).asList++List.drop (0+0+(cNm (el c 0)).len) [])))),D.int (cN (el c
0))]].length/\(1:Nat)<=16777216/\fits64 (0+1)/\((∃(y:Nat),y=0/\c.len-y<c.len-x/\((0:Int)+1=0/\False/\True)/\True)\/∃(y:Nat),(0<y/\y<=c.len)/\c.len-y<c.len-x/\(0+1=(y:
Int)/\((0:Nat)=0/\1=y/\True)/\True)/\List.take 1 [D.sct [D.int (cK (el c 0)),D.str (cA (el c 0)),D.bool (cL (el c 0)),D.list (List.take (cNm (el c 0)).len (List.drop (0+0) (List.take (0+(cNm (el c
0)).len) (List.take (0+0) []++(cNm (el c 0)).asList++List.drop (0+0+(cNm (el c 0)).len) [])++List.take 1 [D.str [(115:UInt8),(112:UInt8),(97:UInt8),(114:UInt8),(101:UInt8)]]++List.drop (0+
(cNm (el c 0)).len+1) (List.take (0+0) []++(cNm (el c 0)).asList++List.drop (0+0+(cNm (el c 0)).len) [])))),D.int (cN (el c 0))]]=zbh c y/\True))/\(0<(cNm (el c 0)).len+1->(0:Int)<=0/\0<=
(↑(cNm (el c 0)).len:Int)/\((↑((cNm (el c 0)).len+1):Int)-(↑(cNm (el c 0)).len:Int)).NonNeg/\0+0+(cNm (el c 0)).len<=(List.take (cNm (el c 0)).len (List.take (0+0) []++(cNm (el c 0)).asList++
List.drop (0+0+(cNm (el c 0)).len) [])++List.take 1 [D.str [(115:UInt8),(112:UInt8),(97:UInt8),(114:UInt8),(101:UInt8)]]).length/\0+1<= [D.sct [D.int (cK (el c 0)),D.str (cA (el c 0)),D.bool (cL
(el c 0)),D.list (List.take (cNm (el c 0)).len (List.drop (0+0) (List.take (cNm (el c 0)).len (List.take (0+0) []++(cNm (el c 0)).asList++List.drop (0+0+(cNm (el c 0)).len) [])++List.take 1 [D.str [(115:
UInt8),(112:UInt8),(97:UInt8),(114:UInt8),(101:UInt8)]]))),D.int (cN (el c 0))]].length/\(1:Nat)<=16777216/\fits64 (0+1)/\((∃(y:Nat),y=0/\c.len-y<c.len-x/\((0:Int)+1=0/\False/\
True)/\True)\/∃(y:Nat),(0<y/\y<=c.len)/\c.len-y<c.len-x/\(0+1=(y:Int)/\((0:Nat)=0/\1=y/\True)/\True)/\List.take 1 [D.sct [D.int (cK (el c 0)),D.str (cA (el c 0)),D.bool (cL (el c 0)),
D.list (List.take (cNm (el c 0)).len (List.drop (0+0) (List.take (cNm (el c 0)).len (List.take (0+0) []++(cNm (el c 0)).asList++List.drop (0+0+(cNm (el c 0)).len) [])++List.take 1 [D.str [(115:UInt8),
(112:UInt8),(97:UInt8),(114:UInt8),(101:UInt8)]]))),D.int (cN (el c 0))]]=zbh c y/\True)))/\(0<0+(cNm (el c 0)).len->0+1<= [D.str [(115:UInt8),(112:UInt8),(97:UInt8),(114:UInt8),(101
:UInt8)]].length/\0+(cNm (el c 0)).len<=(List.take 0 ([]:List D)++(cNm (el c 0)).asList).length/\(cNm (el c 0)).len+1<=8796093022208/\(0:Int)<=0/\0<=(↑(cNm (el c 0)).len:Int)/\((↑((cNm (el c 0)).len
+1):Int)-(↑(cNm (el c 0)).len:Int)).NonNeg/\0+0+(cNm (el c 0)).len<=(List.take (cNm (el c 0)).len (List.take 0 ([]:List D)++(cNm (el c 0)).asList)++List.take 1 [D.str [(115:UInt8),(112:UInt8),(97
:UInt8),(114:UInt8),(101:UInt8)]]).length/\0+1<= [D.sct [D.int (cK (el c 0)),D.str (cA (el c 0)),D.bool (cL (el c 0)),D.list (List.take (cNm (el c 0)).len (List.drop (0+0) (List.take (cNm (el c 0)).len
(List.take 0 ([]:List D)++(cNm (el c 0)).asList)++List.take 1 [D.str [(115:UInt8),(112:UInt8),(97:UInt8),(114:UInt8),(101:UInt8)]]))),D.int (cN (el c 0))]].length/\(1:Nat)<=16777216/\fits64 (0+
1)/\((∃(y:Nat),y=0/\c.len-y<c.len-x/\((0:Int)+1=0/\False/\True)/\True)\/∃(y:Nat),(0<y/\y<=c.len)/\c.len-y<c.len-x/\(0+1=(y:Int)/\((0:Nat)=0/\1=y/\True)/\True)/\
List.take 1 [D.sct [D.int (cK (el c 0)),D.str (cA (el c 0)),D.bool (cL (el c 0)),D.list (List.take (cNm (el c 0)).len (List.drop (0+0) (List.take (cNm (el c 0)).len (List.take 0 ([]:List D)++(cNm (el c
0)).asList)++List.take 1 [D.str [(115:UInt8),(112:UInt8),(97:UInt8),(114:UInt8),(101:UInt8)]]))),D.int (cN (el c 0))]]=zbh c y/\True)))))/\((0<(c.len:Int)->False)->D.nil=ziC c))/\∀(x:
Nat),0<x/\x<=c.len->c.len-x<LIM/\((x:Int)<(c.len:Int)->0<=(x:Int)/\(x:Int)<(c.len:Int)/\((cNm (el c x)).isNil->0+1<= [D.str [(115:UInt8),(112:UInt8),(97:UInt8),(114:UInt8),(101
:UInt8)]].length/\(1:Nat)<=8796093022208/\(0:Int)<=0/\0<=(↑(cNm (el c x)).len:Int)/\((↑(1:Nat):Int)-(↑(cNm (el c x)).len:Int)).NonNeg/\0+0+(cNm (el c x)).len<=(List.take 1 [D.str [(115:
UInt8),(112:UInt8),(97:UInt8),(114:UInt8),(101:UInt8)]]).length/\0+1<= [D.sct [D.int (cK (el c x)),D.str (cA (el c x)),D.bool (cL (el c x)),D.list (List.take (cNm (el c x)).len (List.drop (0+0)
(List.take 1 [D.str [(115:UInt8),(112:UInt8),(97:UInt8),(114:UInt8),(101:UInt8)]]))),D.int (cN (el c x))]].length/\0+x<=(zbh c x).length/\x+1<=16777216/\fits64 ((x:Int)+1)/\((∃(y:Nat),y
=0/\c.len-y<c.len-x/\((x:Int)+1=0/\False/\True)/\True)\/∃(y:Nat),(0<y/\y<=c.len)/\c.len-y<c.len-x/\((x:Int)+1=(y:Int)/\((0:Nat)=0/\x+1=y/\True)/\True)/\List.take x
(zbh c x)++List.take 1 [D.sct [D.int (cK (el c x)),D.str (cA (el c x)),D.bool (cL (el c x)),D.list (List.take (cNm (el c x)).len (List.drop (0+0) (List.take 1 [D.str [(115:UInt8),(112:UInt8),(97:UInt8),
(114:UInt8),(101:UInt8)]]))),D.int (cN (el c x))]]=zbh c y/\True))/\(((cNm (el c x)).isNil->False)->((cNm (el c x)).len=0->0+1<= [D.str [(115:UInt8),(112:UInt8),(97:UInt8),(114:UInt8),(101
:UInt8)]].length/\0+0<=([]:List D).length/\(0:Nat)+1<=8796093022208/\(0:Int)<=0/\0<=(↑(cNm (el c x)).len:Int)/\((↑(0+1):Int)-(↑(cNm (el c x)).len:Int)).NonNeg/\0+0+(cNm (el c x)).len<=
(List.take 0 ([]:List D)++List.take 1 [D.str [(115:UInt8),(112:UInt8),(97:UInt8),(114:UInt8),(101:UInt8)]]).length/\0+1<= [D.sct [D.int (cK (el c x)),D.str (cA (el c x)),D.bool (cL (el c x)),
D.list (List.take (cNm (el c x)).len (List.drop (0+0) (List.take 0 ([]:List D)++List.take 1 [D.str [(115:UInt8),(112:UInt8),(97:UInt8),(114:UInt8),(101:UInt8)]]))),D.int (cN (el c x))]].length/\0+
x<=(zbh c x).length/\x+1<=16777216/\fits64 ((x:Int)+1)/\((∃(y:Nat),y=0/\c.len-y<c.len-x/\((x:Int)+1=0/\False/\True)/\True)\/∃(y:Nat),(0<y/\y<=c.len)/\c.len-y<c.len-x/\
((x:Int)+1=(y:Int)/\((0:Nat)=0/\x+1=y/\True)/\True)/\List.take x (zbh c x)++List.take 1 [D.sct [D.int (cK (el c x)),D.str (cA (el c x)),D.bool (cL (el c x)),D.list (List.take (cNm (el c
x)).len (List.drop (0+0) (List.take 0 ([]:List D)++List.take 1 [D.str [(115:UInt8),(112:UInt8),(97:UInt8),(114:UInt8),(101:UInt8)]]))),D.int (cN (el c x))]]=zbh c y/\True))/\(0<(cNm (el c
x)).len->0+0<=([]:List D).length/\0+(cNm (el c x)).len<=8796093022208/\(0+(cNm (el c x)).len<=0->0+0+(cNm (el c x)).len<=([]:List D).length/\0+1<= [D.str [(115:UInt8),(112:UInt8),(97:
UInt8),(114:UInt8),(101:UInt8)]].length/\0+(cNm (el c x)).len<=(List.take (0+0) []++(cNm (el c x)).asList++List.drop (0+0+(cNm (el c x)).len) []).length/\(cNm (el c x)).len+1<=8796093022208/\
((cNm (el c x)).len+1<=0->0+(cNm (el c x)).len+1<=(List.take (0+0) []++(cNm (el c x)).asList++List.drop (0+0+(cNm (el c x)).len) []).length/\(0:Int)<=0/\0<=(↑(cNm (el c x)).len:Int)/\((↑(0:
Nat):Int)-(↑(cNm (el c x)).len:Int)).NonNeg/\0+0+(cNm (el c x)).len<=(List.take (0+(cNm (el c x)).len) (List.take (0+0) []++(cNm (el c x)).asList++List.drop (0+0+(cNm (el c x)).len) [])++
List.take 1 [D.str [(115:UInt8),(112:UInt8),(97:UInt8),(114:UInt8),(101:UInt8)]]++List.drop (0+(cNm (el c x)).len+1) (List.take (0+0) []++(cNm (el c x)).asList++List.drop (0+0+(cNm (el c
x)).len) [])).length/\0+1<= [D.sct [D.int (cK (el c x)),D.str (cA (el c x)),D.bool (cL (el c x)),D.list (List.take (cNm (el c x)).len (List.drop (0+0) (List.take (0+(cNm (el c x)).len) (List.take (0+0) []++
(cNm (el c x)).asList++List.drop (0+0+(cNm (el c x)).len) [])++List.take 1 [D.str [(115:UInt8),(112:UInt8),(97:UInt8),(114:UInt8),(101:UInt8)]]++List.drop (0+(cNm (el c x)).len+1) (List.take
(0+0) []++(cNm (el c x)).asList++List.drop (0+0+(cNm (el c x)).len) [])))),D.int (cN (el c x))]].length/\0+x<=(zbh c x).length/\x+1<=16777216/\fits64 ((x:Int)+1)/\((∃(y:Nat),y=0/\c.len-
y<c.len-x/\((x:Int)+1=0/\False/\True)/\True)\/∃(y:Nat),(0<y/\y<=c.len)/\c.len-y<c.len-x/\((x:Int)+1=(y:Int)/\((0:Nat)=0/\x+1=y/\True)/\True)/\List.take x (zbh c x)++
List.take 1 [D.sct [D.int (cK (el c x)),D.str (cA (el c x)),D.bool (cL (el c x)),D.list (List.take (cNm (el c x)).len (List.drop (0+0) (List.take (0+(cNm (el c x)).len) (List.take (0+0) []++(cNm (el c
x)).asList++List.drop (0+0+(cNm (el c x)).len) [])++List.take 1 [D.str [(115:UInt8),(112:UInt8),(97:UInt8),(114:UInt8),(101:UInt8)]]++List.drop (0+(cNm (el c x)).len+1) (List.take (0+0) []
++(cNm (el c x)).asList++List.drop (0+0+(cNm (el c x)).len) [])))),D.int (cN (el c x))]]=zbh c y/\True))/\(0<(cNm (el c x)).len+1->(0:Int)<=0/\0<=(↑(cNm (el c x)).len:Int)/\((↑((cNm (el c
x)).len+1):Int)-(↑(cNm (el c x)).len:Int)).NonNeg/\0+0+(cNm (el c x)).len<=(List.take (cNm (el c x)).len (List.take (0+0) []++(cNm (el c x)).asList++List.drop (0+0+(cNm (el c x)).len) [])++
List.take 1 [D.str [(115:UInt8),(112:UInt8),(97:UInt8),(114:UInt8),(101:UInt8)]]).length/\0+1<= [D.sct [D.int (cK (el c x)),D.str (cA (el c x)),D.bool (cL (el c x)),D.list (List.take (cNm (el c
x)).len (List.drop (0+0) (List.take (cNm (el c x)).len (List.take (0+0) []++(cNm (el c x)).asList++List.drop (0+0+(cNm (el c x)).len) [])++List.take 1 [D.str [(115:UInt8),(112:UInt8),(97:UInt8),
(114:UInt8),(101:UInt8)]]))),D.int (cN (el c x))]].length/\0+x<=(zbh c x).length/\x+1<=16777216/\fits64 ((x:Int)+1)/\((∃(y:Nat),y=0/\c.len-y<c.len-x/\((x:Int)+1=0/\False/\True)
/\True)\/∃(y:Nat),(0<y/\y<=c.len)/\c.len-y<c.len-x/\((x:Int)+1=(y:Int)/\((0:Nat)=0/\x+1=y/\True)/\True)/\List.take x (zbh c x)++List.take 1 [D.sct [D.int (cK (el c x)),D.str (cA
(el c x)),D.bool (cL (el c x)),D.list (List.take (cNm (el c x)).len (List.drop (0+0) (List.take (cNm (el c x)).len (List.take (0+0) []++(cNm (el c x)).asList++List.drop (0+0+(cNm (el c x)).len) [])++
List.take 1 [D.str [(115:UInt8),(112:UInt8),(97:UInt8),(114:UInt8),(101:UInt8)]]))),D.int (cN (el c x))]]=zbh c y/\True)))/\(0<0+(cNm (el c x)).len->0+1<= [D.str [(115:UInt8),(112:UInt8),
(97:UInt8),(114:UInt8),(101:UInt8)]].length/\0+(cNm (el c x)).len<=(List.take 0 ([]:List D)++(cNm (el c x)).asList).length/\(cNm (el c x)).len+1<=8796093022208/\(0:Int)<=0/\0<=(↑(cNm (el c
x)).len:Int)/\((↑((cNm (el c x)).len+1):Int)-(↑(cNm (el c x)).len:Int)).NonNeg/\0+0+(cNm (el c x)).len<=(List.take (cNm (el c x)).len (List.take 0 ([]:List D)++(cNm (el c x)).asList)++List.take 1
[D.str [(115:UInt8),(112:UInt8),(97:UInt8),(114:UInt8),(101:UInt8)]]).length/\0+1<= [D.sct [D.int (cK (el c x)),D.str (cA (el c x)),D.bool (cL (el c x)),D.list (List.take (cNm (el c x)).len (List.drop
(0+0) (List.take (cNm (el c x)).len (List.take 0 ([]:List D)++(cNm (el c x)).asList)++List.take 1 [D.str [(115:UInt8),(112:UInt8),(97:UInt8),(114:UInt8),(101:UInt8)]]))),D.int (cN (el c
x))]].length/\0+x<=(zbh c x).length/\x+1<=16777216/\fits64 ((x:Int)+1)/\((∃(y:Nat),y=0/\c.len-y<c.len-x/\((x:Int)+1=0/\False/\True)/\True)\/∃(y:Nat),(0<y/\y<=c.len)/\c.len
-y<c.len-x/\((x:Int)+1=(y:Int)/\((0:Nat)=0/\x+1=y/\True)/\True)/\List.take x (zbh c x)++List.take 1 [D.sct [D.int (cK (el c x)),D.str (cA (el c x)),D.bool (cL (el c x)),D.list (List.take
(cNm (el c x)).len (List.drop (0+0) (List.take (cNm (el c x)).len (List.take 0 ([]:List D)++(cNm (el c x)).asList)++List.take 1 [D.str [(115:UInt8),(112:UInt8),(97:UInt8),(114:UInt8),(101:
UInt8)]]))),D.int (cN (el c x))]]=zbh c y/\True)))))/\(((x:Int)<(c.len:Int)->False)->0+x<=(zbh c x).length/\D.list (List.take x (zbh c x))=ziC c)):=by intros;kernel_rfl
theorem zxr:∀(a b:D),zae (ctx cc2 zaR) 5 (69:FuncId) [V.dat (22:TypeId) a,V.dat (22:TypeId) b] (V.prop (ze4 a b))=((((a.len:Int)=(b.len:Int)->False)->(false=true↔ze4 a b))/\
((((a.len:Int)=(b.len:Int)->False)->False)->(∃(x:Nat),(x<=a.len/\∀(i:Nat),i<x->zoH (el a i) (el b i))/\(0=(x:Int)/\True)/\True)/\∀(x:Nat),(x<=a.len/\∀(i:Nat),i<x->zoH (el a
i) (el b i))->a.len-x<LIM/\((x:Int)<(a.len:Int)->0<=(x:Int)/\(x:Int)<(a.len:Int)/\0<=(x:Int)/\(x:Int)<(b.len:Int)/\(cNm (el a x)).len<=100/\((cK (el a x)=cK (el b x)/\cA (el a x)=
cA (el b x)/\(cL (el a x)↔cL (el b x))/\cN (el a x)=cN (el b x)/\eqS (cNm (el a x)) (cNm (el b x))->False)->(false=true↔ze4 a b))/\(((cK (el a x)=cK (el b x)/\cA (el a x)=cA (el b x)/\(cL (el a x)
↔cL (el b x))/\cN (el a x)=cN (el b x)/\eqS (cNm (el a x)) (cNm (el b x))->False)->False)->fits64 ((x:Int)+1)/\∃(y:Nat),(y<=a.len/\∀(i:Nat),i<y->zoH (el a i) (el b i))/\a.len-y<a.len-x
/\((x:Int)+1=(y:Int)/\True)/\True))/\(((x:Int)<(a.len:Int)->False)->(true=true↔ze4 a b)))):=by intros;kernel_rfl
theorem zxx:∀(c:D),zae (ctx cc3 zaR) 5 (98:FuncId) [V.dat (22:TypeId) c] (V.tup [V.int IntKind.i64 (zbl c).fst,V.int IntKind.i64 (zbl c).snd])=((32<(c.len:Int)->0=(zbl c).fst/\7=(zbl
c).snd/\True)/\((32<(c.len:Int)->False)->(∃(x:Nat),(x<=c.len/\zbk c (c.len-x) x=zbk c c.len 0)/\(0=(x:Int)/\True)/\True)/\∀(x:Nat),x<=c.len/\zbk c (c.len-x) x=zbk c c.len 0->
c.len-x<LIM/\((x:Int)<(c.len:Int)->0<=(x:Int)/\(x:Int)<(c.len:Int)/\(0:Int)<=0/\0<=(x:Int)/\(x:Int)<=(c.len:Int)/\(zaE (c.sub 0 x)/\(cNm (el c x)).len<=100)/\((zcy (c.sub 0 x)
(c.sub 0 x).len (cK (el c x)) (cA (el c x)) (cL (el c x)) (cNm (el c x)) (cN (el c x))=0->False)->(x:Int)=(zbl c).fst/\zcy (c.sub 0 x) (c.sub 0 x).len (cK (el c x)) (cA (el c x)) (cL (el c x)) (cNm (el c x))
(cN (el c x))=(zbl c).snd/\True)/\(((zcy (c.sub 0 x) (c.sub 0 x).len (cK (el c x)) (cA (el c x)) (cL (el c x)) (cNm (el c x)) (cN (el c x))=0->False)->False)->fits64 ((x:Int)+1)/\∃(y:Nat),(y<=c.len/\
zbk c (c.len-y) y=zbk c c.len 0)/\c.len-y<c.len-x/\((x:Int)+1=(y:Int)/\True)/\True))/\(((x:Int)<(c.len:Int)->False)->0=(zbl c).fst/\0=(zbl c).snd/\True))):=by intros;kernel_rfl
theorem zu2:∀(c:D),zae (ctx cc3 zaR) 5 (117:FuncId) [V.dat (22:TypeId) c] (V.tup [V.int IntKind.i64 (zbl c).fst,V.int IntKind.i64 (zbl c).snd])=((32<(c.len:Int)->0=(zbl c).fst/\7=(zbl
c).snd/\True)/\((32<(c.len:Int)->False)->(∃(x:Nat),(x<=c.len/\zbk c (c.len-x) x=zbk c c.len 0)/\(0=(x:Int)/\True)/\True)/\∀(x:Nat),x<=c.len/\zbk c (c.len-x) x=zbk c c.len 0->
c.len-x<LIM/\((x:Int)<(c.len:Int)->((0<=(x:Int)/\(x:Int)<(c.len:Int))/\zaE c)/\((zcM c x=0->False)->(x:Int)=(zbl c).fst/\zcM c x=(zbl c).snd/\True)/\(((zcM c x=0->False)->
False)->fits64 ((x:Int)+1)/\∃(y:Nat),(y<=c.len/\zbk c (c.len-y) y=zbk c c.len 0)/\c.len-y<c.len-x/\((x:Int)+1=(y:Int)/\True)/\True))/\(((x:Int)<(c.len:Int)->False)->0=
(zbl c).fst/\0=(zbl c).snd/\True))):=by intros;kernel_rfl
section
variable {c:D} {i:Nat} {k:Int} {a:List UInt8} {la:Prop} {nm:D} {n:Int}
theorem e30 (h:¬zax k a la nm.len n):zcy c i k a la nm n=30:=by unfold zcy;rw [if_pos h]
theorem e4 (h:zax k a la nm.len n) (hb:zeS nm\/(a≠ []/\¬zaB a)):zcy c i k a la nm n=4:=by unfold zcy;rw [if_neg (λhn=>hn h),if_pos hb]
theorem e5 (h:zax k a la nm.len n) (hb:¬(zeS nm\/(a≠ []/\¬zaB a))) (ht:zbc nm):zcy c i k a la nm n=5:=by unfold zcy;rw [if_neg (λhn=>hn h),if_neg hb,if_pos ht]
theorem e31 (h:zax k a la nm.len n) (hb:¬(zeS nm\/(a≠ []/\¬zaB a))) (ht:¬zbc nm) (ha:a≠ []) (hl:¬zaJ c i a):zcy c i k a la nm n=31:=by unfold zcy;rw [if_neg (λhn=>hn h),if_neg hb,if_neg ht,if_pos ⟨ha,hl⟩]
theorem e0 (h:zax k a la nm.len n) (hb:¬(zeS nm\/(a≠ []/\¬zaB a))) (ht:¬zbc nm) (hl:a= []\/zaJ c i a):zcy c i k a la nm n=0:=by
 unfold zcy;rw [if_neg (λhn=>hn h),if_neg hb,if_neg ht,if_neg (λhh=>hl.elim hh.1 hh.2)]
end
theorem zwe (c:D) (i:Int) (hi:0<=i/\i<c.len) (h:zaE c):zae (ctx cc1 zaR) 3 154 [.dat 22 c,.int .i64 i] (.int .i64 (zcM c i.toNat)):=by
 have hlen:=h.out.1
 have hnl:=h.out.2 i.toNat (by omega)
 rw [zvb]
 simp only [imp_false,Classical.not_not,true_and,and_true]
 refine ⟨hi.1,hi.2,λhf=>(e30 hf).symm,λhf=>⟨hi.1,hi.2,λha=>⟨hi.1,hi.2,λhn=>(e4 hf (.inr ⟨ha,hn⟩)).symm,λhn=> ?_⟩,λha=> ?_⟩⟩
 all_goals
  have hA:¬(cA (el c i.toNat)≠ []/\¬zaB (cA (el c i.toNat))):=by first|exact λh=>h.2 hn|exact λh=>h.1 ha
  refine ⟨⟨0,⟨by omega,λi hi=>by omega⟩,rfl⟩,λx ⟨hx,hinv⟩=>⟨by unfold LIM;omega,hi.1,hi.2,λhlt=>⟨hi.1,hi.2,by omega,hlt,λhn=>(e4 hf (.inl ⟨x,by omega,hn⟩)).symm,λhn=>⟨by omega,x+1,⟨by omega,λj hj=> ?_⟩,by omega,by omega⟩⟩,λhge=> ?_⟩⟩
  .by_cases e:j=x
   .subst e;exact hn
   .exact hinv j (by omega)
  have hbad:¬(zeS (cNm (el c i.toNat))\/(cA (el c i.toNat)≠ []/\¬zaB (cA (el c i.toNat)))):=λh=>h.elim (λ⟨j,h1,h2⟩=>h2 (hinv j (by omega))) hA
  refine ⟨⟨0,⟨by omega,λi k _ hi=>by omega⟩,rfl⟩,λx ⟨hx,hinv⟩=>⟨by unfold LIM;omega,hi.1,hi.2,λhlt=> ?_,λhge=> ?_⟩⟩
  .have hs:=zoS (cNm (el c i.toNat)) x (by omega) (sAt (cNm (el c i.toNat)) x)
   refine ⟨hi.1,hi.2,by omega,by omega,by omega,hi.1,hi.2,by omega,hlt,by rw [za7 _ x (by omega)];omega,λhh=> ?_,λhn=>⟨by omega,x+1,⟨by omega,λj k hk hj=> ?_⟩,by omega,by omega⟩⟩
   .obtain ⟨k,h1,h2⟩:=hs.1 hh
    exact (e5 hf hbad ⟨x,k,h1,by omega,h2⟩).symm
   .by_cases e:j=x
    .subst e;exact λh=>hn (hs.2 ⟨k,hk,h⟩)
    .exact hinv j k hk (by omega)
  have htw:¬zbc (cNm (el c i.toNat)):=λ⟨⟨j,k,h1,h2,h3⟩⟩=>hinv j k h1 (by omega) h3
  have go:∀x:Nat,(x:Int)<i->(∀k:Nat,k<x->¬(cK (el c k)=1/\zbn (cNm (el c k)) (cA (el c i.toNat))))->¬(cK (el c x)=1/\zbn (cNm (el c x)) (cA (el c i.toNat)))->∃y:Nat,(y<=i.toNat/\∀k:Nat,k<y->¬(cK (el c k)=1/\zbn (cNm (el c k)) (cA (el c i.toNat))))/\i.toNat-y<i.toNat-x/\(x:Int)+1=(y:Int):=λx hx hinv hn=>⟨x+1,⟨by omega,λk hk=>by
   by_cases e:k=x
   .subst e;exact hn
   .exact hinv k (by omega)⟩,by omega,by omega⟩
  exact ⟨hi.1,hi.2,λha=>(e0 hf hbad htw (.inl ha)).symm,λha=>⟨⟨0,⟨by omega,λi hi=>by omega⟩,rfl⟩,λx ⟨hx,hinv⟩=>⟨by unfold LIM;omega,λhlt=>⟨by omega,by omega,λhk=>⟨by omega,by omega,hi.1,hi.2,h.out.2 x (by omega),λhh=>(e0 hf hbad htw (.inr ⟨x,by omega,hk,hh⟩)).symm,λhn=>⟨by omega,go x hlt hinv λh=>hn h.2⟩⟩,λhk=>⟨by omega,go x hlt hinv λh=>hk h.1⟩⟩,
   λhge=>(e31 hf hbad htw ha λ⟨⟨k,h1,h2⟩⟩=>hinv k (by omega) h2).symm⟩⟩⟩
theorem zv8 (b:D) (k:Int) (a:List UInt8) (la:Prop) (nm:D) (n:Int) (h:zaE b) (hnl:nm.len<=100):zae (ctx cc2 zaR) 6 130 [.dat 22 b,.agg [.int .u8 k,.str a,.prop la,.dat 29 nm,.int .i64 n]] (.int .i64 (zcy b b.len k a la nm n)):=by
 rw [zu5]
 simp only [imp_false,Classical.not_not,true_and,and_true]
 refine ⟨λhf=>(e30 hf).symm,λhf=>⟨⟨0,⟨by omega,λi hi=>by omega⟩,rfl⟩,λx ⟨hx,hinv⟩=>⟨by unfold LIM;omega,λhlt=>⟨by omega,hlt,λhn=>⟨λh0=>absurd (by omega) h0,λ_=>(e4 hf (.inl ⟨x,by omega,hn⟩)).symm⟩,λhn=>⟨by omega,x+1,⟨by omega,λj hj=> ?_⟩,by omega,by omega⟩⟩,λhge=>⟨λha=>⟨λhn=>(e4 hf (.inr ⟨ha,hn⟩)).symm,λhn=> ?_⟩,λha=> ?_⟩⟩⟩⟩
 .by_cases e:j=x
  .subst e;exact hn
  .exact hinv j (by omega)
 all_goals
  have hA:¬(a≠ []/\¬zaB a):=by first|exact λh=>h.2 hn|exact λh=>h.1 ha
  have hbad:¬(zeS nm\/(a≠ []/\¬zaB a)):=λh=>h.elim (λ⟨j,h1,h2⟩=>h2 (hinv j (by omega))) hA
  exact ⟨hnl,λht=>(e5 hf hbad ht).symm,λht=>⟨λha=>⟨h,λhl=>(e31 hf hbad ht ha hl).symm,λhl=>(e0 hf hbad ht (.inr hl)).symm⟩,λha=>(e0 hf hbad ht (.inl ha)).symm⟩⟩
theorem zi6 (l:D) (x:Nat) (hx:x<l.len):zbk l (l.len-x) x=if zcM l x≠0 then ((x:Int),zcM l x) else zbk l (l.len-(x+1)) (x+1):=by
 have:l.len-x=(l.len-(x+1))+1:=by omega
 rw [this];rfl
theorem zi7 {l:D} {x:Nat} (hl:¬(32:Int)<l.len) (hx:x<l.len) (hinv:zbk l (l.len-x) x=zbk l l.len 0) {e:Int} (he:zcM l x=e) (hn:e≠0):(zbl l).1=x/\(zbl l).2=e:=by
 have hs:=zi6 l x hx
 rw [hinv,if_pos (by rw [he];exact hn),he] at hs
 have:zbl l=((x:Int),e):=by unfold zbl;rw [if_neg (by omega),hs]
 rw [this];exact ⟨rfl,rfl⟩
theorem zoJ {l:D} {x:Nat} (hx:x<l.len) (hinv:zbk l (l.len-x) x=zbk l l.len 0) (he:zcM l x=0):zbk l (l.len-(x+1)) (x+1)=zbk l l.len 0:=by
 have hs:=zi6 l x hx
 rw [hinv,if_neg (λh=>h he)] at hs
 exact hs.symm
theorem zln {l:D} {x:Nat} (hl:¬(32:Int)<l.len) (hx:l.len<=x) (hinv:zbk l (l.len-x) x=zbk l l.len 0):(zbl l).1=0/\(zbl l).2=0:=by
 have:l.len-x=0:=by omega
 rw [this] at hinv
 have:zbl l=(0,0):=by unfold zbl;rw [if_neg (by omega),<-hinv];rfl
 rw [this];exact ⟨rfl,rfl⟩
theorem zkE {l:D} (hl:(32:Int)<l.len):(zbl l).1=0/\(zbl l).2=7:=by
 have:zbl l=(0,7):=by unfold zbl;rw [if_pos (by omega)]
 rw [this];exact ⟨rfl,rfl⟩
theorem zmi (c:D) (x:Nat) (h:x<=c.len) (a:List UInt8):zaJ (c.sub 0 x) (c.sub 0 x).len a=zaJ c x a:=propext (by
 rw [za7 c x h]
 exact ⟨λ⟨⟨k,h1,h2⟩⟩=>⟨k,h1,by rw [zcR c x k h1] at h2;exact h2⟩,λ⟨⟨k,h1,h2⟩⟩=>⟨k,h1,by rw [zcR c x k h1];exact h2⟩⟩)
theorem zsN (c:D) (x:Nat) (h:x<=c.len):zcy (c.sub 0 x) (c.sub 0 x).len (cK (el c x)) (cA (el c x)) (cL (el c x)) (cNm (el c x)) (cN (el c x))=zcM c x:=by
 unfold zcM zcy
 rw [zmi c x h]
theorem zoU {c:D} (h:zaE c) (x:Nat) (hx:x<=c.len):zaE (c.sub 0 x):=⟨by rw [za7 c x hx];exact Nat.le_trans hx h.out.1,λi hi=>by rw [za7 c x hx] at hi;rw [zcR c x i hi];exact h.out.2 i (by omega)⟩
theorem s98 (c:D) (h:zaE c):zae (ctx cc3 zaR) 5 98 [.dat 22 c] (.tup [.int .i64 (zbl c).1,.int .i64 (zbl c).2]):=by
 have hlen:=h.out.1
 rw [zxx]
 simp only [imp_false,Classical.not_not,true_and,and_true]
 refine ⟨λhl=>by have:=zkE hl;exact ⟨this.1.symm,this.2.symm⟩,λhl=>⟨⟨0,⟨by omega,rfl⟩,rfl⟩,λx ⟨hx,hinv⟩=>⟨by unfold LIM;omega,λhlt=> ?_,λhge=> ?_⟩⟩⟩
 .rw [zsN c x (by omega)]
  refine ⟨by omega,hlt,by omega,by omega,by omega,⟨zoU h x (by omega),h.out.2 x (by omega)⟩,λhe=> ?_,λhe=>⟨by omega,x+1,⟨by omega,zoJ (by omega) hinv he⟩,by omega,by omega⟩⟩
  have:=zi7 hl (by omega) hinv rfl he;exact ⟨this.1.symm,this.2.symm⟩
 .have:=zln hl (by omega) hinv;exact ⟨this.1.symm,this.2.symm⟩
theorem zv5 (c:D) (h:zaE c):zae (ctx cc3 zaR) 5 117 [.dat 22 c] (.tup [.int .i64 (zbl c).1,.int .i64 (zbl c).2]):=by
 have hlen:=h.out.1
 rw [zu2]
 simp only [imp_false,Classical.not_not,true_and,and_true]
 refine ⟨λhl=>by have:=zkE hl;exact ⟨this.1.symm,this.2.symm⟩,λhl=>⟨⟨0,⟨by omega,rfl⟩,rfl⟩,λx ⟨hx,hinv⟩=>⟨by unfold LIM;omega,λhlt=> ?_,λhge=> ?_⟩⟩⟩
 .refine ⟨⟨⟨by omega,hlt⟩,h⟩,λhe=> ?_,λhe=>⟨by omega,x+1,⟨by omega,zoJ (by omega) hinv he⟩,by omega,by omega⟩⟩
  have:=zi7 hl (by omega) hinv rfl he;exact ⟨this.1.symm,this.2.symm⟩
 .have:=zln hl (by omega) hinv;exact ⟨this.1.symm,this.2.symm⟩
theorem s69 (a b:D) (h:zaE a):zae (ctx cc2 zaR) 5 69 [.dat 22 a,.dat 22 b] (.prop (ze4 a b)):=by
 have hlen:=h.out.1
 rw [zxr]
 simp only [imp_false,Classical.not_not,true_and,and_true]
 refine ⟨λhne=>⟨λh=>by simp at h,λh=>absurd (by rw [h.out.1]) hne⟩,λheq=>⟨⟨0,⟨by omega,λi hi=>by omega⟩,rfl⟩,λx ⟨hx,hinv⟩=>⟨by unfold LIM;omega,λhlt=>⟨by omega,hlt,by omega,by omega,h.out.2 x (by omega),λhn=>⟨λh=>by simp at h,λh=>absurd (h.out.2 x (by omega)).out hn⟩,λhs=>⟨by omega,x+1,⟨by omega,λi hi=> ?_⟩,by omega,by omega⟩⟩,λhge=>⟨λ_=>⟨by omega,λi hi=>hinv i (by omega)⟩,λ_=>by first|rfl|trivial⟩⟩⟩⟩
 by_cases e:i=x
 .subst e;exact ⟨hs⟩
 .exact hinv i (by omega)
theorem sl7 (c:D):zae (ctx (λ_=>none) znM) 8 15 [.dat 22 c] (.prop (zp4 c)):=by
 rw [zxh]
 simp only [imp_false,Classical.not_not,true_and,and_true]
 have no:∀x,x<c.len->¬zr8 (el c x)->(¬(0:Int)<=x↔zp4 c):=λx hx hn=>⟨λh=>absurd (by omega) h,λh=>absurd (h.out.2 x hx) hn⟩
 refine ⟨λhl=>⟨⟨0,⟨by omega,λi hi=>by omega⟩,rfl⟩,λx ⟨hx,hinv⟩=>⟨by unfold LIM;omega,λhlt=>⟨by omega,hlt,λh1=>⟨λh2=>⟨⟨0,⟨by omega,λi hi=>by omega⟩,rfl⟩,λj ⟨hj,jinv⟩=>⟨by unfold LIM;omega,λhjl=>⟨by omega,hjl,λh3=>⟨λ_=>no x (by omega) λh=> ?_,λh=>absurd (by omega) h⟩,λh3=>⟨by omega,j+1,⟨by omega,λi hi=> ?_⟩,by omega,by omega⟩⟩,λhje=>⟨by omega,x+1,⟨by omega,λi hi=> ?_⟩,by omega,by omega⟩⟩⟩,λh2=>no x (by omega) λh=> ?_⟩,λh1=>no x (by omega) λh=> ?_⟩,λhge=> ?_⟩⟩,λhl=>⟨λh=>by simp at h,λh=>absurd h.out.1 (by omega)⟩⟩
 .have:=h.out.2.2 j (by omega);omega
 .by_cases e:i=j
  .subst e;omega
  .exact jinv i (by omega)
 .by_cases e:i=x
  .subst e;exact ⟨by omega,by omega,λi hi=>jinv i (by omega)⟩
  .exact hinv i (by omega)
 .have:=h.out.2.1;omega
 .have:=h.out.1;omega
 .exact ⟨λ_=>⟨by omega,λi hi=>hinv i (by omega)⟩,λ_=>by first|rfl|trivial⟩
theorem zma (a b:Int):(b-a).NonNeg↔a<=b:=Iff.rfl
theorem zp3:Int.toNat (0:Int)=0:=rfl
theorem znG (l:D) (x:Nat):zbh l (x+1)=zbh l x++ [ztk (el l x)]:=by
 unfold zbh;rw [List.range_succ,List.map_append];rfl
theorem zeo (l:D) (x:Nat):(zbh l x).length=x:=by unfold zbh;simp
theorem zn8 (l:D) (x:Nat) (X:List D) (hX:List.take (cNm (el l x)).len X=(cNm (el l x)).asList):
  List.take x (zbh l x)++List.take 1 [D.sct [D.int (cK (el l x)),D.str (cA (el l x)),D.bool (cL (el l x)),D.list (List.take (cNm (el l x)).len X),D.int (cN (el l x))]]=zbh l (x+1):=by
 rw [hX,znG,List.take_of_length_le (by rw [zeo];exact Nat.le_refl _)];rfl
theorem zqc (l:D) (X:List D) (hX:List.take (cNm (el l 0)).len X=(cNm (el l 0)).asList):
  List.take 1 [D.sct [D.int (cK (el l 0)),D.str (cA (el l 0)),D.bool (cL (el l 0)),D.list (List.take (cNm (el l 0)).len X),D.int (cN (el l 0))]]=zbh l 1:=by
 have:=zn8 l 0 X hX
 exact this
theorem take_zero (o:D) (X:List D) (h:o.len=0):List.take o.len X=o.asList:=by
 rw [h,List.take_zero];exact (List.eq_nil_of_length_eq_zero h).symm
theorem zic (o:D) (Y:List D):List.take o.len (List.take o.len o.asList++Y)=o.asList:=by
 have e:List.take o.len o.asList=o.asList:=List.take_of_length_le (Nat.le_refl _)
 rw [e]
 exact List.take_left' rfl
theorem zjm (o:D) (Y Z:List D):List.take o.len (List.take o.len o.asList++Y++Z)=o.asList:=by
 rw [List.append_assoc];exact zic o _
theorem ziP {o:D} (h:o.isNil):o.len=0:=by cases o<;>first|rfl|exact h.elim
theorem zq9 (o:D):o.asList.length=o.len:=rfl
theorem s60 (l:D) (h:zaE l):zae (ctx (λ_=>none) zaR) 5 60 [.dat 22 l] (.dat 22 (ziC l)):=by
 have hlen:=h.out.1
 rw [zxp]
 simp only [imp_false,Classical.not_not,true_and,and_true,false_and,and_false,or_false,false_or,exists_false,Nat.zero_add,Nat.add_zero,List.take_nil,List.drop_nil,List.drop_zero,List.nil_append,List.append_nil,List.length_nil,List.length_cons,List.length_append,zma,zp3,Nat.le_refl,Int.le_refl,forall_eq,exists_eq]
 refine ⟨⟨by unfold LIM;omega,λhlt=>⟨hlt, ?_⟩,λhge=> ?_⟩,λx ⟨hx0,hx⟩=>⟨by unfold LIM;omega,λhlt=>⟨by omega,hlt, ?_⟩,λhge=> ?_⟩⟩
 .have ho:=h.out.2 0 (by omega)
  refine ⟨λhnil=> ?_, ?_⟩
  .have h0:=ziP hnil
   repeat' (first|refine And.intro ?_ ?_|intro _)
   all_goals (first|omega| (simp;done)| (simp [h0];done)|skip)
   exact ⟨_,⟨by omega,by omega⟩,by omega,⟨by omega,rfl⟩,zqc l _ (take_zero _ _ h0)⟩
  .repeat' (first|refine And.intro ?_ ?_|intro _)
   all_goals (first|omega| (simp only [List.length_take,List.length_drop,List.length_cons,List.length_nil,zq9];omega)|skip)
   all_goals (first
    |exact ⟨_,⟨by omega,by omega⟩,by omega,⟨by omega,rfl⟩,zqc l _ (take_zero _ _ (by omega))⟩
    |exact ⟨_,⟨by omega,by omega⟩,by omega,⟨by omega,rfl⟩,zqc l _ (zic _ _)⟩
    |exact ⟨_,⟨by omega,by omega⟩,by omega,⟨by omega,rfl⟩,zqc l _ (zjm _ _ _)⟩)
 .have:l.len=0:=by omega
  unfold ziC;rw [this];rfl
 .have ho:=h.out.2 x (by omega)
  have hc:=zeo l x
  refine ⟨λhnil=> ?_, ?_⟩
  .have h0:=ziP hnil
   repeat' (first|refine And.intro ?_ ?_|intro _)
   all_goals (first|omega| (simp;done)| (simp [h0];done)|skip)
   exact ⟨_,⟨by omega,by omega⟩,by omega,⟨by omega,rfl⟩,zn8 l x _ (take_zero _ _ h0)⟩
  .repeat' (first|refine And.intro ?_ ?_|intro _)
   all_goals (first|omega| (simp only [List.length_take,List.length_drop,List.length_cons,List.length_nil,zq9];omega)|skip)
   all_goals (first
    |exact ⟨_,⟨by omega,by omega⟩,by omega,⟨by omega,rfl⟩,zn8 l x _ (take_zero _ _ (by omega))⟩
    |exact ⟨_,⟨by omega,by omega⟩,by omega,⟨by omega,rfl⟩,zn8 l x _ (zic _ _)⟩
    |exact ⟨_,⟨by omega,by omega⟩,by omega,⟨by omega,rfl⟩,zn8 l x _ (zjm _ _ _)⟩)
 .have:x=l.len:=by omega
  subst this
  have hne:zbh l l.len≠ []:=λhn=>by have:=zeo l l.len;rw [hn] at this;simp at this;omega
  have hl:ziC l= .list (zbh l l.len):=by
   unfold ziC zdV
   split
   .rename_i hn;exact absurd hn hne
   .rfl
  rw [hl,List.take_of_length_le (by rw [zeo];exact Nat.le_refl _)]
  exact ⟨by rw [zeo];exact Nat.le_refl _,rfl⟩
end Go.Ev

end

section
open Go.Proofs
namespace Go.Ev
set_option maxRecDepth 100000
set_option maxHeartbeats 4000000
theorem zcZ {k:Int} {nm:D} {n:Int} {g:GD}:naP k nm n g↔((k=4/\g.sd=n)\/(k=5/\g.ho)\/(k=7/\zbn nm g.ct)\/((k≠4/\k≠5/\k≠7)/\zpy g.tg nm)):=⟨λh=>h.out,λh=>⟨h⟩⟩
theorem zai {k:Int} {la:Prop} {nm:D} {n:Int} {a b:GD} {i j:Int}:zdd k la nm n a b i j↔((k=1/\idx nm a.rk<idx nm b.rk)\/(k=2/\a.si≠0/\(b.si=0\/a.si<b.si))\/(k=3/\a.si≠0/\(b.si=0\/b.si<a.si))\/(k=8/\sLt a.nm b.nm)\/(k=9/\inB i/\inB j/\i<j)\/
  (k=10/\inB i/\inB j/\zl3 i n<zl3 j n)\/((k≠1/\k≠2/\k≠3/\k≠8/\k≠9/\k≠10)/\((la/\¬naP k nm n a/\naP k nm n b)\/(¬la/\naP k nm n a/\¬naP k nm n b)))):=⟨λh=>h.out,λh=>⟨h⟩⟩
theorem zcG {p:Int}:inB p↔(0<=p/\p<=63):=⟨λh=>⟨h.out.1,by have:=h.out.2;omega⟩,λh=>⟨h.1,by omega⟩⟩
theorem zbD (c:D) (n:Nat):(zaW c n).length=n:=by simp [zaW]
theorem zkr (c:D) (n:Nat):zaW c (n+1)=zaW c n++ [zkq c n]:=by unfold zaW;rw [List.range_succ,List.map_append];rfl
theorem zpg {c:D} {x:Nat} (h:x<c.len):(zaW c x++List.replicate (c.len-x) D.nil).set x (zkq c x)=zaW c (x+1)++List.replicate (c.len-(x+1)) D.nil:=by
 rw [show c.len-x=(c.len-(x+1))+1 by omega,List.replicate_succ,List.set_append_right _ _ (by rw [zbD];exact Nat.le_refl _),zbD,Nat.sub_self,List.set_cons_zero,zkr,List.append_assoc];rfl
theorem zlD {c:D} {n k:Nat} (h:k<n):el (.list (zaW c n)) k=zkq c k:=by
 unfold el zas zaW
 show ((List.map (λi=>zkq c i) (List.range n))[k]?).getD .nil=_
 rw [List.getElem?_map,List.getElem?_range h];rfl
theorem zlp {f:Nat->Int} {n x:Nat} (h:x<n) (hs:zbL f (n-x) x=zbL f n 0):(f x≠0->zbL f n 0=(((x:Nat):Int),f x))/\(f x=0->zbL f (n-(x+1)) (x+1)=zbL f n 0):=by
 have hu:zbL f ((n-(x+1))+1) x=if f x≠0 then (((x:Nat):Int),f x) else zbL f (n-(x+1)) (x+1):=rfl
 rw [show n-x=(n-(x+1))+1 by omega,hu] at hs
 constructor
 .intro k;rw [if_pos k] at hs;exact hs.symm
 .intro k;rw [if_neg (λq=>q k)] at hs;exact hs
theorem zsF {f:Nat->Int} {n x:Nat} (h:x=n) (hs:zbL f (n-x) x=zbL f n 0):zbL f n 0=(-1,0):=by
 subst h
 rw [Nat.sub_self] at hs
 exact hs.symm
theorem zhg {f g:Nat->Int} {n:Nat} (h:∀k,k<n->f k=g k):∀(m i:Nat),i+m<=n->zbL f m i=zbL g m i
 |0,_,_=>rfl
 |m+1,i,hi=>by unfold zbL;rw [h i (by omega),zhg h m (i+1) (by omega)]
theorem zgp {l:D}:∀(f i:Nat),(zbk l f i).2=0->∀k,i<=k->k<i+f->zcM l k=0
 |0,i,_,k,h1,h2=>by omega
 |f+1,i,h,k,h1,h2=>by
  unfold zbk at h
  by_cases e:zcM l i=0
  .rw [if_neg (λq=>q e)] at h
   by_cases q:k=i
   .subst q;exact e
   .exact zgp f (i+1) h k (by omega) (by omega)
  .rw [if_pos e] at h;exact (e h).elim
theorem zfz {c:D} (h:(zbl c).2=0) {x:Nat} (hx:x<c.len):zax (cK (el c x)) (cA (el c x)) (cL (el c x)) (cNm (el c x)).len (cN (el c x)):=by
 unfold zbl at h
 split at h
 .cases h
 .have:=zgp c.len 0 h x (Nat.zero_le _) (by omega)
  unfold zcM zcy at this
  by_cases q:zax (cK (el c x)) (cA (el c x)) (cL (el c x)) (cNm (el c x)).len (cN (el c x))
  .exact q
  .rw [if_pos q] at this;cases this
theorem zqa {k:Int} {a:List UInt8} {la:Prop} {m:Nat} {n:Int} (h:zax k a la m n):k=10->0<=n/\n<=63:=λe=>by
 rcases h.out with h|h|h|h|h|h
 .omega
 .omega
 .omega
 .omega
 .omega
 .exact ⟨h.2.2.1,h.2.2.2.1⟩
theorem zf7 {k:Int} {a:List UInt8} {la:Prop} {m:Nat} {n:Int} (h:zax k a la m n):1<=k/\k<=10:=by
 rcases h.out with h|h|h|h|h|h<;>omega
theorem zg4 (g:FuncId) (ts:List TypeId) (ds:List D):idD (.fn g ts ds)=g:=rfl
theorem zoG (r:D) (a b:GD) (i j:Int):zbs (.fn 216 [227] [r]) a b i j=zdi (zjZ r a) (zjZ r b):=by
 unfold zbs;rw [zg4,if_pos rfl];rfl
theorem zcn (m:D) (la:Prop) (a b:GD) (i j:Int):zbs (.fn 220 [184,4] [m,.bool la]) a b i j=zjS (zdf m a) (zdf m b) la:=by
 unfold zbs;rw [zg4,if_neg (show ¬(220:Nat)=216 by decide),if_pos rfl];rfl
theorem zi2 (a b:GD) (i j:Int):zbs (.fn 184 [] []) a b i j=zgO a.nm b.nm:=by
 unfold zbs;rw [zg4,if_neg (show ¬(184:Nat)=216 by decide),if_neg (show ¬(184:Nat)=220 by decide),if_pos rfl]
open Classical in
theorem zgn (e k:D) (a b:GD) (i j:Int):zbs (.fn 223 [181,80] [e,k]) a b i j=if inB i/\inB j then zdi (zoF k i) (zoF k j) else 0:=by
 unfold zbs;rw [zg4,if_neg (show ¬(223:Nat)=216 by decide),if_neg (show ¬(223:Nat)=220 by decide),if_neg (show ¬(223:Nat)=184 by decide)];rfl
theorem zgo (u c:D) (a b:GD) (i j:Int):zcP (.fn 218 [173,142] [u,c]) a b i j=orZ (zbs u a b i j) (zij c a.si b.si):=by
 unfold zcP;rw [zg4,if_pos rfl];rfl
theorem zc1 {g:FuncId} {ts:List TypeId} {ds:List D} (h:g≠218) (a b:GD) (i j:Int):zcP (.fn g ts ds) a b i j=zbs (.fn g ts ds) a b i j:=by unfold zcP;rw [zg4,if_neg h]
theorem zlg (x:D) (g:GD):zdf (.fn 179 [69] [x]) g↔g.sd=cN x:=⟨λh=>by rcases h.out with h|h|h|h|h;exact h.2;all_goals (have:=h.1;cases this),λh=>⟨.inl ⟨rfl,h⟩⟩⟩
theorem zlh (g:GD):zdf (.fn 180 [] []) g↔g.ho:=⟨λh=>by rcases h.out with h|h|h|h|h;(have:=h.1;cases this);exact h.2;all_goals (have:=h.1;cases this),λh=>⟨.inr (.inl ⟨rfl,h⟩)⟩⟩
theorem zli (x:D) (g:GD):zdf (.fn 181 [69] [x]) g↔zpy g.tg (cNm x):=⟨λh=>by rcases h.out with h|h|h|h|h;(have:=h.1;cases this);(have:=h.1;cases this);exact h.2;all_goals (have:=h.1;cases this),λh=>⟨.inr (.inr (.inl ⟨rfl,h⟩))⟩⟩
theorem zlj (x:D) (g:GD):zdf (.fn 183 [69] [x]) g↔zbn (cNm x) g.ct:=⟨λh=>by rcases h.out with h|h|h|h|h;(have:=h.1;cases this);(have:=h.1;cases this);(have:=h.1;cases this);exact h.2;(have:=h.1;cases this),λh=>⟨.inr (.inr (.inr (.inl ⟨rfl,h⟩)))⟩⟩
theorem zeC (g:GD):zdf (.fn 217 [] []) g↔g.si=0:=⟨λh=>by rcases h.out with h|h|h|h|h;(have:=h.1;cases this);(have:=h.1;cases this);(have:=h.1;cases this);(have:=h.1;cases this);exact h.2,λh=>⟨.inr (.inr (.inr (.inr ⟨rfl,h⟩)))⟩⟩
open Classical in
theorem zhL {p q la A B:Prop} (h1:A↔((la/\¬p/\q)\/(¬la/\p/\¬q))) (h2:B↔((la/\¬q/\p)\/(¬la/\q/\¬p))):zjS p q la=if A then-1 else if B then 1 else 0:=by
 unfold zjS
 by_cases hp:p<;>by_cases hq:q<;>by_cases hl:la<;>simp [h1,h2,hp,hq,hl]
open Classical in
theorem zpp {x y u w:Int} {A B:Prop} (h1:A↔(x≠0/\(y=0\/u<w))) (h2:B↔(y≠0/\(x=0\/w<u))) {p q:Prop} (hp:p↔x=0) (hq:q↔y=0) (h0:x=0->y=0->u=w):orZ (zjS p q True) (zdi u w)=if A then-1 else if B then 1 else 0:=by
 unfold orZ zjS
 by_cases hx:x=0<;>by_cases hy:y=0
 .have:=h0 hx hy
  subst this
  simp [h1,h2,hp,hq,hx,hy,zdi]
 .simp [h1,h2,hp,hq,hx,hy]
 .simp [h1,h2,hp,hq,hx,hy]
 .have e:zdi u w=if A then-1 else if B then 1 else 0:=zhu (h1.trans (by simp [hx,hy])) (h2.trans (by simp [hx,hy]))
  rw [<-e]
  simp [hp,hq,hx,hy]
theorem zq8 (p n:Int):(p*(n+n+1)+n).tmod 64=zl3 p n:=by unfold zl3;rw [show n+n+1=2*n+1 by omega]
open Classical in
theorem zqz {k:Int} (h1:1<=k) (h2:k<=10) (s:List UInt8) (la:Prop) (nm:D) (n:Int) (a b:GD) (i j:Int):
  zcP (zbM k s la nm n) a b i j=if zdd k la nm n a b i j then-1 else if zdd k la nm n b a j i then 1 else 0:=by
 have hk:k=1\/k=2\/k=3\/k=4\/k=5\/k=6\/k=7\/k=8\/k=9\/k=10:=by omega
 rcases hk with rfl|rfl|rfl|rfl|rfl|rfl|rfl|rfl|rfl|rfl
 .show zcP (.fn 216 [227] [.fn 215 [29] [nm]]) a b i j=_
  rw [zc1 (by decide),zoG]
  exact zhu (by rw [zai];simp;exact (Int.ofNat_lt).symm) (by rw [zai];simp;exact (Int.ofNat_lt).symm)
 .show zcP (.fn 218 [173,142] [.fn 220 [184,4] [.fn 217 [] [],.bool (true=true)],.fn 114 [] []]) a b i j=_
  rw [zgo,zcn,show (true=true)=True from eq_true rfl]
  exact zpp (x:=a.si) (y:=b.si) (by rw [zai];simp) (by rw [zai];simp) (zeC a) (zeC b) (λh k=>by rw [h,k])
 .show zcP (.fn 218 [173,142] [.fn 220 [184,4] [.fn 217 [] [],.bool (true=true)],.fn 177 [] []]) a b i j=_
  rw [zgo,zcn,show (true=true)=True from eq_true rfl]
  exact zpp (x:=a.si) (y:=b.si) (u:=b.si) (w:=a.si) (by rw [zai];simp) (by rw [zai];simp) (zeC a) (zeC b) (λh k=>by rw [h,k])
 .show zcP (.fn 220 [184,4] [.fn 179 [69] [xD 4 s la nm n],.bool la]) a b i j=_
  rw [zc1 (by decide),zcn]
  have e:∀g,zdf (.fn 179 [69] [xD 4 s la nm n]) g↔naP 4 nm n g:=λg=>(zlg _ g).trans (by rw [zcZ];simp;rfl)
  exact zhL (by rw [zai,e,e];simp) (by rw [zai,e,e];simp)
 .show zcP (.fn 220 [184,4] [.fn 180 [] [],.bool la]) a b i j=_
  rw [zc1 (by decide),zcn]
  have e:∀g,zdf (.fn 180 [] []) g↔naP 5 nm n g:=λg=>(zlh g).trans (by rw [zcZ];simp)
  exact zhL (by rw [zai,e,e];simp) (by rw [zai,e,e];simp)
 .show zcP (.fn 220 [184,4] [.fn 181 [69] [xD 6 s la nm n],.bool la]) a b i j=_
  rw [zc1 (by decide),zcn]
  have e:∀g,zdf (.fn 181 [69] [xD 6 s la nm n]) g↔naP 6 nm n g:=λg=>(zli _ g).trans (by rw [zcZ];simp;rfl)
  exact zhL (by rw [zai,e,e];simp) (by rw [zai,e,e];simp)
 .show zcP (.fn 220 [184,4] [.fn 183 [69] [xD 7 s la nm n],.bool la]) a b i j=_
  rw [zc1 (by decide),zcn]
  have e:∀g,zdf (.fn 183 [69] [xD 7 s la nm n]) g↔naP 7 nm n g:=λg=>(zlj _ g).trans (by rw [zcZ];simp;rfl)
  exact zhL (by rw [zai,e,e];simp) (by rw [zai,e,e];simp)
 .show zcP (.fn 184 [] []) a b i j=_
  rw [zc1 (by decide),zi2]
  exact zrK (by rw [zai];simp) (by rw [zai];simp)
 .show zcP (.fn 223 [181,80] [.fn 222 [] [],.fn 187 [] []]) a b i j=_
  rw [zc1 (by decide),zgn]
  by_cases q:inB i/\inB j
  .rw [if_pos q]
   exact zhu (by rw [zai];simp [q.1,q.2];rfl) (by rw [zai];simp [q.1,q.2];rfl)
  .rw [if_neg q,if_neg (by rw [zai];simp;exact λx y=>absurd ⟨x,y⟩ q),if_neg (by rw [zai];simp;exact λx y=>absurd ⟨y,x⟩ q)]
 .show zcP (.fn 223 [181,80] [.fn 222 [] [],.fn 188 [69] [xD 10 s la nm n]]) a b i j=_
  rw [zc1 (by decide),zgn]
  by_cases q:inB i/\inB j
  .rw [if_pos q]
   exact zhu (by rw [zai];simp [q.1,q.2];rfl) (by rw [zai];simp [q.1,q.2];rfl)
  .rw [if_neg q,if_neg (by rw [zai];simp;exact λx y=>absurd ⟨x,y⟩ q),if_neg (by rw [zai];simp;exact λx y=>absurd ⟨y,x⟩ q)]
theorem ztK {c:D} (h:(zbl c).2=0) {x:Nat} (hx:x<c.len) (a b:GD) (i j:Int):zlf (zkq c x) a b i j=clE c a b i j x:=by
 have hf:=zf7 (zfz h hx)
 show zkC (cA (el c x)) (zbM _ _ _ _ _) a b i j=_
 unfold zkC clE clZ
 rw [zqz hf.1 hf.2]
theorem zsy {k:Int} {s:List UInt8} {la:Prop} {nm:D} {n:Int} (hm:nm.len<=100) (hn:k=10->0<=n/\n<=63) (h1:1<=k) (h2:k<=10):zsx (zbM k s la nm n):=by
 have hk:k=1\/k=2\/k=3\/k=4\/k=5\/k=6\/k=7\/k=8\/k=9\/k=10:=by omega
 rcases hk with rfl|rfl|rfl|rfl|rfl|rfl|rfl|rfl|rfl|rfl
 .exact ⟨.inl ⟨.inl ⟨.fn 215 [29] [nm],rfl,⟨nm,rfl,hm⟩⟩⟩⟩
 .exact ⟨.inr ⟨zjT (true=true) (.fn 217 [] []),.fn 114 [] [],rfl,⟨.inr (.inl ⟨_,_,rfl,⟨.inr (.inr (.inr (.inr rfl)))⟩⟩)⟩,⟨.inl rfl⟩⟩⟩
 .exact ⟨.inr ⟨zjT (true=true) (.fn 217 [] []),.fn 177 [] [],rfl,⟨.inr (.inl ⟨_,_,rfl,⟨.inr (.inr (.inr (.inr rfl)))⟩⟩)⟩,⟨.inr rfl⟩⟩⟩
 .exact ⟨.inl ⟨.inr (.inl ⟨_,_,rfl,⟨.inl ⟨_,rfl⟩⟩⟩)⟩⟩
 .exact ⟨.inl ⟨.inr (.inl ⟨_,_,rfl,⟨.inr (.inl rfl)⟩⟩)⟩⟩
 .exact ⟨.inl ⟨.inr (.inl ⟨_,_,rfl,⟨.inr (.inr (.inl ⟨_,rfl,hm⟩))⟩⟩)⟩⟩
 .exact ⟨.inl ⟨.inr (.inl ⟨_,_,rfl,⟨.inr (.inr (.inr (.inl ⟨_,rfl,hm⟩)))⟩⟩)⟩⟩
 .exact ⟨.inl ⟨.inr (.inr (.inl rfl))⟩⟩
 .exact ⟨.inl ⟨.inr (.inr (.inr ⟨_,rfl,⟨.inl rfl⟩⟩))⟩⟩
 .exact ⟨.inl ⟨.inr (.inr (.inr ⟨_,rfl,⟨.inr ⟨_,rfl,hn rfl⟩⟩⟩))⟩⟩
theorem zqt {c:D} (hs:zaE c) (h:(zbl c).2=0) {x:Nat} (hx:x<c.len):okA (zkq c x):=
 ⟨_,_,rfl,zsy (hs.out.2 x hx) (zqa (zfz h hx)) (zf7 (zfz h hx)).1 (zf7 (zfz h hx)).2⟩
end Go.Ev

end
