/- Part of the proof. -/
import Derived.Test.YtdojhafbgoimeaaGreatDoorCoreG23
import Derived.Test.YtdojhafbgoimeaaGreatDoorCoreG26

section
open Go.Proofs
namespace Go.Ev
noncomputable section
set_option maxRecDepth 100000
set_option maxHeartbeats 4000000
def rA (c l:D) (x x_1:Nat):List D:=zcf (zaZ c) (zcf (zaZ c) (zdL l l.len) (0:Int) x) (↑x:Int) x_1
def rK (c l:D) (x x_1 x_2:Nat):List D:=zil (rA c l x x_1) x_1 x_2
def cmT (c P Q:D):Int:=(zof (D.list (zaG c c.len)) (gAt (P.fld 0)) (gAt (Q.fld 0)) (P.fld 1).asInt (Q.fld 1).asInt).snd
def okT (c P Q:D):Prop:=(((zaG c c.len).length<=(100:Nat)/\∀(k:Nat),k<(zaG c c.len).length->okA (el (D.list (zaG c c.len)) k))/\((P.fld 0).fld (Nat.succ 6).succ).len<=(100:Nat)/\((Q.fld 0).fld (Nat.succ 6).succ).len<=(100:Nat))
def zyk (c l:D) (x x_1:Nat) (b:Int):Prop:=
 (∃(x_2:Nat),((↑x:Int)=(0:Int)/\x_2<=x_1/\x_1<(rA c l x x_1).length/\ze7 (zaZ c) (zai (rA c l x x_1) x_1) (List.take x_1 (rA c l x x_1)) x_2=ze7 (zaZ c) (zai (rA c l x x_1) x_1)
 (List.take x_1 (rA c l x x_1)) x_1)/\((↑x_1:Int)=(↑x_2:Int)/\True)/\rA c l x x_1=rK c l x x_1 x_2/\True)/\∀(x_2:Nat),(↑x:Int)=(0:Int)/\x_2<=x_1/\x_1<(rA c l x x_1).length/\
 ze7 (zaZ c) (zai (rA c l x x_1) x_1) (List.take x_1 (rA c l x x_1)) x_2=ze7 (zaZ c) (zai (rA c l x x_1) x_1) (List.take x_1 (rA c l x x_1)) x_1->x_2<LIM/\((↑x:Int)<(↑x_2:Int)->(0:
 Int)<=(↑x_2:Int)/\(↑x_2:Int)<(↑l.len:Int)/\x_2<(rK c l x x_1 x_2).length/\((-9223372036854775808:Int)<=(↑x_2:Int)-(1:Int)/\(↑x_2:Int)-(1:Int)<(9223372036854775808:
 Int))/\(0:Int)<=(↑x_2:Int)-(1:Int)/\(↑x_2:Int)-(1:Int)<(↑l.len:Int)/\((↑x_2:Int)-(1:Int)).toNat<(rK c l x x_1 x_2).length/\okT c (zai (rK c l x x_1 x_2) x_2) (zai (rK
 c l x x_1 x_2) ((↑x_2:Int)-(1:Int)).toNat)/\(cmT c (zai (rK c l x x_1 x_2) x_2) (zai (rK c l x x_1 x_2) ((↑x_2:Int)-(1:Int)).toNat)<(0:Int)->((-9223372036854775808:Int)<=(↑x_2:
 Int)-(1:Int)/\(↑x_2:Int)-(1:Int)<(9223372036854775808:Int))/\((-9223372036854775808:Int)<=(↑x_2:Int)-(1:Int)/\(↑x_2:Int)-(1:Int)<(9223372036854775808:Int))/\(0:
 Int)<=(↑x_2:Int)-(1:Int)/\(↑x_2:Int)-(1:Int)<(↑l.len:Int)/\((↑x_2:Int)-(1:Int)).toNat<(rK c l x x_1 x_2).length/\(0:Int)<=(↑x_2:Int)/\(↑x_2:Int)<(↑l.len:Int)/\
 x_2<(rK c l x x_1 x_2).length/\(0:Int)<=(↑x_2:Int)/\(↑x_2:Int)<(↑l.len:Int)/\x_2<(rK c l x x_1 x_2).length/\(0:Int)<=(↑x_2:Int)-(1:Int)/\(↑x_2:Int)-(1:Int)<(↑l.len
 :Int)/\((↑x_2:Int)-(1:Int)).toNat<((rK c l x x_1 x_2).set x_2 (pl (zai (rK c l x x_1 x_2) ((↑x_2:Int)-(1:Int)).toNat))).length/\((-9223372036854775808:Int)<=(↑x_2:Int)-(1:
 Int)/\(↑x_2:Int)-(1:Int)<(9223372036854775808:Int))/\∃(y:Nat),((↑x:Int)=(0:Int)/\y<=x_1/\x_1<(rA c l x x_1).length/\ze7 (zaZ c) (zai (rA c l x x_1) x_1) (List.take x_1
 (rA c l x x_1)) y=ze7 (zaZ c) (zai (rA c l x x_1) x_1) (List.take x_1 (rA c l x x_1)) x_1)/\y<x_2/\((↑x_2:Int)-(1:Int)=(↑y:Int)/\True)/\((rK c l x x_1 x_2).set x_2 (pl (zai (rK c
 l x x_1 x_2) ((↑x_2:Int)-(1:Int)).toNat))).set ((↑x_2:Int)-(1:Int)).toNat (pl (zai (rK c l x x_1 x_2) x_2))=zil (rA c l x x_1) x_1 y/\True)/\((cmT c (zai (rK c l x x_1 x_2) x_2)
 (zai (rK c l x x_1 x_2) ((↑x_2:Int)-(1:Int)).toNat)<(0:Int)->False)->((-9223372036854775808:Int)<=(↑x_1:Int)+(1:Int)/\(↑x_1:Int)+(1:Int)<(9223372036854775808:Int))/\∃
 (y:Nat),((↑x:Int)=(0:Int)/\(1:Nat)<=y/\(↑y:Int)<=max b (1:Int)\/((↑x:Int)=(0:Int)->False)/\(↑y:Int)=(↑x:Int)+(1:Int)/\b<=(↑x:Int))/\b.toNat-y<b.toNat-
 x_1/\((↑x_1:Int)+(1:Int)=(↑y:Int)/\True)/\rK c l x x_1 x_2=zcf (zaZ c) (zcf (zaZ c) (zdL l l.len) (0:Int) x) (↑x:Int) y/\True))/\(((↑x:Int)<(↑x_2:Int)->False)->
 ((-9223372036854775808:Int)<=(↑x_1:Int)+(1:Int)/\(↑x_1:Int)+(1:Int)<(9223372036854775808:Int))/\∃(y:Nat),((↑x:Int)=(0:Int)/\(1:Nat)<=y/\(↑y:Int)<=max b (1:Int)
 \/((↑x:Int)=(0:Int)->False)/\(↑y:Int)=(↑x:Int)+(1:Int)/\b<=(↑x:Int))/\b.toNat-y<b.toNat-x_1/\((↑x_1:Int)+(1:Int)=(↑y:Int)/\True)/\rK c l x x_1 x_2=zcf
 (zaZ c) (zcf (zaZ c) (zdL l l.len) (0:Int) x) (↑x:Int) y/\True)
def zxk (c l:D) (x x0:Nat) (x_1:List D):Prop:=
 ((-9223372036854775808:Int)<=(↑x_1.length:Int)-(1:Int)/\(↑x_1.length:Int)-(1:Int)<(9223372036854775808:Int))/\(0:Int)<=(↑x_1.length:Int)-(1:Int)/\(↑x_1.length:Int)-
 (1:Int)<(↑x_1.length:Int)/\((↑x_1.length:Int)-(1:Int)).toNat<x_1.length/\(zai x_1 ((↑x_1.length:Int)-(1:Int)).toNat=D.nil->(0:Nat)+(1:Nat)<= [D.int ((zai (za6 c l)
 x).fld (1:Nat)).asInt].length/\(1:Nat)<=(8796093022208:Nat)/\(0:Int)<=(↑x_1.length:Int)-(1:Int)/\(↑x_1.length:Int)-(1:Int)<(↑x_1.length:Int)/\((↑x_1.length:Int)-(1:
 Int)).toNat<x_1.length/\True/\(0:Nat)=(0:Nat)/\(1:Nat)=(List.take (1:Nat) [D.int ((zai (za6 c l) x).fld (1:Nat)).asInt]).length/\True/\((-9223372036854775808:Int)<=(↑x:Int)
 +(1:Int)/\(↑x:Int)+(1:Int)<(9223372036854775808:Int))/\((∃(y:Nat),y=(0:Nat)/\l.len-y<l.len-x0/\((↑x:Int)+(1:Int)=(0:Int)/\False/\True)/\True)\/∃(y:Nat),
 ((0:Nat)<y/\y<=l.len)/\l.len-y<l.len-x0/\((↑x:Int)+(1:Int)=(↑y:Int)/\((0:Nat)=(0:Nat)/\x_1.length=(grL (zaZ c) (za6 c l) y).length/\True)/\True)/\x_1.set
 ((↑x_1.length:Int)-(1:Int)).toNat (D.list (List.take (1:Nat) [D.int ((zai (za6 c l) x).fld (1:Nat)).asInt]))=grL (zaZ c) (za6 c l) y/\True))/\(∀(r:List D),zai x_1 ((↑x_1.length
 :Int)-(1:Int)).toNat=D.list r->((↑x_1.length:Int)-(1:Int)).toNat<x_1.length/\r.length=(zai x_1 ((↑x_1.length:Int)-(1:Int)).toNat).len/\(∃(r:List D),zai x_1
 ((↑x_1.length:Int)-(1:Int)).toNat=D.list r)/\Nat.le (1:Nat) (1:Nat)/\(0:Nat)+(1:Nat)<= [D.int ((zai (za6 c l) x).fld (1:Nat)).asInt].length/\(0:Nat)+r.length<=(zai x_1
 ((↑x_1.length:Int)-(1:Int)).toNat).asList.length/\r.length+(1:Nat)<=(8796093022208:Nat)/\(0:Int)<=(↑x_1.length:Int)-(1:Int)/\(↑x_1.length:Int)-(1:Int)<(↑x_1.length:
 Int)/\((↑x_1.length:Int)-(1:Int)).toNat<(x_1.set ((↑x_1.length:Int)-(1:Int)).toNat (D.int (0:Int))).length/\True/\(0:Nat)=(0:Nat)/\r.length+(1:Nat)=(List.take r.length
 (zai x_1 ((↑x_1.length:Int)-(1:Int)).toNat).asList++List.take (1:Nat) [D.int ((zai (za6 c l) x).fld (1:Nat)).asInt]).length/\True/\((-9223372036854775808:Int)<=(↑x:Int)+(1:
 Int)/\(↑x:Int)+(1:Int)<(9223372036854775808:Int))/\((∃(y:Nat),y=(0:Nat)/\l.len-y<l.len-x0/\((↑x:Int)+(1:Int)=(0:Int)/\False/\True)/\True)\/∃(y:Nat),((0:
 Nat)<y/\y<=l.len)/\l.len-y<l.len-x0/\((↑x:Int)+(1:Int)=(↑y:Int)/\((0:Nat)=(0:Nat)/\x_1.length=(grL (zaZ c) (za6 c l) y).length/\True)/\True)/\(x_1.set
 ((↑x_1.length:Int)-(1:Int)).toNat (D.int (0:Int))).set ((↑x_1.length:Int)-(1:Int)).toNat (D.list (List.take r.length (zai x_1 ((↑x_1.length:Int)-(1:Int)).toNat).asList++
 List.take (1:Nat) [D.int ((zai (za6 c l) x).fld (1:Nat)).asInt]))=grL (zaZ c) (za6 c l) y/\True))/\∀(n:Int),zai x_1 ((↑x_1.length:Int)-(1:Int)).toNat=D.int n->False
theorem zBj:∀(g:D),zac (zpN (λ_=>none) D.nil D.nil) 3 (97:FuncId) [V.dat (23:TypeId) g] (V.dat (130:TypeId) (D.list (plL g g.len)))=(0<=(g.len:Int)/\(g.len:Int)<=(g.len:Int)/\(g.len:
Int)<=16777216/\(zpN (λ_=>none) D.nil D.nil).P.types[126].bytes*g.len<=281474976710656/\(∃(x:Nat),x.le g.len/\(0=(x:Int)/\True)/\List.replicate g.len (D.sct [D.sct [D.str [],D.str [],D.str [],
D.int 0,D.int 0,D.str [],D.bool (false=true),D.bool (false=true),D.nil],D.int 0])=plL g x++List.drop x (List.replicate g.len (D.sct [D.sct [D.str [],D.str [],D.str [],D.int 0,D.int 0,D.str [],D.bool
(false=true),D.bool (false=true),D.nil],D.int 0]))/\True)/\∀(x:Nat),x.le g.len->g.len-x<LIM/\((x:Int)<(g.len:Int)->0<=(x:Int)/\(x:Int)<(g.len:Int)/\0<=(x:Int)/\(x:Int)<(g.len
:Int)/\x<(plL g x++List.drop x (List.replicate g.len (D.sct [D.sct [D.str [],D.str [],D.str [],D.int 0,D.int 0,D.str [],D.bool (false=true),D.bool (false=true),D.nil],D.int 0]))).length/\fits64 ((x:
Int)+1)/\∃(y:Nat),y.le g.len/\g.len-y<g.len-x/\((x:Int)+1=(y:Int)/\True)/\(plL g x++List.drop x (List.replicate g.len (D.sct [D.sct [D.str [],D.str [],D.str [],D.int 0,D.int 0,D.str [],
D.bool (false=true),D.bool (false=true),D.nil],D.int 0]))).set x (D.sct [gD (gAt (el g x)),D.int (x:Int)])=plL g y++List.drop y (List.replicate g.len (D.sct [D.sct [D.str [],D.str [],D.str [],D.int 0,
D.int 0,D.str [],D.bool (false=true),D.bool (false=true),D.nil],D.int 0]))/\True)/\(((x:Int)<(g.len:Int)->False)->0+g.len<=(plL g x++List.drop x (List.replicate g.len (D.sct [D.sct [D.str [],
D.str [],D.str [],D.int 0,D.int 0,D.str [],D.bool (false=true),D.bool (false=true),D.nil],D.int 0]))).length/\D.list (List.take g.len (plL g x++List.drop x (List.replicate g.len (D.sct [D.sct [D.str [],
D.str [],D.str [],D.int 0,D.int 0,D.str [],D.bool (false=true),D.bool (false=true),D.nil],D.int 0]))))=D.list (plL g g.len))):=by intros;kernel_rfl
theorem zxA:∀(l c:D),zac (zxh or0) 7 (96:FuncId) [V.dat (22:TypeId) c,V.dat (130:TypeId) l] (V.dat (57:TypeId) D.nil)=(c.len<=100/\(∃(x:Unit),True/\((0:Int)=0/\True)/\(True/\True)/\
True)/\∀(x:Unit),True->0<LIM/\(0<(l.len:Int)->(0:Int)<=0/\0<(l.len:Int)/\0+1<= [pl (el l 0)].length/\(1:Nat)<=16777216/\fits64 (0+1)/\∃(y:Unit),True/\(0:Nat)<0/\((0:Int)+1=
0/\True)/\(False/\True)/\True)/\((0<(l.len:Int)->False)->(∃(x:Unit),True/\((0:Int)=0/\(20:Int)=20/\True)/\True)/\∀(x:Unit),True->0<LIM/\((20:Int)<=0->fits64 (0+1)/\(∃(x:
Unit),True/\((0:Int)+1=1/\True)/\True)/\∀(x:Unit),True->0<LIM/\((1:Int)<20->(∃(x:Unit),False/\True/\True)/\∀(x:Unit),False->0<LIM/\False)/\(((1:Int)<20->False)->fits64 (20+
20)/\∃(y:Unit),True/\(0:Nat)<0/\((20:Int)=0/\(20:Int)+20=20/\True)/\True))/\(((20:Int)<=0->False)->fits64 (0+1)/\(∃(x:Unit),True/\((0:Int)+1=1/\True)/\True)/\∀(x:Unit),
True->0<LIM/\((1:Int)<0->(∃(x:Unit),False/\True/\True)/\∀(x:Unit),False->0<LIM/\False)/\(((1:Int)<0->False)->(∃(x:Unit),True/\((20:Int)=20/\True)/\True)/\∀(x:Unit),True->0
<LIM/\((20:Int)<0->fits64 (2*20)/\(∃(x:Unit),False/\True/\True)/\∀(x:Unit),False->0<LIM/\False)/\(((20:Int)<0->False)->(∃(x:Unit),True/\((0:Int)=0/\True/\True)/\True)/\∀(x:
Unit),True->0<LIM/\((0:Int)<0->False)/\(((0:Int)<0->False)->D.nil=D.nil)))))):=by intros;kernel_rfl
theorem zA1:∀(c l:D),zac (zpN or0 c l) 7 (96:FuncId) [V.dat (22:TypeId) c,V.dat (130:TypeId) l] (V.dat (57:TypeId) (grD c l))=(c.len<=100/\((((∃(x:Nat),x=0/\(0=(x:Int)/\True)/\(True/\
True)/\True)\/∃(x:Nat),(0<x/\x<=l.len)/\(0=(x:Int)/\True)/\(False/\True)/\False/\True)/\(∀(x:Nat),x=0->l.len-x<LIM/\((x:Int)<(l.len:Int)->0<=(x:Int)/\(x:Int)<(l.len:Int)
/\0+1<= [pl (el l x)].length/\(1:Nat)<=16777216/\fits64 ((x:Int)+1)/\((∃(y:Nat),y=0/\l.len-y<l.len-x/\((x:Int)+1=(y:Int)/\True)/\(False/\True)/\True)\/∃(y:Nat),(0<y/\y<=
l.len)/\l.len-y<l.len-x/\((x:Int)+1=(y:Int)/\True)/\(((0:Nat)=0/\1=y/\True)/\True)/\List.take 1 [pl (el l x)]=zdL l y/\True))/\(((x:Int)<(l.len:Int)->False)->∃(x:Unit),True/\
(False/\True)/\False/\True))/\∀(x:Nat),0<x/\x<=l.len->l.len-x<LIM/\((x:Int)<(l.len:Int)->0<=(x:Int)/\(x:Int)<(l.len:Int)/\0+1<= [pl (el l x)].length/\0+x<=(zdL l x).length/\x+
1<=16777216/\fits64 ((x:Int)+1)/\((∃(y:Nat),y=0/\l.len-y<l.len-x/\((x:Int)+1=(y:Int)/\True)/\(False/\True)/\True)\/∃(y:Nat),(0<y/\y<=l.len)/\l.len-y<l.len-x/\((x:Int)+
1=(y:Int)/\True)/\(((0:Nat)=0/\x+1=y/\True)/\True)/\List.take x (zdL l x)++List.take 1 [pl (el l x)]=zdL l y/\True))/\(((x:Int)<(l.len:Int)->False)->∃(x_1:Unit),True/\(((0:Nat)=
0/\x=l.len/\True)/\True)/\zdL l x=zdL l l.len/\True))/\∀(x:Unit),True->(∃(x:Nat),(x=0\/x=20/\(zdL l l.len).length=20)/\(0=(x:Int)/\20=(x:Int)+20/\True)/\zdL l l.len=zcf
(zaZ c) (zdL l l.len) 0 x/\True)/\∀(x:Nat),x=0\/x=20/\(zdL l l.len).length=20->40-x<LIM/\((x:Int)+20<=(l.len:Int)->fits64 ((x:Int)+1)/\(∃(x_1:Nat),((x:Int)=0/\1<=x_1/\(x_1:
Int)<=max ((x:Int)+20) 1\/((x:Int)=0->False)/\(x_1:Int)=(x:Int)+1/\(x:Int)+20<=(x:Int))/\((x:Int)+1=(x_1:Int)/\True)/\zcf (zaZ c) (zdL l l.len) 0 x=rA c l x x_1/\True)/\∀
(x_1:Nat),(x:Int)=0/\1<=x_1/\(x_1:Int)<=max ((x:Int)+20) 1\/((x:Int)=0->False)/\(x_1:Int)=(x:Int)+1/\(x:Int)+20<=(x:Int)->((x:Int)+20).toNat-x_1<LIM/\((x_1:Int)<(x:
Int)+20->zyk c l x x_1 ((x:Int)+20))/\(((x_1:Int)<(x:Int)+20->False)->fits64 ((x:Int)+20+20)/\∃(y:Nat),(y=0\/y=20/\(zdL l l.len).length=20)/\40-y<40-x/\((x:Int)+20=(y
:Int)/\(x:Int)+20+20=(y:Int)+20/\True)/\rA c l x x_1=zcf (zaZ c) (zdL l l.len) 0 y/\True))/\(((x:Int)+20<=(l.len:Int)->False)->fits64 ((x:Int)+1)/\(∃(x_1:Nat),((x:Int)=0/\1<=
x_1/\(x_1:Int)<=max (l.len:Int) 1\/((x:Int)=0->False)/\(x_1:Int)=(x:Int)+1/\(l.len:Int)<=(x:Int))/\((x:Int)+1=(x_1:Int)/\True)/\zcf (zaZ c) (zdL l l.len) 0 x=rA c l x x_1/\
True)/\∀(x_1:Nat),(x:Int)=0/\1<=x_1/\(x_1:Int)<=max (l.len:Int) 1\/((x:Int)=0->False)/\(x_1:Int)=(x:Int)+1/\(l.len:Int)<=(x:Int)->l.len-x_1<LIM/\((x_1:Int)<(l.len:Int)->
zyk c l x x_1 (l.len:Int))/\(((x_1:Int)<(l.len:Int)->False)->(∃(x:Unit),True/\((20:Int)=20/\True)/\True)/\∀(x_2:Unit),True->0<LIM/\(20<(l.len:Int)->fits64 (2*20)/\(∃(x:Unit),
False/\True/\True)/\∀(x:Unit),False->0<LIM/\False)/\((20<(l.len:Int)->False)->∃(x_3:Unit),True/\(((0:Nat)=0/\l.len=l.len/\True)/\True)/\rA c l x x_1=za6 c l/\True))))/\∀(x:Unit),
True->((∃(x:Nat),x=0/\((0:Int)=0/\True/\True)/\True)\/∃(x:Nat),(0<x/\x<=l.len)/\(0=(x:Int)/\False/\True)/\False/\True)/\(∀(x:Nat),x=0->l.len-x<LIM/\(0<(l.len:Int)->(0:
Int)<=0/\0<(l.len:Int)/\0<(za6 c l).length/\((((0:Int)=0->False)->fits64 (0-1)/\(0:Int)<=0-1/\0-1<(l.len:Int)/\((0:Int)-1).toNat<(za6 c l).length/\okT c (zai (za6 c l) ((0:Int)-1).toNat)
(zai (za6 c l) 0)/\((cmT c (zai (za6 c l) ((0:Int)-1).toNat) (zai (za6 c l) 0)=0->False)->0+1<= [D.nil].length/\(1:Nat)<=16777216/\∃(x:List D),(x=zeU (zaZ c) (za6 c l) [] 0/\0<x.length)/\(((0:
Nat)=0/\1=x.length/\True)/\True)/\(List.take 1 [D.nil]=x/\zdP (List.take 1 [D.nil]))/\True)/\(((cmT c (zai (za6 c l) ((0:Int)-1).toNat) (zai (za6 c l) 0)=0->False)->False)->∃(x:List D),(x=zeU
(zaZ c) (za6 c l) [] 0/\0<x.length)/\(False/\True)/\False/\True))/\((0:Int)=0->0+1<= [D.nil].length/\(1:Nat)<=16777216/\∃(x:List D),(x=zeU (zaZ c) (za6 c l) [] 0/\0<x.length)/\(((0:
Nat)=0/\1=x.length/\True)/\True)/\(List.take 1 [D.nil]=x/\zdP (List.take 1 [D.nil]))/\True))/\∀(x_1:List D),x_1=zeU (zaZ c) (za6 c l) [] 0/\0<x_1.length->zxk c l 0 x x_1)/\((0<(l.len:
Int)->False)->D.nil=grD c l))/\∀(x:Nat),0<x/\x<=l.len->l.len-x<LIM/\((x:Int)<(l.len:Int)->0<=(x:Int)/\(x:Int)<(l.len:Int)/\x<(za6 c l).length/\((((x:Int)=0->False)->fits64
((x:Int)-1)/\0<=(x:Int)-1/\(x:Int)-1<(l.len:Int)/\((x:Int)-1).toNat<(za6 c l).length/\okT c (zai (za6 c l) ((x:Int)-1).toNat) (zai (za6 c l) x)/\((cmT c (zai (za6 c l) ((x:Int)-
1).toNat) (zai (za6 c l) x)=0->False)->0+1<= [D.nil].length/\(0:Nat)<1/\zdP (List.take 1 [D.nil])/\(0:Nat)=0/\(grL (zaZ c) (za6 c l) x).length=(grL (zaZ c) (za6 c l) x).length/\(grL (zaZ c)
(za6 c l) x).length+1<=16777216/\∃(x_1:List D),(x_1=zeU (zaZ c) (za6 c l) (grL (zaZ c) (za6 c l) x) x/\0<x_1.length)/\(((0:Nat)=0/\(grL (zaZ c) (za6 c l) x).length+1=x_1.length/\True)/\
True)/\grL (zaZ c) (za6 c l) x++List.take 1 [D.nil]=x_1/\True)/\(((cmT c (zai (za6 c l) ((x:Int)-1).toNat) (zai (za6 c l) x)=0->False)->False)->∃(x_1:List D),(x_1=zeU (zaZ c) (za6 c l) (grL
(zaZ c) (za6 c l) x) x/\0<x_1.length)/\(((0:Nat)=0/\(grL (zaZ c) (za6 c l) x).length=x_1.length/\True)/\True)/\grL (zaZ c) (za6 c l) x=x_1/\True))/\((x:Int)=0->0+1<= [D.nil].length/\(0:
Nat)<1/\zdP (List.take 1 [D.nil])/\(0:Nat)=0/\(grL (zaZ c) (za6 c l) x).length=(grL (zaZ c) (za6 c l) x).length/\(grL (zaZ c) (za6 c l) x).length+1<=16777216/\∃(x_1:List D),(x_1=zeU (zaZ
c) (za6 c l) (grL (zaZ c) (za6 c l) x) x/\0<x_1.length)/\(((0:Nat)=0/\(grL (zaZ c) (za6 c l) x).length+1=x_1.length/\True)/\True)/\grL (zaZ c) (za6 c l) x++List.take 1 [D.nil]=x_1/\True))/\∀
(x_1:List D),x_1=zeU (zaZ c) (za6 c l) (grL (zaZ c) (za6 c l) x) x/\0<x_1.length->zxk c l x x x_1)/\(((x:Int)<(l.len:Int)->False)->0+(grL (zaZ c) (za6 c l) x).length<=(grL (zaZ c) (za6 c l)
x).length/\zgd (grL (zaZ c) (za6 c l) x)/\(zam (zpN or0 c l).P 34=true/\zaA (zpN or0 c l).P 34 1=true)/\D.list (List.take (grL (zaZ c) (za6 c l) x).length (grL (zaZ c) (za6 c l) x))=grD c l)):=by intros;kernel_rfl
theorem zc6 (g:D) (n:Nat):(plL g n).length=n:=by unfold plL;rw [List.length_map,List.length_range]
theorem zrD (g:D) (x:Nat):plL g (x+1)=plL g x++ [plG g x]:=by unfold plL;rw [List.range_succ,List.map_append];rfl
theorem zsq {A B:List D} {n x:Nat} {z d:D} (hA:A.length=x) (hx:x<n):(A++(List.replicate n z).drop x).set x d=A++ [d]++(List.replicate n z).drop (x+1):=by
 rw [List.set_append_right _ _ (by omega),hA,Nat.sub_self,List.drop_replicate,List.drop_replicate,show n-x=(n-(x+1))+1 by omega,List.replicate_succ,List.set_cons_zero,List.append_assoc];rfl
theorem s97 (g:D) (h:g.len<=100):zac (zpN (λ_=>none) .nil .nil) 3 97 [.dat 23 g] (.dat 130 (.list (plL g g.len))):=by
 rw [zBj]
 have hb:(zpN (λ_=>none) D.nil D.nil).P.types[(126:Nat)].bytes=120:=by kernel_rfl
 refine ⟨by omega,by omega,by omega,by rw [hb];omega,⟨0,Nat.zero_le _,And.intro rfl trivial,by rfl,trivial⟩,λx hx=>⟨zf7 h,λhlt=> ?_,λhge=> ?_⟩⟩
 .have hl:(plL g x).length=x:=zc6 g x
  refine ⟨by omega,hlt,by omega,hlt, ?_,⟨by omega,by omega⟩,x+1,(by show x+1<=g.len;omega),by omega,And.intro (by omega) trivial, ?_,trivial⟩
  .rw [List.length_append,hl,List.length_drop,List.length_replicate];omega
  .rw [zsq (B:= []) hl (by omega),zrD];rfl
 .have e:x=g.len:=za5 hx hge
  subst e
  refine ⟨?_, ?_⟩
  .rw [List.length_append,zc6];omega
  .rw [List.take_append_of_le_length (by rw [zc6];omega),List.take_of_length_le (by rw [zc6];omega)]
theorem zAq (c l:D) (hc:zan c) (h:l.len=0):zac (zxh or0) 7 96 [.dat 22 c,.dat 130 l] (.dat 57 .nil):=by
 rw [zxA]
 have L:(0:Nat)<LIM:=by unfold LIM;omega
 have T:True:=trivial
 refine ⟨hc.out.1,⟨(),T,⟨rfl,T⟩,⟨T,T⟩,T⟩,λ_ _=>⟨L,λk=>by omega,λ_=>⟨⟨(),T,⟨rfl,rfl,T⟩,T⟩,λ_ _=>⟨L,λk=>by omega,λ_=>⟨⟨by omega,by omega⟩,⟨(),T,⟨rfl,T⟩,T⟩,λ_ _=>⟨L,λk=>by omega,λ_=>⟨⟨(),T,⟨rfl,T⟩,T⟩,λ_ _=>⟨L,λk=>by omega,λ_=>⟨⟨(),T,⟨rfl,T,T⟩,T⟩,λ_ _=>⟨L,λk=>by omega,λ_=>rfl⟩⟩⟩⟩⟩⟩⟩⟩⟩⟩
structure okP (p:D):Prop where
 out:pl p=p/\((p.fld 0).fld (Nat.succ 6).succ).len<=100
theorem zfy (l:D) (n:Nat):(zdL l n).length=n:=by unfold zdL;rw [List.length_map,List.length_range]
theorem zqO (l:D) (x:Nat):zdL l (x+1)=zdL l x++ [pl (el l x)]:=by unfold zdL;rw [List.range_succ,List.map_append];rfl
theorem zps {l:D} (h:tgP l):∀p,p∈zdL l l.len->okP p:=λp hp=>by
 unfold zdL at hp
 obtain ⟨i,hi,rfl⟩:=List.mem_map.1 hp
 exact ⟨rfl,h.out i (List.mem_range.1 hi)⟩
theorem zlW {l:List D} {i:Nat} (h:i<l.length):zai l i∈l:=List.mem_of_getElem? (zbX h)
theorem zsS {f:D->D->Int} {R:List D} {a:Int} {i:Nat} {p:D} (h:p∈zcf f R a i):p∈R:=by
 unfold zcf at h;split at h
 .rcases List.mem_append.1 h with h|h
  .exact List.mem_of_mem_take ((zfm _ _).mem_iff.1 h)
  .exact List.mem_of_mem_drop h
 .exact h
theorem zsx {Q:List D} {i j:Nat} {p:D} (hj:j<=i) (hi:i<Q.length) (h:p∈zil Q i j):p∈Q:=by
 obtain ⟨k,hk⟩:=List.getElem?_of_mem h
 rw [zeg Q hj hi] at hk
 split at hk
 .exact List.mem_of_getElem? hk
 .split at hk
  .exact List.mem_of_getElem? hk
  .split at hk<;>exact List.mem_of_getElem? hk
theorem zpV {c:D} (hv:(zaK c).2=0) (P Q:D):cmT c P Q=zaZ c P Q:=by
 unfold cmT zof zaZ zwl
 show (zaM _ (zaG c c.len).length 0).snd=_
 rw [za7,<-zpc]
 congr 1
 exact zes (n:=c.len) (λk hk=>by rw [zgv hk];exact ztl hv hk _ _ _ _) c.len 0 (by omega)
theorem ztq {c P Q:D} (hc:zan c) (hv:(zaK c).2=0) (hP:okP P) (hQ:okP Q):okT c P Q:=
 ⟨⟨by rw [za7];exact hc.out.1,λk hk=>by rw [za7] at hk;rw [zgv hk];exact zmw hc hv hk⟩,hP.out.2,hQ.out.2⟩
theorem zh6 {x:Nat}:((x:Int)-1).toNat=x-1:=by omega
theorem ztQ {c l:D} (hc:zan c) (hv:(zaK c).2=0) (h20:l.len<=20) (ht:tgP l) {x i:Nat} {b:Int} (hb:b<=l.len) (hx:x=0) (h1:1<=i) (hi:(i:Int)<b):zyk c l x i b:=by
 subst hx
 have hil:i<l.len:=by omega
 have hR:(zdL l l.len).length=l.len:=zfy l l.len
 have eQ:rA c l 0 i=zcf (zaZ c) (zdL l l.len) 0 i:=by
  show zcf _ (zcf _ _ 0 0) 0 i=_
  rw [zqN]
 have hQl:(rA c l 0 i).length=l.len:=by rw [eQ,zmC,hR]
 have hiQ:i<(rA c l 0 i).length:=by omega
 have okQ:∀p,p∈rA c l 0 i->okP p:=λp hp=>by rw [eQ] at hp;exact zps ht p (zsS hp)
 have okK:∀j,j<=i->∀k,k<l.len->okP (zai (rK c l 0 i j) k):=λj hj k hk=>okQ _ (zsx hj hiQ (zlW (by show k<(zil _ _ _).length;rw [ziQ _ hj hiQ];omega)))
 have hKl:∀j,j<=i->(rK c l 0 i j).length=l.len:=λj hj=>by show (zil _ _ _).length=_;rw [ziQ _ hj hiQ,hQl]
 have hend:∀j,ze7 (zaZ c) (zai (rA c l 0 i) i) (List.take i (rA c l 0 i)) i=j->rK c l 0 i j=zcf (zaZ c) (zcf (zaZ c) (zdL l l.len) 0 0) 0 (i+1):=λj hj=>by
  show zil _ _ _=_
  rw [zqN]
  rw [eQ] at hj⊢
  exact zor (by omega) hj
 have hPl:(List.take i (rA c l 0 i)).length=i:=by rw [List.length_take];omega
 have hPn:∀k,k<i->zai (List.take i (rA c l 0 i)) k=zai (rA c l 0 i) k:=λk hk=>by unfold zai;rw [List.getElem?_take_of_lt hk]
 have step:∀(j:Nat),ze7 (zaZ c) (zai (rA c l 0 i) i) (List.take i (rA c l 0 i)) i=j->(((-9223372036854775808:Int)<=(↑i:Int)+(1:Int)/\(↑i:Int)+(1:Int)<(9223372036854775808:Int))/\∃(y:Nat),(((0:Nat):Int)=(0:Int)/\(1:Nat)<=y/\(↑y:Int)<=max b (1:Int)\/(((0:Nat):Int)=(0:Int)->False)/\(↑y:Int)=((0:Nat):Int)+(1:Int)/\b<=((0:Nat):Int))/\b.toNat-y<b.toNat-i/\((↑i:Int)+(1:Int)=(↑y:Int)/\True)/\rK c l 0 i j=zcf (zaZ c) (zcf (zaZ c) (zdL l l.len) (0:Int) 0) ((0:Nat):Int) y/\True):=λj hj=>
  ⟨⟨by omega,by omega⟩,i+1,.inl ⟨rfl,by omega,by omega⟩,by omega,⟨by omega,trivial⟩,hend j hj,trivial⟩
 refine ⟨⟨i,⟨rfl,Nat.le_refl _,hiQ,rfl⟩,⟨rfl,trivial⟩,(zrV _ hiQ).symm,trivial⟩,λj hj=>⟨by unfold LIM;omega,λhlt=> ?_,λhge=> ?_⟩⟩
 .obtain ⟨_,hji,_,hcut⟩:=hj
  have h0:0<j:=by omega
  have e1:zai (rK c l 0 i j) j=zai (rA c l 0 i) i:=zuv _ hji hiQ
  have e2:zai (rK c l 0 i j) (j-1)=zai (rA c l 0 i) (j-1):=zrK _ h0 hji hiQ
  have o1:=okK j hji j (by omega)
  have o2:=okK j hji (j-1) (by omega)
  have p1:=o1.out.1
  have p2:=o2.out.1
  have lk:=hKl j hji
  rw [zh6]
  refine ⟨by omega,by omega,by omega,⟨by omega,by omega⟩,by omega,by omega,by omega,ztq hc hv o1 o2,λhneg=> ?_,λhpos=> ?_⟩
  .rw [zpV hv,e1,e2] at hneg
   have hc1:=zwq (f:=zaZ c) (e:=zai (rA c l 0 i) i) (P:=List.take i (rA c l 0 i)) h0 (by omega) (by rw [hPn _ (by omega)];exact hneg)
   refine ⟨⟨by omega,by omega⟩,⟨by omega,by omega⟩,by omega,by omega,by omega,by omega,by omega,by omega,by omega,by omega,by omega,by omega,by omega, ?_,⟨by omega,by omega⟩,j-1,⟨rfl,by omega,hiQ,hc1.trans hcut⟩,by omega,⟨by omega,trivial⟩, ?_,trivial⟩
   .rw [List.length_set];omega
   .rw [p1,p2,e1,e2];exact zq1 _ h0 hji hiQ
  .have hpos:¬cmT c (zai (rK c l 0 i j) j) (zai (rK c l 0 i j) (j-1))<0:=hpos
   rw [zpV hv,e1,e2] at hpos
   have hc1:=zsg (f:=zaZ c) (e:=zai (rA c l 0 i) i) (P:=List.take i (rA c l 0 i)) h0 (by omega) (by rw [hPn _ (by omega)];exact hpos)
   exact step j (hcut.symm.trans hc1)
 .obtain ⟨_,hji,_,hcut⟩:=hj
  have h0:j=0:=by have h:¬(((0:Nat):Int)<(j:Int)):=hge;omega
  subst h0
  exact step 0 (hcut.symm.trans rfl)
theorem zgs (c l:D):(za6 c l).length=l.len:=by unfold za6;rw [zhe,zfy]
theorem zrb {c l:D} (ht:tgP l):∀k,k<l.len->okP (zai (za6 c l) k):=λk hk=>zps ht _ ((zfm _ _).mem_iff.1 (zlW (Nat.lt_of_lt_of_eq hk (zgs c l).symm)))
theorem zrY {f:D->D->Int} {Q R:List D} {x:Nat} (h:x=0\/f (zai Q (x-1)) (zai Q x)≠0):zeU f Q R x=R++ [.nil]:=by unfold zeU;rw [if_pos ⟨h⟩]
theorem zwX {f:D->D->Int} {Q R:List D} {x:Nat} (h0:x≠0) (h:f (zai Q (x-1)) (zai Q x)=0):zeU f Q R x=R:=by unfold zeU;rw [if_neg (λk=>k.out.elim h0 (λk=>k h))]
theorem zqj (f:D->D->Int) (Q:List D) (x:Nat):zgd (grL f Q x):=⟨λn hn=>by
 unfold grL at hn
 obtain ⟨g,_,hg⟩:=List.mem_map.1 hn
 cases hg⟩
theorem zqr (f:D->D->Int) (Q:List D) (x:Nat):(grL f Q x).length<=Q.length:=by
 unfold grL
 rw [List.length_map]
 have hn:=zkC (f:=f) (Q.take x)
 have hf:=congrArg List.length (zcY (f:=f) (Q.take x))
 have:∀o:List (List D),(∀g,g∈o->g≠ [])->o.length<=o.flatten.length:=by
  intro o
  induction o with
  |nil=>intro _;exact Nat.le_refl _
  |cons g o ih=>
   intro h
   have h1:=List.length_pos_iff.2 (h g (List.mem_cons_self ..))
   have h2:=ih (λg hg=>h g (List.mem_cons_of_mem _ hg))
   rw [List.flatten_cons,List.length_append,List.length_cons];omega
 have:=this _ hn
 rw [hf,List.length_take] at this
 omega
theorem zuV {d:D} {r:List D} (h:d= .list r):d.asList=r:=by rw [h];rfl
theorem za9 {l:List D} (h:0<l.length):D.list l=zba l:=by
 cases l with
 |nil=>cases h
 |cons a l=>rfl
theorem znO {L:List D} (h:0<L.length):((L.length:Int)-1).toNat=L.length-1:=by omega
theorem ztC {c l:D} (h20:l.len<=20) {x x0:Nat} (hx:x<l.len) (e0:x0=x) {L:List D} (hL:L=zeU (zaZ c) (za6 c l) (grL (zaZ c) (za6 c l) x) x/\0<L.length):zxk c l x x0 L:=by
 subst e0
 obtain ⟨hL,h0⟩:=hL
 have hS:=zgs c l
 obtain ⟨_,g2,g3,g4,g5⟩:=zlH (f:=zaZ c) (Q:=za6 c l) (x:=x0) (by omega)
 rw [<-hL] at g2 g3 g4 g5
 have hle:=zqr (zaZ c) (za6 c l) (x0+1)
 unfold zxk
 rw [znO h0]
 have T:True:=trivial
 have one:List.take 1 [D.int ((zai (za6 c l) x0).fld 1).asInt]= [D.int ((zai (za6 c l) x0).fld 1).asInt]:=rfl
 refine ⟨⟨by omega,by omega⟩,by omega,by omega,by omega,λhn=> ?_,λr hr=> ?_,λn hn=>g5 n hn⟩
 .exact ⟨Nat.le_refl _,by omega,by omega,by omega,by omega,T,rfl,rfl,T,⟨by omega,by omega⟩,.inr ⟨x0+1,⟨by omega,by omega⟩,by omega,⟨by omega,⟨rfl,g2,T⟩,T⟩,g3 hn,T⟩⟩
 .have hrl:r.length<=20\/20<r.length:=by omega
  have har:(zai L (L.length-1)).asList=r:=zuV hr
  have hlen:(zai L (L.length-1)).len=r.length:=by rw [hr];rfl
  have hbig:r.length+1<=l.len:=by
   have e:=g4 r hr
   have hin:(r++ [D.int ((zai (za6 c l) x0).fld 1).asInt]).length<=l.len:=by
    have hm:D.list (r++ [D.int ((zai (za6 c l) x0).fld 1).asInt])∈grL (zaZ c) (za6 c l) (x0+1):=by
     rw [<-e];exact List.mem_of_getElem? (i:=L.length-1) (by rw [List.getElem?_set,if_pos rfl,if_pos (by omega)])
    unfold grL at hm
    obtain ⟨g,hg,hgl⟩:=List.mem_map.1 hm
    unfold zjR at hgl
    have hgl:=D.list.inj hgl
    rw [<-hgl,List.length_map]
    have hf:=congrArg List.length (zcY (f:=zaZ c) ((za6 c l).take (x0+1)))
    rw [List.length_take] at hf
    have:=List.length_flatten (L:=zda (zaZ c) ((za6 c l).take (x0+1)))
    have hsub:g.length<=(zda (zaZ c) ((za6 c l).take (x0+1))).flatten.length:=(List.sublist_flatten_of_mem hg).length_le
    omega
   rw [List.length_append] at hin
   exact hin
  rw [har]
  refine ⟨by omega,hlen.symm,⟨r,hr⟩,Nat.le_refl _,Nat.le_refl _,by omega,by omega,by omega,by omega,by rw [List.length_set];omega,T,rfl, ?_,T,⟨by omega,by omega⟩,.inr ⟨x0+1,⟨by omega,by omega⟩,by omega,⟨by omega,⟨rfl,g2,T⟩,T⟩, ?_,T⟩⟩
  .rw [List.take_of_length_le (Nat.le_refl _),one,List.length_append];rfl
  .rw [List.take_of_length_le (Nat.le_refl _),one,List.set_set];exact g4 r hr
theorem s96 (c l:D) (hc:zan c) (hv:(zaK c).2=0) (h0:0<l.len) (h20:l.len<=20) (ht:tgP l):zac (zpN or0 c l) 7 96 [.dat 22 c,.dat 130 l] (.dat 57 (grD c l)):=by
 rw [zA1]
 have T:True:=trivial
 have L:∀n:Nat,n<=1000->n<LIM:=λn hn=>by unfold LIM;omega
 have hR:(zdL l l.len).length=l.len:=zfy l l.len
 have hS:=zgs c l
 have A0:zcf (zaZ c) (zdL l l.len) 0 0=zdL l l.len:=zqN _ _
 refine ⟨hc.out.1,⟨⟨.inl ⟨0,rfl,⟨rfl,T⟩,⟨T,T⟩,T⟩,λx hx=>⟨L _ (by omega),λhlt=> ?_,λhge=> ?_⟩,λx hx=>⟨L _ (by omega),λhlt=> ?_,λhge=> ?_⟩⟩,λ_ _=>⟨?_,λa ha=>⟨L _ (by omega),λhle=> ?_,λhgt=> ?_⟩⟩⟩,λ_ _=>⟨.inl ⟨0,rfl,⟨rfl,T,T⟩,T⟩,λx hx=>⟨L _ (by omega),λhlt=> ?_,λhge=> ?_⟩,λx hx=>⟨L _ (by omega),λhlt=> ?_,λhge=> ?_⟩⟩⟩
 .subst hx
  exact ⟨by omega,hlt,Nat.le_refl _,by omega,⟨by omega,by omega⟩,.inr ⟨1,⟨by omega,by omega⟩,by omega,⟨rfl,T⟩,⟨⟨rfl,rfl,T⟩,T⟩,rfl,T⟩⟩
 .exact absurd h0 (by have h:¬((x:Int)<l.len):=hge;omega)
 .refine ⟨by omega,hlt,Nat.le_refl _,by rw [zfy];omega,by omega,⟨by omega,by omega⟩,.inr ⟨x+1,⟨by omega,by omega⟩,by omega,⟨by omega,T⟩,⟨⟨rfl,rfl,T⟩,T⟩, ?_,T⟩⟩
  rw [List.take_of_length_le (by rw [zfy];omega),zqO];rfl
 .have e:x=l.len:=za5 hx.2 hge
  exact ⟨(),T,⟨⟨rfl,e,T⟩,T⟩,by rw [e],T⟩
 .exact ⟨0,.inl rfl,⟨rfl,rfl,T⟩,A0.symm,T⟩
 .have ha0:a=0:=by omega
  subst ha0
  refine ⟨⟨by omega,by omega⟩,⟨1,.inl ⟨rfl,by omega,by omega⟩,⟨rfl,T⟩, ?_,T⟩,λi hi=>⟨L _ (by omega),λhlt=> ?_,λhge=> ?_⟩⟩
  .show _=zcf _ (zcf _ _ 0 0) 0 1
   rw [A0,zpx]
  .exact ztQ hc hv h20 ht (by omega) rfl (by omega) hlt
  .have hge:¬((i:Int)<((0:Nat):Int)+20):=hge
   have hi20:i=20:=by omega
   refine ⟨⟨by omega,by omega⟩,20,.inr ⟨rfl,by omega⟩,by omega,⟨by omega,by omega,T⟩, ?_,T⟩
   rw [hi20]
   show zcf _ (zcf _ _ 0 0) 0 20=_
   rw [A0]
 .have hgt:¬((a:Int)+20<=(l.len:Int)):=hgt
  refine ⟨⟨by omega,by omega⟩,⟨a+1, ?_,⟨by omega,T⟩, ?_,T⟩,λi hi=>⟨L _ (by omega),λhlt=> ?_,λhge=> ?_⟩⟩
  .rcases ha with h|h
   .exact .inl ⟨by omega,by omega,by omega⟩
   .exact .inr ⟨(λk=>by omega),by omega,by omega⟩
  .rcases ha with h|h
   .subst h
    show _=zcf _ (zcf _ _ 0 0) 0 1
    rw [A0,zpx]
   .show _=zcf _ (zcf _ _ 0 a) a (a+1)
    rw [ztT (a:=(a:Int)) (by omega)]
  .exact ztQ hc hv h20 ht (by omega) (by omega) (by omega) hlt
  .have hge:¬((i:Int)<(l.len:Int)):=hge
   refine ⟨⟨(),T,⟨rfl,T⟩,T⟩,λ_ _=>⟨L _ (by omega),λk=>by omega,λ_=>⟨(),T,⟨⟨rfl,rfl,T⟩,T⟩, ?_,T⟩⟩⟩
   rcases ha with h|h
   .subst h
    show zcf _ (zcf _ _ 0 0) 0 i=_
    rw [A0,zlU _ _ (by omega)];rfl
   .show zcf _ (zcf _ _ 0 a) a i=_
    rw [ztT (a:=(a:Int)) (by omega),zlU _ _ (by omega)];rfl
 .subst hx
  have hb:zeU (zaZ c) (za6 c l) [] 0= [.nil]:=zrY (.inl rfl)
  refine ⟨by omega,hlt,by omega,⟨(λk=>absurd rfl k),λ_=>⟨Nat.le_refl _,by omega,[.nil],⟨hb.symm,Nat.zero_lt_one⟩,⟨⟨rfl,rfl,T⟩,T⟩,⟨rfl,⟨λd hd=>by simpa using hd⟩⟩,T⟩⟩,λQ hQ=> ?_⟩
  exact ztC h20 h0 rfl hQ
 .exact absurd h0 (by have h:¬((0:Int)<l.len):=hge;omega)
 .have o1:=zrb (c:=c) ht x (by omega)
  have o2:okP (zai (za6 c l) ((x:Int)-1).toNat):=zrb (c:=c) ht _ (by omega)
  have hgl:=zqr (zaZ c) (za6 c l) x
  have e1:List.take 1 [D.nil]= [D.nil]:=rfl
  refine ⟨by omega,hlt,by omega,⟨(λ_=>⟨⟨by omega,by omega⟩,by omega,by omega,by omega,ztq hc hv o2 o1,(λhne=>⟨Nat.le_refl _,Nat.zero_lt_one,⟨λd hd=>by simpa using hd⟩,rfl,rfl,by omega,_,⟨rfl, ?_⟩,⟨⟨rfl, ?_,T⟩,T⟩, ?_,T⟩),λheq=>⟨_,⟨rfl, ?_⟩,⟨⟨rfl, ?_,T⟩,T⟩, ?_,T⟩⟩),λk=>by omega⟩,λQ hQ=>ztC h20 (by omega) rfl hQ⟩
  all_goals
   rw [zpV hv,zh6] at*
  .rw [zrY (.inr hne),List.length_append];exact Nat.succ_pos _
  .rw [zrY (.inr hne),List.length_append];rfl
  .rw [zrY (.inr hne)];rfl
  .exact (zlH (f:=zaZ c) (Q:=za6 c l) (by omega)).1
  .rw [zwX (by omega) (Classical.byContradiction heq)]
  .rw [zwX (by omega) (Classical.byContradiction heq)]
 .have e:x=l.len:=za5 hx.2 hge
  refine ⟨by omega,zqj _ _ _,⟨by kernel_rfl,by kernel_rfl⟩, ?_⟩
  rw [List.take_of_length_le (Nat.le_refl _),e]
  show D.list _=zba _
  refine za9 ?_
  have:=(zlH (f:=zaZ c) (Q:=za6 c l) (x:=l.len-1) (by omega))
  rw [show l.len-1+1=l.len by omega] at this
  omega
end
end Go.Ev

end

section
open Go.Proofs
namespace Go.Ev
noncomputable section
set_option maxRecDepth 100000
set_option maxHeartbeats 4000000
def zmO (y:Nat×List D) (ll:D):Prop:=
 (y.fst<=ll.len/\0<(zas ll ll.len).length)/\(zas ll y.fst).length<=y.snd.length/\List.take (zas ll y.fst).length y.snd=zas ll y.fst
def zoM (ll:D) (x:Nat×List D):Prop:=
 ∃(y:Nat×List D),(y.fst<=ll.len/\(zas ll ll.len).length=0)/\ll.len-y.fst<ll.len-x.fst/\((x.fst:Int)+1=(y.fst:Int)/\False/\True)/\True
def zrt (x:Nat×List D) (ll:D):Prop:=
 (x.fst:Int)<(ll.len:Int)->0<=(x.fst:Int)/\(x.fst:Int)<(ll.len:Int)/\((el ll x.fst).len=0->fits64 ((x.fst:Int)+1)/\((zoM ll x)\/∃(y:Nat×List D),(zmO y ll)/\ll.len-y.fst<ll.len-
 x.fst/\((x.fst:Int)+1=(y.fst:Int)/\((0:Nat)=0/\(zas ll x.fst).length=(zas ll y.fst).length/\True)/\True)/\x.snd=y.snd/\True))/\(0<(el ll x.fst).len->0+(zas ll x.fst).length<=
 x.snd.length/\(zas ll x.fst).length+(el ll x.fst).len<=8796093022208/\fits64 ((x.fst:Int)+1)/\((zoM ll x)\/∃(y:Nat×List D),(zmO y ll)/\ll.len-y.fst<ll.len-x.fst/\((x.fst:Int)+1=
 (y.fst:Int)/\((0:Nat)=0/\(zas ll x.fst).length+(el ll x.fst).len=(zas ll y.fst).length/\True)/\True)/\List.take (zas ll x.fst).length x.snd++(el ll x.fst).asList=y.snd/\True))
def zp7 (ll:D):Prop:=
 ∀(x:Nat×List D),x.fst<=ll.len/\(zas ll ll.len).length=0->ll.len-x.fst<LIM/\((x.fst:Int)<(ll.len:Int)->0<=(x.fst:Int)/\(x.fst:Int)<(ll.len:Int)/\((el ll x.fst).len=0->fits64 ((x.fst
 :Int)+1)/\((∃(y:Nat×List D),(y.fst<=ll.len/\(zas ll ll.len).length=0)/\ll.len-y.fst<ll.len-x.fst/\((x.fst:Int)+1=(y.fst:Int)/\True/\True)/\True)\/∃(y:Nat×List D),(zmO y ll)/\
 ll.len-y.fst<ll.len-x.fst/\((x.fst:Int)+1=(y.fst:Int)/\False/\True)/\False/\True))/\(0<(el ll x.fst).len->(el ll x.fst).len<=8796093022208/\fits64 ((x.fst:Int)+1)/\((zoM ll x)\/∃(y:
 Nat×List D),(zmO y ll)/\ll.len-y.fst<ll.len-x.fst/\((x.fst:Int)+1=(y.fst:Int)/\((0:Nat)=0/\(el ll x.fst).len=(zas ll y.fst).length/\True)/\True)/\(el ll x.fst).asList=y.snd/\True)))
 /\(((x.fst:Int)<(ll.len:Int)->False)->D.nil=zhx ll)
theorem zye:∀(ll:D),zac (zbp (λ_=>none) D.nil D.nil) 4 (147:FuncId) [V.dat (57:TypeId) ll] (V.dat (34:TypeId) (zhx ll))=((∃(x:Nat),x.le ll.len/\(0=(x:Int)/\0=(↑(zas ll x).length:
Int)/\True)/\True)/\∀(x:Nat),x.le ll.len->ll.len-x<LIM/\((x:Int)<(ll.len:Int)->0<=(x:Int)/\(x:Int)<(ll.len:Int)/\fits64 ((↑(zas ll x).length:Int)+(↑(el ll x).len:Int))/\((↑(zas
ll x).length:Int)+(↑(el ll x).len:Int)<0->False)/\(((↑(zas ll x).length:Int)+(↑(el ll x).len:Int)<0->False)->fits64 ((x:Int)+1)/\∃(y:Nat),y.le ll.len/\ll.len-y<ll.len-x/\((x:Int)
+1=(y:Int)/\(↑(zas ll x).length:Int)+(↑(el ll x).len:Int)=(↑(zas ll y).length:Int)/\True)/\True))/\(((x:Int)<(ll.len:Int)->False)->((↑(zas ll x).length:Int)<0->False)/\(((↑(zas ll
x).length:Int)<0->False)->fits64 ((↑(zas ll x).length:Int)-Int.ofNat Nat.zero)/\(0<(↑(zas ll x).length:Int)-Int.ofNat Nat.zero->(0:Int)<=0/\(0:Int)<=0/\(0:Int)<=0/\0<(↑(zas ll
x).length:Int)-Int.ofNat Nat.zero/\(↑(zas ll x).length:Int)-Int.ofNat Nat.zero<=16777216/\(0:Int)<=0/\(0:Int)<=0/\((↑((↑(zas ll x).length:Int)-Int.ofNat Nat.zero).toNat:Int)-0).NonNeg/\((∃
(x:Nat×List D),(x.fst<=ll.len/\(zas ll ll.len).length=0)/\(0=(x.fst:Int)/\False/\True)/\True)\/∃(x_1:Nat×List D),((x_1.fst<=ll.len/\0<(zas ll ll.len).length)/\(zas ll x_1.fst).length<=
x_1.snd.length/\List.take (zas ll x_1.fst).length x_1.snd=zas ll x_1.fst)/\(0=(x_1.fst:Int)/\((0:Nat)=0/\0=(zas ll x_1.fst).length/\True)/\True)/\List.replicate ((↑(zas ll x).length:Int)-
Int.ofNat Nat.zero).toNat (D.int 0)=x_1.snd/\True)/\(zp7 ll)/\∀(x:Nat×List D),(x.fst<=ll.len/\0<(zas ll ll.len).length)/\(zas ll x.fst).length<=x.snd.length/\List.take (zas ll x.fst).length
x.snd=zas ll x.fst->ll.len-x.fst<LIM/\(zrt x ll)/\(((x.fst:Int)<(ll.len:Int)->False)->0+(zas ll x.fst).length<=x.snd.length/\D.list (List.take (zas ll x.fst).length x.snd)=zhx ll))/\((0
<(↑(zas ll x).length:Int)-Int.ofNat Nat.zero->False)->((∃(x:Nat×List D),(x.fst<=ll.len/\(zas ll ll.len).length=0)/\(0=(x.fst:Int)/\True/\True)/\True)\/∃(x:Nat×List D),((x.fst<=ll.len
/\0<(zas ll ll.len).length)/\(zas ll x.fst).length<=x.snd.length/\List.take (zas ll x.fst).length x.snd=zas ll x.fst)/\(0=(x.fst:Int)/\False/\True)/\False/\True)/\(zp7 ll)/\∀(x:Nat×List
D),(x.fst<=ll.len/\0<(zas ll ll.len).length)/\(zas ll x.fst).length<=x.snd.length/\List.take (zas ll x.fst).length x.snd=zas ll x.fst->ll.len-x.fst<LIM/\(zrt x ll)/\(((x.fst:Int)<(ll.len:
Int)->False)->0+(zas ll x.fst).length<=x.snd.length/\D.list (List.take (zas ll x.fst).length x.snd)=zhx ll))))):=by intros;kernel_rfl
theorem zAC:∀(c l:D),zac (zbp os0 D.nil D.nil) 3 (99:FuncId) [V.dat (22:TypeId) c,V.dat (130:TypeId) l] (V.tup [V.dat (34:TypeId) (lnD c l).fst,V.int IntKind.i64 (lnD c l).snd])=(((zan c/\(zaK
c).snd=0)/\l.len<=20/\tgP l)/\((↑(grD c l).len:Int)<(l.len:Int)->D.nil=(lnD c l).fst/\32=(lnD c l).snd/\True)/\(((↑(grD c l).len:Int)<(l.len:Int)->False)->zbJ (grD c l)/\zhx (grD c l)=
(lnD c l).fst/\0=(lnD c l).snd/\True)):=by intros;kernel_rfl
theorem zzP:∀(c g:D),zac (zbp os0 D.nil D.nil) 4 (34:FuncId) [V.dat (22:TypeId) c,V.dat (23:TypeId) g] (V.dat (57:TypeId) (orD c g))=(((g.len:Int)<=64->zan c/\(((zaK c).snd=0->False)->
D.nil=orD c g)/\((((zaK c).snd=0->False)->False)->g.len<=100/\((zan c/\(zaK c).snd=0)/\(plL g g.len).length<=20/\tgP (D.list (plL g g.len)))/\grD c (D.list (plL g g.len))=orD c g))/\(((g.len:
Int)<=64->False)->D.nil=orD c g)):=by intros;kernel_rfl
theorem zBd:∀(c g:D),zac (zbp os1 D.nil D.nil) 3 (36:FuncId) [V.dat (22:TypeId) c,V.dat (23:TypeId) g] (V.tup [V.dat (34:TypeId) (liD c g).fst,V.int IntKind.i64 (liD c g).snd])=(zan c/\(((zaK
c).snd=0->False)->D.nil=(liD c g).fst/\(zaK c).snd=(liD c g).snd/\True)/\((((zaK c).snd=0->False)->False)->(64<(g.len:Int)->D.nil=(liD c g).fst/\7=(liD c g).snd/\True)/\((64<(g.len:Int)
->False)->g.len<=100/\((zan c/\(zaK c).snd=0)/\(plL g g.len).length<=20/\tgP (D.list (plL g g.len)))/\(lnD c (D.list (plL g g.len))).fst=(liD c g).fst/\(lnD c (D.list (plL g g.len))).snd=(liD c g).snd
/\True))):=by intros;kernel_rfl
theorem zAT:∀(c g:D),zac (zbp os1 c g) 4 (35:FuncId) [V.dat (22:TypeId) c,V.dat (23:TypeId) g] (V.dat (34:TypeId) (clD c g))=(((g.len:Int)<=64->zan c/\(((zaK c).snd=0->False)->D.nil=
clD c g)/\((((zaK c).snd=0->False)->False)->0<=(g.len:Int)/\(g.len:Int)<=(g.len:Int)/\(g.len:Int)<=16777216/\(zbp (λ_=>none) D.nil D.nil).P.types[3].bytes*g.len<=281474976710656/\zgb c g/\
(∃(x:Nat),x.le (orD c g).len/\(0=(x:Int)/\True)/\List.replicate g.len (D.int 0)=zey (List.replicate g.len (D.int 0)) (orD c g) x/\True)/\∀(x:Nat),x.le (orD c g).len->(orD c g).len-x<LIM/\((x:
Int)<(↑(orD c g).len:Int)->0<=(x:Int)/\(x:Int)<(↑(orD c g).len:Int)/\(∃(x_1:Nat),x_1.le (el (orD c g) x).len/\(0=(x_1:Int)/\True)/\zey (List.replicate g.len (D.int 0)) (orD c g) x=ziR (zey
(List.replicate g.len (D.int 0)) (orD c g) x) (x:Int) (el (orD c g) x) x_1/\True)/\∀(x_1:Nat),x_1.le (el (orD c g) x).len->(el (orD c g) x).len-x_1<LIM/\((x_1:Int)<(↑(el (orD c g) x).len:Int)->0<=
(x_1:Int)/\(x_1:Int)<(↑(el (orD c g) x).len:Int)/\0<=(el (el (orD c g) x) x_1).asInt/\(el (el (orD c g) x) x_1).asInt<(g.len:Int)/\(el (el (orD c g) x) x_1).asInt.toNat<(ziR (zey (List.replicate
g.len (D.int 0)) (orD c g) x) (x:Int) (el (orD c g) x) x_1).length/\fits64 ((x_1:Int)+1)/\∃(y:Nat),y.le (el (orD c g) x).len/\(el (orD c g) x).len-y<(el (orD c g) x).len-x_1/\((x_1:Int)+1=(y:
Int)/\True)/\(ziR (zey (List.replicate g.len (D.int 0)) (orD c g) x) (x:Int) (el (orD c g) x) x_1).set (el (el (orD c g) x) x_1).asInt.toNat (D.int (x:Int))=ziR (zey (List.replicate g.len (D.int 0)) (orD c g)
x) (x:Int) (el (orD c g) x) y/\True)/\(((x_1:Int)<(↑(el (orD c g) x).len:Int)->False)->fits64 ((x:Int)+1)/\∃(y:Nat),y.le (orD c g).len/\(orD c g).len-y<(orD c g).len-x/\((x:Int)+1=(y:
Int)/\True)/\ziR (zey (List.replicate g.len (D.int 0)) (orD c g) x) (x:Int) (el (orD c g) x) x_1=zey (List.replicate g.len (D.int 0)) (orD c g) y/\True))/\(((x:Int)<(↑(orD c g).len:Int)->False)->0+
g.len<=(zey (List.replicate g.len (D.int 0)) (orD c g) x).length/\D.list (List.take g.len (zey (List.replicate g.len (D.int 0)) (orD c g) x))=clD c g)))/\(((g.len:Int)<=64->False)->D.nil=clD c g)):=by intros;kernel_rfl
theorem zxT:∀(c g:D) (x y:Int),zac (zbp os0 c g) 3 (155:FuncId) [V.dat (22:TypeId) c,V.dat (23:TypeId) g,V.int IntKind.i64 x,V.int IntKind.i64 y] (V.prop (goP c g x y))=(0<=x/\x<(g.len:Int)
/\0<=y/\y<(g.len:Int)/\((zan c/\(zaK c).snd=0)/\((el g x.toNat).fld (Nat.succ 6).succ).len<=100/\((el g y.toNat).fld (Nat.succ 6).succ).len<=100)/\((zaM (clE c (gAt (el g x.toNat)) (gAt (el g
y.toNat)) x y) c.len 0).snd<0↔goP c g x y)):=by intros;kernel_rfl
theorem zxN:∀(n:Int),zac (zbp (λ_=>none) D.nil D.nil) 3 (120:FuncId) [V.int IntKind.i64 n] (V.dat (34:TypeId) (rgD n.toNat))=(((∃(x:Nat),x=0/\((0:Int)=0/\True/\True)/\True)\/∃(x:
Nat),(0<x/\(x:Int)<=n)/\(0=(x:Int)/\False/\True)/\False/\True)/\(∀(x:Nat),x=0->n.toNat-x<LIM/\(0<n->0+1<= [D.int 0].length/\(1:Nat)<=8796093022208/\fits64 (0+1)/\((∃(y:Nat),y
=0/\n.toNat-y<n.toNat-x/\((0:Int)+1=0/\False/\True)/\True)\/∃(y:Nat),(0<y/\(y:Int)<=n)/\n.toNat-y<n.toNat-x/\(0+1=(y:Int)/\((0:Nat)=0/\1=y/\True)/\True)/\List.take 1
[D.int 0]=rgL y/\True))/\((0<n->False)->D.nil=rgD n.toNat))/\∀(x:Nat),0<x/\(x:Int)<=n->n.toNat-x<LIM/\((x:Int)<n->0+1<= [D.int (x:Int)].length/\0+x<=(rgL x).length/\x+1<=
8796093022208/\fits64 ((x:Int)+1)/\((∃(y:Nat),y=0/\n.toNat-y<n.toNat-x/\((x:Int)+1=0/\False/\True)/\True)\/∃(y:Nat),(0<y/\(y:Int)<=n)/\n.toNat-y<n.toNat-x/\((x:Int)+1=
(y:Int)/\((0:Nat)=0/\x+1=y/\True)/\True)/\List.take x (rgL x)++List.take 1 [D.int (x:Int)]=rgL y/\True))/\(((x:Int)<n->False)->0+x<=(rgL x).length/\D.list (List.take x (rgL x))=rgD
n.toNat)):=by intros;kernel_rfl
theorem zxD:∀(ll:D),zac (zbp (λ_=>none) D.nil D.nil) 3 (118:FuncId) [V.dat (57:TypeId) ll] (V.tup [V.dat (34:TypeId) (sgD ll).fst,V.int IntKind.i64 (sgD ll).snd])=(((∃(x:Nat),x=0/\((0:
Int)=0/\True/\True)/\True)\/∃(x:Nat),(0<x/\x<=ll.len/\zvd ll x)/\(0=(x:Int)/\False/\True)/\False/\True)/\(∀(x:Nat),x=0->ll.len-x<LIM/\(0<(ll.len:Int)->(0:Int)<=0/\0<
(ll.len:Int)/\(((↑(el ll 0).len:Int)=1->False)->D.nil=(sgD ll).fst/\32=(sgD ll).snd/\True)/\((((↑(el ll 0).len:Int)=1->False)->False)->(0:Int)<=0/\0<(ll.len:Int)/\(0:Int)<=0/\0<(↑(el
ll 0).len:Int)/\0+1<= [D.int (el (el ll 0) 0).asInt].length/\(1:Nat)<=8796093022208/\fits64 (0+1)/\((∃(y:Nat),y=0/\ll.len-y<ll.len-x/\((0:Int)+1=0/\False/\True)/\True)\/∃(y:Nat),
(0<y/\y<=ll.len/\zvd ll y)/\ll.len-y<ll.len-x/\(0+1=(y:Int)/\((0:Nat)=0/\1=y/\True)/\True)/\List.take 1 [D.int (el (el ll 0) 0).asInt]=hdL ll y/\True)))/\((0<(ll.len:Int)->False)->
D.nil=(sgD ll).fst/\0=(sgD ll).snd/\True))/\∀(x:Nat),0<x/\x<=ll.len/\zvd ll x->ll.len-x<LIM/\((x:Int)<(ll.len:Int)->0<=(x:Int)/\(x:Int)<(ll.len:Int)/\(((↑(el ll x).len:Int)=1
->False)->D.nil=(sgD ll).fst/\32=(sgD ll).snd/\True)/\((((↑(el ll x).len:Int)=1->False)->False)->0<=(x:Int)/\(x:Int)<(ll.len:Int)/\(0:Int)<=0/\0<(↑(el ll x).len:Int)/\0+1<= [D.int (el
(el ll x) 0).asInt].length/\0+x<=(hdL ll x).length/\x+1<=8796093022208/\fits64 ((x:Int)+1)/\((∃(y:Nat),y=0/\ll.len-y<ll.len-x/\((x:Int)+1=0/\False/\True)/\True)\/∃(y:Nat),(0<y
/\y<=ll.len/\zvd ll y)/\ll.len-y<ll.len-x/\((x:Int)+1=(y:Int)/\((0:Nat)=0/\x+1=y/\True)/\True)/\List.take x (hdL ll x)++List.take 1 [D.int (el (el ll x) 0).asInt]=hdL ll y/\True)))/\
(((x:Int)<(ll.len:Int)->False)->(0+x<=(hdL ll x).length/\D.list (List.take x (hdL ll x))=(sgD ll).fst)/\0=(sgD ll).snd/\True)):=by intros;kernel_rfl
theorem zAv:∀(a b:D),zac (zbp (λ_=>none) D.nil D.nil) 3 (28:FuncId) [V.dat (34:TypeId) a,V.dat (34:TypeId) b] (V.prop (eqN a b))=((((a.len:Int)=(b.len:Int)->False)->(false=true↔eqN a
b))/\((((a.len:Int)=(b.len:Int)->False)->False)->(∃(x:Nat),(x<=a.len/\∀(i:Nat),i<x->(el a i).asInt=(el b i).asInt)/\(0=(x:Int)/\True)/\True)/\∀(x:Nat),(x<=a.len/\∀(i:Nat),i<x
->(el a i).asInt=(el b i).asInt)->a.len-x<LIM/\((x:Int)<(a.len:Int)->0<=(x:Int)/\(x:Int)<(a.len:Int)/\0<=(x:Int)/\(x:Int)<(b.len:Int)/\(((el a x).asInt=(el b x).asInt->False)->
(false=true↔eqN a b))/\((((el a x).asInt=(el b x).asInt->False)->False)->fits64 ((x:Int)+1)/\∃(y:Nat),(y<=a.len/\∀(i:Nat),i<y->(el a i).asInt=(el b i).asInt)/\a.len-y<a.len-x/\((x:
Int)+1=(y:Int)/\True)/\True))/\(((x:Int)<(a.len:Int)->False)->(true=true↔eqN a b)))):=by intros;kernel_rfl
theorem zyj:∀(a b:D),zac (zbp (λ_=>none) D.nil D.nil) 3 (122:FuncId) [V.dat (34:TypeId) a,V.dat (34:TypeId) b] (V.prop (eqN a b))=((((a.len:Int)=(b.len:Int)->False)->(false=true↔eqN
a b))/\((((a.len:Int)=(b.len:Int)->False)->False)->(∃(x:Nat),(x<=a.len/\∀(i:Nat),i<x->(el a i).asInt=(el b i).asInt)/\(0=(x:Int)/\True)/\True)/\∀(x:Nat),(x<=a.len/\∀(i:Nat),i<
x->(el a i).asInt=(el b i).asInt)->a.len-x<LIM/\((x:Int)<(a.len:Int)->0<=(x:Int)/\(x:Int)<(a.len:Int)/\0<=(x:Int)/\(x:Int)<(b.len:Int)/\(((el a x).asInt=(el b x).asInt->False)->
(false=true↔eqN a b))/\((((el a x).asInt=(el b x).asInt->False)->False)->fits64 ((x:Int)+1)/\∃(y:Nat),(y<=a.len/\∀(i:Nat),i<y->(el a i).asInt=(el b i).asInt)/\a.len-y<a.len-x/\((x:
Int)+1=(y:Int)/\True)/\True))/\(((x:Int)<(a.len:Int)->False)->(true=true↔eqN a b)))):=by intros;kernel_rfl
theorem zc1 {n:Nat} (h:n<=10000000):n<LIM:=by unfold LIM;omega
theorem zfh (ll:D) (x:Nat):zas ll (x+1)=zas ll x++(el ll x).asList:=rfl
theorem zcg (ll:D) (x:Nat):(zas ll (x+1)).length=(zas ll x).length+(el ll x).len:=by rw [zfh,List.length_append];rfl
theorem zkw (ll:D) {a:Nat}:∀k,(zas ll a).length<=(zas ll (a+k)).length
 |0=>Nat.le_refl _
 |k+1=>by have:=zkw ll (a:=a) k;rw [show a+(k+1)=(a+k)+1 from rfl,zcg];omega
theorem ziz {ll:D} (h:zbJ ll):∀x,x<=ll.len->(zas ll x).length<=100*x
 |0,_=>Nat.le_refl _
 |x+1,hx=>by have:=ziz h x (by omega);have:=h.out.2 x (by omega);rw [zcg];omega
theorem znU (ll:D) {a b:Nat} (h:a<=b):(zas ll a).length<=(zas ll b).length:=by
 have:=zkw ll (a:=a) (b-a);rw [show a+(b-a)=b by omega] at this;exact this
theorem zBk (ll:D) (h:zbJ ll):zac (zbp (λ_=>none) .nil .nil) 4 147 [.dat 57 ll] (.dat 34 (zhx ll)):=by
 rw [zye]
 have T:True:=trivial
 have hn:=h.out.1
 have z0:(Int.ofNat Nat.zero)=0:=rfl
 have hnil:(zas ll ll.len).length=0->zp7 ll:=λh0 x hx=>⟨zc1 (by omega),λhlt=>⟨by omega,hlt,λ_=>⟨⟨by omega,by omega⟩,.inl ⟨(x.1+1,[]),⟨by show x.1+1<=_;omega,h0⟩,by show _-(x.1+1)<_;omega,⟨rfl,T,T⟩,T⟩⟩,λhp=>by
   have:=znU ll (show x.1+1<=ll.len by omega)
   rw [zcg] at this;omega⟩,λ_=>by
   unfold zhx;rw [List.eq_nil_of_length_eq_zero h0];rfl⟩
 have hstep:∀x:Nat×List D,(x.1<=ll.len/\0<(zas ll ll.len).length)/\(zas ll x.1).length<=x.2.length/\x.2.take (zas ll x.1).length=zas ll x.1->zrt x ll:=λx hx hlt=>by
  have hl:=ziz h (x.1+1) (by omega)
  rw [zcg] at hl
  refine ⟨by omega,hlt,λh0=>⟨⟨by omega,by omega⟩,.inr ⟨(x.1+1,x.2),⟨⟨by show x.1+1<=_;omega,hx.1.2⟩, ?_, ?_⟩,by show _-(x.1+1)<_;omega,⟨rfl,⟨rfl, ?_,T⟩,T⟩,rfl,T⟩⟩,λhp=>⟨by omega,by omega,⟨by omega,by omega⟩,.inr ⟨(x.1+1,zas ll (x.1+1)),⟨⟨by show x.1+1<=_;omega,hx.1.2⟩,Nat.le_refl _,List.take_of_length_le (Nat.le_refl _)⟩,by show _-(x.1+1)<_;omega,⟨rfl,⟨rfl, ?_,T⟩,T⟩, ?_,T⟩⟩⟩
  .show (zas ll (x.1+1)).length<=_
   rw [zcg,h0];exact hx.2.1
  .show List.take (zas ll (x.1+1)).length _=zas ll (x.1+1)
   rw [zcg,h0,Nat.add_zero,hx.2.2,zfh,List.eq_nil_of_length_eq_zero h0,List.append_nil]
  .show _=(zas ll (x.1+1)).length
   rw [zcg,h0];rfl
  .show _=(zas ll (x.1+1)).length
   rw [zcg]
  .show _=zas ll (x.1+1)
   rw [hx.2.2,zfh]
 have hfin:∀x:Nat×List D,(x.1<=ll.len/\0<(zas ll ll.len).length)/\(zas ll x.1).length<=x.2.length/\x.2.take (zas ll x.1).length=zas ll x.1->((x.1:Int)<ll.len->False)->0+(zas ll x.1).length<=x.2.length/\D.list (x.2.take (zas ll x.1).length)=zhx ll:=λx hx hge=>by
  have e:=za5 hx.1.1 hge
  refine ⟨by omega, ?_⟩
  rw [hx.2.2,e]
  exact za9 hx.1.2
 refine ⟨⟨0,Nat.zero_le _,⟨rfl,rfl,T⟩,T⟩,λx hx=>⟨zc1 (by omega),λhlt=> ?_,λhge=> ?_⟩⟩
 .have hl:=ziz h (x+1) (by omega)
  rw [zcg] at hl
  refine ⟨by omega,hlt,⟨by omega,by omega⟩,λk=>by omega,λ_=>⟨⟨by omega,by omega⟩,x+1,(by show x+1<=ll.len;omega),by omega,⟨rfl, ?_,T⟩,T⟩⟩
  rw [zcg];omega
 .have e:=za5 hx hge
  subst e
  have hl:=ziz h ll.len (Nat.le_refl _)
  refine ⟨λk=>by omega,λ_=>⟨⟨by rw [z0];omega,by rw [z0];omega⟩,λhp=> ?_,λhz=> ?_⟩⟩
  .have hp':0<(zas ll ll.len).length:=by rw [z0] at hp;omega
   refine ⟨by omega,by omega,by omega,hp,by rw [z0];omega,by omega,by omega, ?_,.inr ⟨(0,List.replicate (((zas ll ll.len).length:Int)-Int.ofNat Nat.zero).toNat (D.int 0)),⟨⟨Nat.zero_le _,hp'⟩,Nat.zero_le _,rfl⟩,⟨rfl,⟨rfl,rfl,T⟩,T⟩,rfl,T⟩,λx hx=> ?_,λx hx=>⟨zc1 (by omega),hstep x hx,hfin x hx⟩⟩
   .show (0:Int)<=_
    rw [z0];omega
   .exact absurd hx.2 (by omega)
  .have h0:(zas ll ll.len).length=0:=by have hz:¬(0:Int)<((zas ll ll.len).length:Int)-Int.ofNat Nat.zero:=hz;rw [z0] at hz;omega
   exact ⟨.inl ⟨(0,[]),⟨Nat.zero_le _,h0⟩,⟨rfl,T,T⟩,T⟩,hnil h0,λx hx=>⟨zc1 (by omega),hstep x hx,hfin x hx⟩⟩
theorem s28 (a b:D) (h:a.len<=100):zac (zbp (λ_=>none) .nil .nil) 3 28 [.dat 34 a,.dat 34 b] (.prop (eqN a b)):=by
 rw [zAv]
 refine ⟨λq=>nf λe=>q (by rw [e.out.1]),λq=> ?_⟩
 have q:a.len=b.len:=by have:=Classical.byContradiction q;omega
 refine ⟨⟨0,⟨Nat.zero_le _,λi hi=>absurd hi (Nat.not_lt_zero _)⟩,⟨rfl,trivial⟩,trivial⟩,λx hx=>⟨zf7 h,λk=>⟨by omega,k,by omega,by omega,λe=>nf λw=>e (w.out.2 x (by omega)),λe=>⟨⟨by omega,by omega⟩,x+1,⟨by omega,λi hi=> ?_⟩,by omega,⟨by omega,trivial⟩,trivial⟩⟩,λk=>nt ⟨q,λi hi=>hx.2 i (by have:=za5 hx.1 k;omega)⟩⟩⟩
 rcases Nat.lt_or_ge i x with w|w
 .exact hx.2 i w
 .have:i=x:=by omega
  subst this;exact Classical.byContradiction e
theorem zA8 (a b:D) (h:a.len<=100):zac (zbp (λ_=>none) .nil .nil) 3 122 [.dat 34 a,.dat 34 b] (.prop (eqN a b)):=by
 rw [zyj]
 refine ⟨λq=>nf λe=>q (by rw [e.out.1]),λq=> ?_⟩
 have q:a.len=b.len:=by have:=Classical.byContradiction q;omega
 refine ⟨⟨0,⟨Nat.zero_le _,λi hi=>absurd hi (Nat.not_lt_zero _)⟩,⟨rfl,trivial⟩,trivial⟩,λx hx=>⟨zf7 h,λk=>⟨by omega,k,by omega,by omega,λe=>nf λw=>e (w.out.2 x (by omega)),λe=>⟨⟨by omega,by omega⟩,x+1,⟨by omega,λi hi=> ?_⟩,by omega,⟨by omega,trivial⟩,trivial⟩⟩,λk=>nt ⟨q,λi hi=>hx.2 i (by have:=za5 hx.1 k;omega)⟩⟩⟩
 rcases Nat.lt_or_ge i x with w|w
 .exact hx.2 i w
 .have:i=x:=by omega
  subst this;exact Classical.byContradiction e
theorem zcp (n:Nat):(rgL n).length=n:=by unfold rgL iL;rw [List.length_map,List.length_range]
theorem zmU (n:Nat):rgL (n+1)=rgL n++ [.int (n:Nat)]:=by unfold rgL iL;rw [List.range_succ,List.map_append];rfl
theorem zzC (n:Int) (h:0<=n/\n<=100):zac (zbp (λ_=>none) .nil .nil) 3 120 [.int .i64 n] (.dat 34 (rgD n.toNat)):=by
 rw [zxN]
 have T:True:=trivial
 refine ⟨.inl ⟨0,rfl,⟨rfl,T,T⟩,T⟩,λx hx=>⟨zc1 (by omega),λhlt=>⟨Nat.le_refl _,by omega,⟨by omega,by omega⟩,.inr ⟨1,⟨by omega,by omega⟩,by omega,⟨rfl,⟨rfl,rfl,T⟩,T⟩,rfl,T⟩⟩,λhge=> ?_⟩,λx hx=>⟨zc1 (by omega),λhlt=>⟨Nat.le_refl _,by rw [zcp];omega,by omega,⟨by omega,by omega⟩,.inr ⟨x+1,⟨by omega,by omega⟩,by omega,⟨by omega,⟨rfl,rfl,T⟩,T⟩, ?_,T⟩⟩,λhge=>⟨by rw [zcp];omega, ?_⟩⟩⟩
 .have hge:¬(0:Int)<n:=hge
  have e:n.toNat=0:=by omega
  rw [e];rfl
 .rw [List.take_of_length_le (by rw [zcp];exact Nat.le_refl _),zmU];rfl
 .have hge:¬(x:Int)<n:=hge
  have e:n.toNat=x:=by omega
  rw [e,List.take_of_length_le (by rw [zcp];exact Nat.le_refl _)]
  exact za9 (by rw [zcp];omega)
theorem zfS (ll:D) (n:Nat):(hdL ll n).length=n:=by unfold hdL;rw [List.length_map,List.length_range]
theorem zna (ll:D) (n:Nat):hdL ll (n+1)=hdL ll n++ [.int (el (el ll n) 0).asInt]:=by unfold hdL;rw [List.range_succ,List.map_append];rfl
theorem zzm {ll:D} {i:Nat} (hi:i<ll.len) (h:((el ll i).len:Int)=1->False):sgD ll=(.nil,32):=by unfold sgD;rw [if_neg (λk=>h (by rw [k.out i hi];rfl))]
theorem zzf {ll:D} (h:zvd ll ll.len):sgD ll=(zba (hdL ll ll.len),0):=by unfold sgD;rw [if_pos h]
theorem zAj (ll:D) (h:zbJ ll):zac (zbp (λ_=>none) .nil .nil) 3 118 [.dat 57 ll] (.tup [.dat 34 (sgD ll).1,.int .i64 (sgD ll).2]):=by
 rw [zxD]
 have T:True:=trivial
 have hn:=h.out.1
 refine ⟨.inl ⟨0,rfl,⟨rfl,T,T⟩,T⟩,λx hx=>⟨zc1 (by omega),λhlt=>⟨by omega,hlt,λhne=> ?_,λheq=> ?_⟩,λhge=> ?_⟩,λx hx=>⟨zc1 (by omega),λhlt=>⟨by omega,hlt,λhne=> ?_,λheq=> ?_⟩,λhge=> ?_⟩⟩
 .rw [zzm (by omega) hne];exact ⟨rfl,rfl,T⟩
 .have heq:=Classical.byContradiction heq
  exact ⟨by omega,hlt,by omega,by omega,Nat.le_refl _,by omega,⟨by omega,by omega⟩,.inr ⟨1,⟨by omega,by omega,⟨λi hi=>by have e:i=0:=(by omega);subst e;omega⟩⟩,by omega,⟨rfl,⟨rfl,rfl,T⟩,T⟩,rfl,T⟩⟩
 .have e:ll.len=0:=by have hge:¬(0:Int)<ll.len:=hge;omega
  rw [zzf ⟨λi hi=>by omega⟩,e];exact ⟨rfl,rfl,T⟩
 .rw [zzm (by omega) hne];exact ⟨rfl,rfl,T⟩
 .have heq:=Classical.byContradiction heq
  refine ⟨by omega,hlt,by omega,by omega,Nat.le_refl _,by rw [zfS];omega,by omega,⟨by omega,by omega⟩,.inr ⟨x+1,⟨by omega,by omega,⟨λi hi=> ?_⟩⟩,by omega,⟨by omega,⟨rfl,rfl,T⟩,T⟩, ?_,T⟩⟩
  .rcases Nat.lt_or_ge i x with w|w
   .exact hx.2.2.out i w
   .have e:i=x:=by omega
    subst e;omega
  .rw [List.take_of_length_le (by rw [zfS];exact Nat.le_refl _),zna];rfl
 .have e:=za5 hx.2.1 hge
  subst e
  rw [zzf hx.2.2]
  refine ⟨⟨by rw [zfS];omega, ?_⟩,rfl,T⟩
  rw [List.take_of_length_le (by rw [zfS];exact Nat.le_refl _)]
  exact za9 (by rw [zfS];omega)
theorem zzK (c g:D) (x y:Int) (hx:(0<=x/\x<g.len)/\0<=y/\y<g.len) (hc:zan c/\(zaK c).2=0) (ht:tgG g):zac (zbp os0 c g) 3 155 [.dat 22 c,.dat 23 g,.int .i64 x,.int .i64 y] (.prop (goP c g x y)):=by
 rw [zxT]
 exact ⟨hx.1.1,hx.1.2,hx.2.1,hx.2.2,⟨hc,ht.out x.toNat (by omega),ht.out y.toNat (by omega)⟩,⟨λh=>⟨h⟩,λh=>h.out⟩⟩
end
end Go.Ev

end
