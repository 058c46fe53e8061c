/- Part of the proof. -/
import Derived.Test.YtdojhafbgoimeaaGreatDoorCoreG23
import Derived.Test.YtdojhafbgoimeaaGreatDoorCoreG24

section
open Go.Proofs
namespace Go.Ev
noncomputable section
set_option maxRecDepth 100000
set_option maxHeartbeats 4000000
def rA (c l:D) (x x_1:Nat):List D:=zb5 (zaT c) (zb5 (zaT c) (zdi l l.len) (0:Int) x) (↑x:Int) x_1
def rK (c l:D) (x x_1 x_2:Nat):List D:=zim (rA c l x x_1) x_1 x_2
def cmT (c P Q:D):Int:=(zxB (D.list (zaJ c c.len)) (gAt (P.fld 0)) (gAt (Q.fld 0)) (P.fld 1).asInt (Q.fld 1).asInt).snd
def okT (c P Q:D):Prop:=(((zaJ c c.len).length<=(100:Nat)/\∀(k:Nat),k<(zaJ c c.len).length->okA (el (D.list (zaJ c c.len)) k))/\((P.fld 0).fld (Nat.succ 6).succ).len<=(100:Nat)/\((Q.fld 0).fld (Nat.succ 6).succ).len<=(100:Nat))
def zyo (c l:D) (x x_1:Nat) (b:Int):Prop:=
 (∃(x_2:Nat),((↑x:Int)=(0:Int)/\x_2<=x_1/\x_1<(rA c l x x_1).length/\zeC (zaT c) (zad (rA c l x x_1) x_1) (List.take x_1 (rA c l x x_1)) x_2=zeC (zaT c) (zad (rA c l x x_1) x_1)
 (List.take x_1 (rA c l x x_1)) x_1)/\((↑x_1:Int)=(↑x_2:Int)/\True)/\rA c l x x_1=rK c l x x_1 x_2/\True)/\∀(x_2:Nat),(↑x:Int)=(0:Int)/\x_2<=x_1/\x_1<(rA c l x x_1).length/\
 zeC (zaT c) (zad (rA c l x x_1) x_1) (List.take x_1 (rA c l x x_1)) x_2=zeC (zaT c) (zad (rA c l x x_1) x_1) (List.take x_1 (rA c l x x_1)) x_1->x_2<LIM/\((↑x:Int)<(↑x_2:Int)->(0:
 Int)<=(↑x_2:Int)/\(↑x_2:Int)<(↑l.len:Int)/\x_2<(rK c l x x_1 x_2).length/\((-9223372036854775808:Int)<=(↑x_2:Int)-(1:Int)/\(↑x_2:Int)-(1:Int)<(9223372036854775808:
 Int))/\(0:Int)<=(↑x_2:Int)-(1:Int)/\(↑x_2:Int)-(1:Int)<(↑l.len:Int)/\((↑x_2:Int)-(1:Int)).toNat<(rK c l x x_1 x_2).length/\okT c (zad (rK c l x x_1 x_2) x_2) (zad (rK
 c l x x_1 x_2) ((↑x_2:Int)-(1:Int)).toNat)/\(cmT c (zad (rK c l x x_1 x_2) x_2) (zad (rK c l x x_1 x_2) ((↑x_2:Int)-(1:Int)).toNat)<(0:Int)->((-9223372036854775808:Int)<=(↑x_2:
 Int)-(1:Int)/\(↑x_2:Int)-(1:Int)<(9223372036854775808:Int))/\((-9223372036854775808:Int)<=(↑x_2:Int)-(1:Int)/\(↑x_2:Int)-(1:Int)<(9223372036854775808:Int))/\(0:
 Int)<=(↑x_2:Int)-(1:Int)/\(↑x_2:Int)-(1:Int)<(↑l.len:Int)/\((↑x_2:Int)-(1:Int)).toNat<(rK c l x x_1 x_2).length/\(0:Int)<=(↑x_2:Int)/\(↑x_2:Int)<(↑l.len:Int)/\
 x_2<(rK c l x x_1 x_2).length/\(0:Int)<=(↑x_2:Int)/\(↑x_2:Int)<(↑l.len:Int)/\x_2<(rK c l x x_1 x_2).length/\(0:Int)<=(↑x_2:Int)-(1:Int)/\(↑x_2:Int)-(1:Int)<(↑l.len
 :Int)/\((↑x_2:Int)-(1:Int)).toNat<((rK c l x x_1 x_2).set x_2 (pl (zad (rK c l x x_1 x_2) ((↑x_2:Int)-(1:Int)).toNat))).length/\((-9223372036854775808:Int)<=(↑x_2:Int)-(1:
 Int)/\(↑x_2:Int)-(1:Int)<(9223372036854775808:Int))/\∃(y:Nat),((↑x:Int)=(0:Int)/\y<=x_1/\x_1<(rA c l x x_1).length/\zeC (zaT c) (zad (rA c l x x_1) x_1) (List.take x_1
 (rA c l x x_1)) y=zeC (zaT c) (zad (rA c l x x_1) x_1) (List.take x_1 (rA c l x x_1)) x_1)/\y<x_2/\((↑x_2:Int)-(1:Int)=(↑y:Int)/\True)/\((rK c l x x_1 x_2).set x_2 (pl (zad (rK c
 l x x_1 x_2) ((↑x_2:Int)-(1:Int)).toNat))).set ((↑x_2:Int)-(1:Int)).toNat (pl (zad (rK c l x x_1 x_2) x_2))=zim (rA c l x x_1) x_1 y/\True)/\((cmT c (zad (rK c l x x_1 x_2) x_2)
 (zad (rK c l x x_1 x_2) ((↑x_2:Int)-(1:Int)).toNat)<(0:Int)->False)->((-9223372036854775808:Int)<=(↑x_1:Int)+(1:Int)/\(↑x_1:Int)+(1:Int)<(9223372036854775808:Int))/\∃
 (y:Nat),((↑x:Int)=(0:Int)/\(1:Nat)<=y/\(↑y:Int)<=max b (1:Int)\/((↑x:Int)=(0:Int)->False)/\(↑y:Int)=(↑x:Int)+(1:Int)/\b<=(↑x:Int))/\b.toNat-y<b.toNat-
 x_1/\((↑x_1:Int)+(1:Int)=(↑y:Int)/\True)/\rK c l x x_1 x_2=zb5 (zaT c) (zb5 (zaT c) (zdi l l.len) (0:Int) x) (↑x:Int) y/\True))/\(((↑x:Int)<(↑x_2:Int)->False)->
 ((-9223372036854775808:Int)<=(↑x_1:Int)+(1:Int)/\(↑x_1:Int)+(1:Int)<(9223372036854775808:Int))/\∃(y:Nat),((↑x:Int)=(0:Int)/\(1:Nat)<=y/\(↑y:Int)<=max b (1:Int)
 \/((↑x:Int)=(0:Int)->False)/\(↑y:Int)=(↑x:Int)+(1:Int)/\b<=(↑x:Int))/\b.toNat-y<b.toNat-x_1/\((↑x_1:Int)+(1:Int)=(↑y:Int)/\True)/\rK c l x x_1 x_2=zb5
 (zaT c) (zb5 (zaT c) (zdi l l.len) (0:Int) x) (↑x:Int) y/\True)
def zxr (c l:D) (x x0:Nat) (x_1:List D):Prop:=
 ((-9223372036854775808:Int)<=(↑x_1.length:Int)-(1:Int)/\(↑x_1.length:Int)-(1:Int)<(9223372036854775808:Int))/\(0:Int)<=(↑x_1.length:Int)-(1:Int)/\(↑x_1.length:Int)-
 (1:Int)<(↑x_1.length:Int)/\((↑x_1.length:Int)-(1:Int)).toNat<x_1.length/\(zad x_1 ((↑x_1.length:Int)-(1:Int)).toNat=D.nil->(0:Nat)+(1:Nat)<= [D.int ((zad (za0 c l)
 x).fld (1:Nat)).asInt].length/\(1:Nat)<=(8796093022208:Nat)/\(0:Int)<=(↑x_1.length:Int)-(1:Int)/\(↑x_1.length:Int)-(1:Int)<(↑x_1.length:Int)/\((↑x_1.length:Int)-(1:
 Int)).toNat<x_1.length/\True/\(0:Nat)=(0:Nat)/\(1:Nat)=(List.take (1:Nat) [D.int ((zad (za0 c l) x).fld (1:Nat)).asInt]).length/\True/\((-9223372036854775808:Int)<=(↑x:Int)
 +(1:Int)/\(↑x:Int)+(1:Int)<(9223372036854775808:Int))/\((∃(y:Nat),y=(0:Nat)/\l.len-y<l.len-x0/\((↑x:Int)+(1:Int)=(0:Int)/\False/\True)/\True)\/∃(y:Nat),
 ((0:Nat)<y/\y<=l.len)/\l.len-y<l.len-x0/\((↑x:Int)+(1:Int)=(↑y:Int)/\((0:Nat)=(0:Nat)/\x_1.length=(grL (zaT c) (za0 c l) y).length/\True)/\True)/\x_1.set
 ((↑x_1.length:Int)-(1:Int)).toNat (D.list (List.take (1:Nat) [D.int ((zad (za0 c l) x).fld (1:Nat)).asInt]))=grL (zaT c) (za0 c l) y/\True))/\(∀(r:List D),zad x_1 ((↑x_1.length
 :Int)-(1:Int)).toNat=D.list r->((↑x_1.length:Int)-(1:Int)).toNat<x_1.length/\r.length=(zad x_1 ((↑x_1.length:Int)-(1:Int)).toNat).len/\(∃(r:List D),zad x_1
 ((↑x_1.length:Int)-(1:Int)).toNat=D.list r)/\Nat.le (1:Nat) (1:Nat)/\(0:Nat)+(1:Nat)<= [D.int ((zad (za0 c l) x).fld (1:Nat)).asInt].length/\(0:Nat)+r.length<=(zad x_1
 ((↑x_1.length:Int)-(1:Int)).toNat).asList.length/\r.length+(1:Nat)<=(8796093022208:Nat)/\(0:Int)<=(↑x_1.length:Int)-(1:Int)/\(↑x_1.length:Int)-(1:Int)<(↑x_1.length:
 Int)/\((↑x_1.length:Int)-(1:Int)).toNat<(x_1.set ((↑x_1.length:Int)-(1:Int)).toNat (D.int (0:Int))).length/\True/\(0:Nat)=(0:Nat)/\r.length+(1:Nat)=(List.take r.length
 (zad x_1 ((↑x_1.length:Int)-(1:Int)).toNat).asList++List.take (1:Nat) [D.int ((zad (za0 c l) x).fld (1:Nat)).asInt]).length/\True/\((-9223372036854775808:Int)<=(↑x:Int)+(1:
 Int)/\(↑x:Int)+(1:Int)<(9223372036854775808:Int))/\((∃(y:Nat),y=(0:Nat)/\l.len-y<l.len-x0/\((↑x:Int)+(1:Int)=(0:Int)/\False/\True)/\True)\/∃(y:Nat),((0:
 Nat)<y/\y<=l.len)/\l.len-y<l.len-x0/\((↑x:Int)+(1:Int)=(↑y:Int)/\((0:Nat)=(0:Nat)/\x_1.length=(grL (zaT c) (za0 c l) y).length/\True)/\True)/\(x_1.set
 ((↑x_1.length:Int)-(1:Int)).toNat (D.int (0:Int))).set ((↑x_1.length:Int)-(1:Int)).toNat (D.list (List.take r.length (zad x_1 ((↑x_1.length:Int)-(1:Int)).toNat).asList++
 List.take (1:Nat) [D.int ((zad (za0 c l) x).fld (1:Nat)).asInt]))=grL (zaT c) (za0 c l) y/\True))/\∀(n:Int),zad x_1 ((↑x_1.length:Int)-(1:Int)).toNat=D.int n->False
theorem zBf:∀(g:D),zag (zoN (λ_=>none) D.nil D.nil) 3 (97:FuncId) [V.dat (23:TypeId) g] (V.dat (130:TypeId) (D.list (plL g g.len)))=(0<=(g.len:Int)/\(g.len:Int)<=(g.len:Int)/\(g.len:
Int)<=16777216/\(zoN (λ_=>none) D.nil D.nil).P.types[126].bytes*g.len<=281474976710656/\(∃(x:Nat),x.le g.len/\(0=(x:Int)/\True)/\List.replicate g.len (D.sct [D.sct [D.str [],D.str [],D.str [],
D.int 0,D.int 0,D.str [],D.bool (false=true),D.bool (false=true),D.nil],D.int 0])=plL g x++List.drop x (List.replicate g.len (D.sct [D.sct [D.str [],D.str [],D.str [],D.int 0,D.int 0,D.str [],D.bool
(false=true),D.bool (false=true),D.nil],D.int 0]))/\True)/\∀(x:Nat),x.le g.len->g.len-x<LIM/\((x:Int)<(g.len:Int)->0<=(x:Int)/\(x:Int)<(g.len:Int)/\0<=(x:Int)/\(x:Int)<(g.len
:Int)/\x<(plL g x++List.drop x (List.replicate g.len (D.sct [D.sct [D.str [],D.str [],D.str [],D.int 0,D.int 0,D.str [],D.bool (false=true),D.bool (false=true),D.nil],D.int 0]))).length/\fits64 ((x:
Int)+1)/\∃(y:Nat),y.le g.len/\g.len-y<g.len-x/\((x:Int)+1=(y:Int)/\True)/\(plL g x++List.drop x (List.replicate g.len (D.sct [D.sct [D.str [],D.str [],D.str [],D.int 0,D.int 0,D.str [],
D.bool (false=true),D.bool (false=true),D.nil],D.int 0]))).set x (D.sct [gD (gAt (el g x)),D.int (x:Int)])=plL g y++List.drop y (List.replicate g.len (D.sct [D.sct [D.str [],D.str [],D.str [],D.int 0,
D.int 0,D.str [],D.bool (false=true),D.bool (false=true),D.nil],D.int 0]))/\True)/\(((x:Int)<(g.len:Int)->False)->0+g.len<=(plL g x++List.drop x (List.replicate g.len (D.sct [D.sct [D.str [],
D.str [],D.str [],D.int 0,D.int 0,D.str [],D.bool (false=true),D.bool (false=true),D.nil],D.int 0]))).length/\D.list (List.take g.len (plL g x++List.drop x (List.replicate g.len (D.sct [D.sct [D.str [],
D.str [],D.str [],D.int 0,D.int 0,D.str [],D.bool (false=true),D.bool (false=true),D.nil],D.int 0]))))=D.list (plL g g.len))):=by intros;kernel_rfl
theorem zzj:∀(l c:D),zag (zxl or0) 7 (96:FuncId) [V.dat (22:TypeId) c,V.dat (130:TypeId) l] (V.dat (57:TypeId) D.nil)=(c.len<=100/\(∃(x:Unit),True/\((0:Int)=0/\True)/\(True/\True)/\
True)/\∀(x:Unit),True->0<LIM/\(0<(l.len:Int)->(0:Int)<=0/\0<(l.len:Int)/\0+1<= [pl (el l 0)].length/\(1:Nat)<=16777216/\fits64 (0+1)/\∃(y:Unit),True/\(0:Nat)<0/\((0:Int)+1=
0/\True)/\(False/\True)/\True)/\((0<(l.len:Int)->False)->(∃(x:Unit),True/\((0:Int)=0/\(20:Int)=20/\True)/\True)/\∀(x:Unit),True->0<LIM/\((20:Int)<=0->fits64 (0+1)/\(∃(x:
Unit),True/\((0:Int)+1=1/\True)/\True)/\∀(x:Unit),True->0<LIM/\((1:Int)<20->(∃(x:Unit),False/\True/\True)/\∀(x:Unit),False->0<LIM/\False)/\(((1:Int)<20->False)->fits64 (20+
20)/\∃(y:Unit),True/\(0:Nat)<0/\((20:Int)=0/\(20:Int)+20=20/\True)/\True))/\(((20:Int)<=0->False)->fits64 (0+1)/\(∃(x:Unit),True/\((0:Int)+1=1/\True)/\True)/\∀(x:Unit),
True->0<LIM/\((1:Int)<0->(∃(x:Unit),False/\True/\True)/\∀(x:Unit),False->0<LIM/\False)/\(((1:Int)<0->False)->(∃(x:Unit),True/\((20:Int)=20/\True)/\True)/\∀(x:Unit),True->0
<LIM/\((20:Int)<0->fits64 (2*20)/\(∃(x:Unit),False/\True/\True)/\∀(x:Unit),False->0<LIM/\False)/\(((20:Int)<0->False)->(∃(x:Unit),True/\((0:Int)=0/\True/\True)/\True)/\∀(x:
Unit),True->0<LIM/\((0:Int)<0->False)/\(((0:Int)<0->False)->D.nil=D.nil)))))):=by intros;kernel_rfl
theorem zBe:∀(c l:D),zag (zoN or0 c l) 7 (96:FuncId) [V.dat (22:TypeId) c,V.dat (130:TypeId) l] (V.dat (57:TypeId) (grD c l))=(c.len<=100/\((((∃(x:Nat),x=0/\(0=(x:Int)/\True)/\(True/\
True)/\True)\/∃(x:Nat),(0<x/\x<=l.len)/\(0=(x:Int)/\True)/\(False/\True)/\False/\True)/\(∀(x:Nat),x=0->l.len-x<LIM/\((x:Int)<(l.len:Int)->0<=(x:Int)/\(x:Int)<(l.len:Int)
/\0+1<= [pl (el l x)].length/\(1:Nat)<=16777216/\fits64 ((x:Int)+1)/\((∃(y:Nat),y=0/\l.len-y<l.len-x/\((x:Int)+1=(y:Int)/\True)/\(False/\True)/\True)\/∃(y:Nat),(0<y/\y<=
l.len)/\l.len-y<l.len-x/\((x:Int)+1=(y:Int)/\True)/\(((0:Nat)=0/\1=y/\True)/\True)/\List.take 1 [pl (el l x)]=zdi l y/\True))/\(((x:Int)<(l.len:Int)->False)->∃(x:Unit),True/\
(False/\True)/\False/\True))/\∀(x:Nat),0<x/\x<=l.len->l.len-x<LIM/\((x:Int)<(l.len:Int)->0<=(x:Int)/\(x:Int)<(l.len:Int)/\0+1<= [pl (el l x)].length/\0+x<=(zdi l x).length/\x+
1<=16777216/\fits64 ((x:Int)+1)/\((∃(y:Nat),y=0/\l.len-y<l.len-x/\((x:Int)+1=(y:Int)/\True)/\(False/\True)/\True)\/∃(y:Nat),(0<y/\y<=l.len)/\l.len-y<l.len-x/\((x:Int)+
1=(y:Int)/\True)/\(((0:Nat)=0/\x+1=y/\True)/\True)/\List.take x (zdi l x)++List.take 1 [pl (el l x)]=zdi l y/\True))/\(((x:Int)<(l.len:Int)->False)->∃(x_1:Unit),True/\(((0:Nat)=
0/\x=l.len/\True)/\True)/\zdi l x=zdi l l.len/\True))/\∀(x:Unit),True->(∃(x:Nat),(x=0\/x=20/\(zdi l l.len).length=20)/\(0=(x:Int)/\20=(x:Int)+20/\True)/\zdi l l.len=zb5
(zaT c) (zdi l l.len) 0 x/\True)/\∀(x:Nat),x=0\/x=20/\(zdi l l.len).length=20->40-x<LIM/\((x:Int)+20<=(l.len:Int)->fits64 ((x:Int)+1)/\(∃(x_1:Nat),((x:Int)=0/\1<=x_1/\(x_1:
Int)<=max ((x:Int)+20) 1\/((x:Int)=0->False)/\(x_1:Int)=(x:Int)+1/\(x:Int)+20<=(x:Int))/\((x:Int)+1=(x_1:Int)/\True)/\zb5 (zaT c) (zdi l l.len) 0 x=rA c l x x_1/\True)/\∀
(x_1:Nat),(x:Int)=0/\1<=x_1/\(x_1:Int)<=max ((x:Int)+20) 1\/((x:Int)=0->False)/\(x_1:Int)=(x:Int)+1/\(x:Int)+20<=(x:Int)->((x:Int)+20).toNat-x_1<LIM/\((x_1:Int)<(x:
Int)+20->zyo c l x x_1 ((x:Int)+20))/\(((x_1:Int)<(x:Int)+20->False)->fits64 ((x:Int)+20+20)/\∃(y:Nat),(y=0\/y=20/\(zdi l l.len).length=20)/\40-y<40-x/\((x:Int)+20=(y
:Int)/\(x:Int)+20+20=(y:Int)+20/\True)/\rA c l x x_1=zb5 (zaT c) (zdi l l.len) 0 y/\True))/\(((x:Int)+20<=(l.len:Int)->False)->fits64 ((x:Int)+1)/\(∃(x_1:Nat),((x:Int)=0/\1<=
x_1/\(x_1:Int)<=max (l.len:Int) 1\/((x:Int)=0->False)/\(x_1:Int)=(x:Int)+1/\(l.len:Int)<=(x:Int))/\((x:Int)+1=(x_1:Int)/\True)/\zb5 (zaT c) (zdi l l.len) 0 x=rA c l x x_1/\
True)/\∀(x_1:Nat),(x:Int)=0/\1<=x_1/\(x_1:Int)<=max (l.len:Int) 1\/((x:Int)=0->False)/\(x_1:Int)=(x:Int)+1/\(l.len:Int)<=(x:Int)->l.len-x_1<LIM/\((x_1:Int)<(l.len:Int)->
zyo c l x x_1 (l.len:Int))/\(((x_1:Int)<(l.len:Int)->False)->(∃(x:Unit),True/\((20:Int)=20/\True)/\True)/\∀(x_2:Unit),True->0<LIM/\(20<(l.len:Int)->fits64 (2*20)/\(∃(x:Unit),
False/\True/\True)/\∀(x:Unit),False->0<LIM/\False)/\((20<(l.len:Int)->False)->∃(x_3:Unit),True/\(((0:Nat)=0/\l.len=l.len/\True)/\True)/\rA c l x x_1=za0 c l/\True))))/\∀(x:Unit),
True->((∃(x:Nat),x=0/\((0:Int)=0/\True/\True)/\True)\/∃(x:Nat),(0<x/\x<=l.len)/\(0=(x:Int)/\False/\True)/\False/\True)/\(∀(x:Nat),x=0->l.len-x<LIM/\(0<(l.len:Int)->(0:
Int)<=0/\0<(l.len:Int)/\0<(za0 c l).length/\((((0:Int)=0->False)->fits64 (0-1)/\(0:Int)<=0-1/\0-1<(l.len:Int)/\((0:Int)-1).toNat<(za0 c l).length/\okT c (zad (za0 c l) ((0:
Int)-1).toNat) (zad (za0 c l) 0)/\((cmT c (zad (za0 c l) ((0:Int)-1).toNat) (zad (za0 c l) 0)=0->False)->0+1<= [D.nil].length/\(1:Nat)<=16777216/\∃(x:List D),(x=zeb (zaT c) (za0 c l) [] 0
/\0<x.length)/\(((0:Nat)=0/\1=x.length/\True)/\True)/\(List.take 1 [D.nil]=x/\zdl (List.take 1 [D.nil]))/\True)/\(((cmT c (zad (za0 c l) ((0:Int)-1).toNat) (zad (za0 c l) 0)=0->False)->
False)->∃(x:List D),(x=zeb (zaT c) (za0 c l) [] 0/\0<x.length)/\(False/\True)/\False/\True))/\((0:Int)=0->0+1<= [D.nil].length/\(1:Nat)<=16777216/\∃(x:List D),(x=zeb (zaT c) (za0 c
l) [] 0/\0<x.length)/\(((0:Nat)=0/\1=x.length/\True)/\True)/\(List.take 1 [D.nil]=x/\zdl (List.take 1 [D.nil]))/\True))/\∀(x_1:List D),x_1=zeb (zaT c) (za0 c l) [] 0/\0<x_1.length->zxr
c l 0 x x_1)/\((0<(l.len:Int)->False)->D.nil=grD c l))/\∀(x:Nat),0<x/\x<=l.len->l.len-x<LIM/\((x:Int)<(l.len:Int)->0<=(x:Int)/\(x:Int)<(l.len:Int)/\x<(za0 c l).length/\((((x
:Int)=0->False)->fits64 ((x:Int)-1)/\0<=(x:Int)-1/\(x:Int)-1<(l.len:Int)/\((x:Int)-1).toNat<(za0 c l).length/\okT c (zad (za0 c l) ((x:Int)-1).toNat) (zad (za0 c l) x)/\((cmT c
(zad (za0 c l) ((x:Int)-1).toNat) (zad (za0 c l) x)=0->False)->0+1<= [D.nil].length/\(0:Nat)<1/\zdl (List.take 1 [D.nil])/\(0:Nat)=0/\(grL (zaT c) (za0 c l) x).length=(grL (zaT c) (za0
c l) x).length/\(grL (zaT c) (za0 c l) x).length+1<=16777216/\∃(x_1:List D),(x_1=zeb (zaT c) (za0 c l) (grL (zaT c) (za0 c l) x) x/\0<x_1.length)/\(((0:Nat)=0/\(grL (zaT c) (za0 c l)
x).length+1=x_1.length/\True)/\True)/\grL (zaT c) (za0 c l) x++List.take 1 [D.nil]=x_1/\True)/\(((cmT c (zad (za0 c l) ((x:Int)-1).toNat) (zad (za0 c l) x)=0->False)->False)->∃(x_1:List D),
(x_1=zeb (zaT c) (za0 c l) (grL (zaT c) (za0 c l) x) x/\0<x_1.length)/\(((0:Nat)=0/\(grL (zaT c) (za0 c l) x).length=x_1.length/\True)/\True)/\grL (zaT c) (za0 c l) x=x_1/\True))/\((x:Int)
=0->0+1<= [D.nil].length/\(0:Nat)<1/\zdl (List.take 1 [D.nil])/\(0:Nat)=0/\(grL (zaT c) (za0 c l) x).length=(grL (zaT c) (za0 c l) x).length/\(grL (zaT c) (za0 c l) x).length+1<=16777216/\
∃(x_1:List D),(x_1=zeb (zaT c) (za0 c l) (grL (zaT c) (za0 c l) x) x/\0<x_1.length)/\(((0:Nat)=0/\(grL (zaT c) (za0 c l) x).length+1=x_1.length/\True)/\True)/\grL (zaT c) (za0 c l) x++
List.take 1 [D.nil]=x_1/\True))/\∀(x_1:List D),x_1=zeb (zaT c) (za0 c l) (grL (zaT c) (za0 c l) x) x/\0<x_1.length->zxr c l x x x_1)/\(((x:Int)<(l.len:Int)->False)->0+(grL (zaT c) (za0 c
l) x).length<=(grL (zaT c) (za0 c l) x).length/\zfI (grL (zaT c) (za0 c l) x)/\(zai (zoN or0 c l).P 34=true/\zay (zoN or0 c l).P 34 1=true)/\D.list (List.take (grL (zaT c) (za0 c l) x).length
(grL (zaT c) (za0 c l) x))=grD c l)):=by intros;kernel_rfl
theorem zcq (g:D) (n:Nat):(plL g n).length=n:=by unfold plL;rw [List.length_map,List.length_range]
theorem zmj (g:D) (x:Nat):plL g (x+1)=plL g x++ [plG g x]:=by unfold plL;rw [List.range_succ,List.map_append];rfl
theorem zio {A B:List D} {n x:Nat} {z d:D} (hA:A.length=x) (hx:x<n):(A++(List.replicate n z).drop x).set x d=A++ [d]++(List.replicate n z).drop (x+1):=by
 rw [List.set_append_right _ _ (by omega),hA,Nat.sub_self,List.drop_replicate,List.drop_replicate,show n-x=(n-(x+1))+1 by omega,List.replicate_succ,List.set_cons_zero,List.append_assoc];rfl
theorem s97 (g:D) (h:g.len<=100):zag (zoN (λ_=>none) .nil .nil) 3 97 [.dat 23 g] (.dat 130 (.list (plL g g.len))):=by
 rw [zBf]
 have hb:(zoN (λ_=>none) D.nil D.nil).P.types[(126:Nat)].bytes=120:=by kernel_rfl
 refine ⟨by omega,by omega,by omega,by rw [hb];omega,⟨0,Nat.zero_le _,And.intro rfl trivial,by rfl,trivial⟩,λx hx=>⟨zia h,λhlt=> ?_,λhge=> ?_⟩⟩
 .have hl:(plL g x).length=x:=zcq g x
  refine ⟨by omega,hlt,by omega,hlt, ?_,⟨by omega,by omega⟩,x+1,(by show x+1<=g.len;omega),by omega,And.intro (by omega) trivial, ?_,trivial⟩
  .rw [List.length_append,hl,List.length_drop,List.length_replicate];omega
  .rw [zio (B:= []) hl (by omega),zmj];rfl
 .have e:x=g.len:=zcc hx hge
  subst e
  refine ⟨?_, ?_⟩
  .rw [List.length_append,zcq];omega
  .rw [List.take_append_of_le_length (by rw [zcq];omega),List.take_of_length_le (by rw [zcq];omega)]
theorem zAw (c l:D) (hc:zaE c) (h:l.len=0):zag (zxl or0) 7 96 [.dat 22 c,.dat 130 l] (.dat 57 .nil):=by
 rw [zzj]
 have L:(0:Nat)<LIM:=by unfold LIM;omega
 have T:True:=trivial
 refine ⟨hc.out.1,⟨(),T,⟨rfl,T⟩,⟨T,T⟩,T⟩,λ_ _=>⟨L,λk=>by omega,λ_=>⟨⟨(),T,⟨rfl,rfl,T⟩,T⟩,λ_ _=>⟨L,λk=>by omega,λ_=>⟨⟨by omega,by omega⟩,⟨(),T,⟨rfl,T⟩,T⟩,λ_ _=>⟨L,λk=>by omega,λ_=>⟨⟨(),T,⟨rfl,T⟩,T⟩,λ_ _=>⟨L,λk=>by omega,λ_=>⟨⟨(),T,⟨rfl,T,T⟩,T⟩,λ_ _=>⟨L,λk=>by omega,λ_=>rfl⟩⟩⟩⟩⟩⟩⟩⟩⟩⟩
structure okP (p:D):Prop where
 out:pl p=p/\((p.fld 0).fld (Nat.succ 6).succ).len<=100
theorem zeU (l:D) (n:Nat):(zdi l n).length=n:=by unfold zdi;rw [List.length_map,List.length_range]
theorem zqj (l:D) (x:Nat):zdi l (x+1)=zdi l x++ [pl (el l x)]:=by unfold zdi;rw [List.range_succ,List.map_append];rfl
theorem zqi {l:D} (h:tgP l):∀p,p∈zdi l l.len->okP p:=λp hp=>by
 unfold zdi at hp
 obtain ⟨i,hi,rfl⟩:=List.mem_map.1 hp
 exact ⟨rfl,h.out i (List.mem_range.1 hi)⟩
theorem zme {l:List D} {i:Nat} (h:i<l.length):zad l i∈l:=List.mem_of_getElem? (zb3 h)
theorem zst {f:D->D->Int} {R:List D} {a:Int} {i:Nat} {p:D} (h:p∈zb5 f R a i):p∈R:=by
 unfold zb5 at h;split at h
 .rcases List.mem_append.1 h with h|h
  .exact List.mem_of_mem_take ((zeX _ _).mem_iff.1 h)
  .exact List.mem_of_mem_drop h
 .exact h
theorem zsv {Q:List D} {i j:Nat} {p:D} (hj:j<=i) (hi:i<Q.length) (h:p∈zim Q i j):p∈Q:=by
 obtain ⟨k,hk⟩:=List.getElem?_of_mem h
 rw [zdO Q hj hi] at hk
 split at hk
 .exact List.mem_of_getElem? hk
 .split at hk
  .exact List.mem_of_getElem? hk
  .split at hk<;>exact List.mem_of_getElem? hk
theorem zof {c:D} (hv:(zbm c).2=0) (P Q:D):cmT c P Q=zaT c P Q:=by
 unfold cmT zxB zaT zwJ
 show (zb9 _ (zaJ c c.len).length 0).snd=_
 rw [za4,<-zqq]
 congr 1
 exact zfn (n:=c.len) (λk hk=>by rw [zf9 hk];exact ztA hv hk _ _ _ _) c.len 0 (by omega)
theorem ztr {c P Q:D} (hc:zaE c) (hv:(zbm c).2=0) (hP:okP P) (hQ:okP Q):okT c P Q:=
 ⟨⟨by rw [za4];exact hc.out.1,λk hk=>by rw [za4] at hk;rw [zf9 hk];exact zmg hc hv hk⟩,hP.out.2,hQ.out.2⟩
theorem zhH {x:Nat}:((x:Int)-1).toNat=x-1:=by omega
theorem ztk {c l:D} (hc:zaE c) (hv:(zbm c).2=0) (h20:l.len<=20) (ht:tgP l) {x i:Nat} {b:Int} (hb:b<=l.len) (hx:x=0) (h1:1<=i) (hi:(i:Int)<b):zyo c l x i b:=by
 subst hx
 have hil:i<l.len:=by omega
 have hR:(zdi l l.len).length=l.len:=zeU l l.len
 have eQ:rA c l 0 i=zb5 (zaT c) (zdi l l.len) 0 i:=by
  show zb5 _ (zb5 _ _ 0 0) 0 i=_
  rw [zqc]
 have hQl:(rA c l 0 i).length=l.len:=by rw [eQ,zmo,hR]
 have hiQ:i<(rA c l 0 i).length:=by omega
 have okQ:∀p,p∈rA c l 0 i->okP p:=λp hp=>by rw [eQ] at hp;exact zqi ht p (zst hp)
 have okK:∀j,j<=i->∀k,k<l.len->okP (zad (rK c l 0 i j) k):=λj hj k hk=>okQ _ (zsv hj hiQ (zme (by show k<(zim _ _ _).length;rw [zin _ hj hiQ];omega)))
 have hKl:∀j,j<=i->(rK c l 0 i j).length=l.len:=λj hj=>by show (zim _ _ _).length=_;rw [zin _ hj hiQ,hQl]
 have hend:∀j,zeC (zaT c) (zad (rA c l 0 i) i) (List.take i (rA c l 0 i)) i=j->rK c l 0 i j=zb5 (zaT c) (zb5 (zaT c) (zdi l l.len) 0 0) 0 (i+1):=λj hj=>by
  show zim _ _ _=_
  rw [zqc]
  rw [eQ] at hj⊢
  exact zqf (by omega) hj
 have hPl:(List.take i (rA c l 0 i)).length=i:=by rw [List.length_take];omega
 have hPn:∀k,k<i->zad (List.take i (rA c l 0 i)) k=zad (rA c l 0 i) k:=λk hk=>by unfold zad;rw [List.getElem?_take_of_lt hk]
 have step:∀(j:Nat),zeC (zaT c) (zad (rA c l 0 i) i) (List.take i (rA c l 0 i)) i=j->(((-9223372036854775808:Int)<=(↑i:Int)+(1:Int)/\(↑i:Int)+(1:Int)<(9223372036854775808:Int))/\∃(y:Nat),(((0:Nat):Int)=(0:Int)/\(1:Nat)<=y/\(↑y:Int)<=max b (1:Int)\/(((0:Nat):Int)=(0:Int)->False)/\(↑y:Int)=((0:Nat):Int)+(1:Int)/\b<=((0:Nat):Int))/\b.toNat-y<b.toNat-i/\((↑i:Int)+(1:Int)=(↑y:Int)/\True)/\rK c l 0 i j=zb5 (zaT c) (zb5 (zaT c) (zdi l l.len) (0:Int) 0) ((0:Nat):Int) y/\True):=λj hj=>
  ⟨⟨by omega,by omega⟩,i+1,.inl ⟨rfl,by omega,by omega⟩,by omega,⟨by omega,trivial⟩,hend j hj,trivial⟩
 refine ⟨⟨i,⟨rfl,Nat.le_refl _,hiQ,rfl⟩,⟨rfl,trivial⟩,(zsx _ hiQ).symm,trivial⟩,λj hj=>⟨by unfold LIM;omega,λhlt=> ?_,λhge=> ?_⟩⟩
 .obtain ⟨_,hji,_,hcut⟩:=hj
  have h0:0<j:=by omega
  have e1:zad (rK c l 0 i j) j=zad (rA c l 0 i) i:=zve _ hji hiQ
  have e2:zad (rK c l 0 i j) (j-1)=zad (rA c l 0 i) (j-1):=zsw _ h0 hji hiQ
  have o1:=okK j hji j (by omega)
  have o2:=okK j hji (j-1) (by omega)
  have p1:=o1.out.1
  have p2:=o2.out.1
  have lk:=hKl j hji
  rw [zhH]
  refine ⟨by omega,by omega,by omega,⟨by omega,by omega⟩,by omega,by omega,by omega,ztr hc hv o1 o2,λhneg=> ?_,λhpos=> ?_⟩
  .rw [zof hv,e1,e2] at hneg
   have hc1:=zv8 (f:=zaT c) (e:=zad (rA c l 0 i) i) (P:=List.take i (rA c l 0 i)) h0 (by omega) (by rw [hPn _ (by omega)];exact hneg)
   refine ⟨⟨by omega,by omega⟩,⟨by omega,by omega⟩,by omega,by omega,by omega,by omega,by omega,by omega,by omega,by omega,by omega,by omega,by omega, ?_,⟨by omega,by omega⟩,j-1,⟨rfl,by omega,hiQ,hc1.trans hcut⟩,by omega,⟨by omega,trivial⟩, ?_,trivial⟩
   .rw [List.length_set];omega
   .rw [p1,p2,e1,e2];exact zqh _ h0 hji hiQ
  .have hpos:¬cmT c (zad (rK c l 0 i j) j) (zad (rK c l 0 i j) (j-1))<0:=hpos
   rw [zof hv,e1,e2] at hpos
   have hc1:=zrM (f:=zaT c) (e:=zad (rA c l 0 i) i) (P:=List.take i (rA c l 0 i)) h0 (by omega) (by rw [hPn _ (by omega)];exact hpos)
   exact step j (hcut.symm.trans hc1)
 .obtain ⟨_,hji,_,hcut⟩:=hj
  have h0:j=0:=by have h:¬(((0:Nat):Int)<(j:Int)):=hge;omega
  subst h0
  exact step 0 (hcut.symm.trans rfl)
theorem zf6 (c l:D):(za0 c l).length=l.len:=by unfold za0;rw [zgQ,zeU]
theorem zqx {c l:D} (ht:tgP l):∀k,k<l.len->okP (zad (za0 c l) k):=λk hk=>zqi ht _ ((zeX _ _).mem_iff.1 (zme (Nat.lt_of_lt_of_eq hk (zf6 c l).symm)))
theorem zrr {f:D->D->Int} {Q R:List D} {x:Nat} (h:x=0\/f (zad Q (x-1)) (zad Q x)≠0):zeb f Q R x=R++ [.nil]:=by unfold zeb;rw [if_pos ⟨h⟩]
theorem zv2 {f:D->D->Int} {Q R:List D} {x:Nat} (h0:x≠0) (h:f (zad Q (x-1)) (zad Q x)=0):zeb f Q R x=R:=by unfold zeb;rw [if_neg (λk=>k.out.elim h0 (λk=>k h))]
theorem zpk (f:D->D->Int) (Q:List D) (x:Nat):zfI (grL f Q x):=⟨λn hn=>by
 unfold grL at hn
 obtain ⟨g,_,hg⟩:=List.mem_map.1 hn
 cases hg⟩
theorem zpj (f:D->D->Int) (Q:List D) (x:Nat):(grL f Q x).length<=Q.length:=by
 unfold grL
 rw [List.length_map]
 have hn:=zj1 (f:=f) (Q.take x)
 have hf:=congrArg List.length (zcA (f:=f) (Q.take x))
 have:∀o:List (List D),(∀g,g∈o->g≠ [])->o.length<=o.flatten.length:=by
  intro o
  induction o with
  |nil=>intro _;exact Nat.le_refl _
  |cons g o ih=>
   intro h
   have h1:=List.length_pos_iff.2 (h g (List.mem_cons_self ..))
   have h2:=ih (λg hg=>h g (List.mem_cons_of_mem _ hg))
   rw [List.flatten_cons,List.length_append,List.length_cons];omega
 have:=this _ hn
 rw [hf,List.length_take] at this
 omega
theorem zt0 {d:D} {r:List D} (h:d= .list r):d.asList=r:=by rw [h];rfl
theorem zej {l:List D} (h:0<l.length):D.list l=zbC l:=by
 cases l with
 |nil=>cases h
 |cons a l=>rfl
theorem znb {L:List D} (h:0<L.length):((L.length:Int)-1).toNat=L.length-1:=by omega
theorem ztg {c l:D} (h20:l.len<=20) {x x0:Nat} (hx:x<l.len) (e0:x0=x) {L:List D} (hL:L=zeb (zaT c) (za0 c l) (grL (zaT c) (za0 c l) x) x/\0<L.length):zxr c l x x0 L:=by
 subst e0
 obtain ⟨hL,h0⟩:=hL
 have hS:=zf6 c l
 obtain ⟨_,g2,g3,g4,g5⟩:=zkF (f:=zaT c) (Q:=za0 c l) (x:=x0) (by omega)
 rw [<-hL] at g2 g3 g4 g5
 have hle:=zpj (zaT c) (za0 c l) (x0+1)
 unfold zxr
 rw [znb h0]
 have T:True:=trivial
 have one:List.take 1 [D.int ((zad (za0 c l) x0).fld 1).asInt]= [D.int ((zad (za0 c l) x0).fld 1).asInt]:=rfl
 refine ⟨⟨by omega,by omega⟩,by omega,by omega,by omega,λhn=> ?_,λr hr=> ?_,λn hn=>g5 n hn⟩
 .exact ⟨Nat.le_refl _,by omega,by omega,by omega,by omega,T,rfl,rfl,T,⟨by omega,by omega⟩,.inr ⟨x0+1,⟨by omega,by omega⟩,by omega,⟨by omega,⟨rfl,g2,T⟩,T⟩,g3 hn,T⟩⟩
 .have hrl:r.length<=20\/20<r.length:=by omega
  have har:(zad L (L.length-1)).asList=r:=zt0 hr
  have hlen:(zad L (L.length-1)).len=r.length:=by rw [hr];rfl
  have hbig:r.length+1<=l.len:=by
   have e:=g4 r hr
   have hin:(r++ [D.int ((zad (za0 c l) x0).fld 1).asInt]).length<=l.len:=by
    have hm:D.list (r++ [D.int ((zad (za0 c l) x0).fld 1).asInt])∈grL (zaT c) (za0 c l) (x0+1):=by
     rw [<-e];exact List.mem_of_getElem? (i:=L.length-1) (by rw [List.getElem?_set,if_pos rfl,if_pos (by omega)])
    unfold grL at hm
    obtain ⟨g,hg,hgl⟩:=List.mem_map.1 hm
    unfold zjO at hgl
    have hgl:=D.list.inj hgl
    rw [<-hgl,List.length_map]
    have hf:=congrArg List.length (zcA (f:=zaT c) ((za0 c l).take (x0+1)))
    rw [List.length_take] at hf
    have:=List.length_flatten (L:=zc5 (zaT c) ((za0 c l).take (x0+1)))
    have hsub:g.length<=(zc5 (zaT c) ((za0 c l).take (x0+1))).flatten.length:=(List.sublist_flatten_of_mem hg).length_le
    omega
   rw [List.length_append] at hin
   exact hin
  rw [har]
  refine ⟨by omega,hlen.symm,⟨r,hr⟩,Nat.le_refl _,Nat.le_refl _,by omega,by omega,by omega,by omega,by rw [List.length_set];omega,T,rfl, ?_,T,⟨by omega,by omega⟩,.inr ⟨x0+1,⟨by omega,by omega⟩,by omega,⟨by omega,⟨rfl,g2,T⟩,T⟩, ?_,T⟩⟩
  .rw [List.take_of_length_le (Nat.le_refl _),one,List.length_append];rfl
  .rw [List.take_of_length_le (Nat.le_refl _),one,List.set_set];exact g4 r hr
theorem s96 (c l:D) (hc:zaE c) (hv:(zbm c).2=0) (h0:0<l.len) (h20:l.len<=20) (ht:tgP l):zag (zoN or0 c l) 7 96 [.dat 22 c,.dat 130 l] (.dat 57 (grD c l)):=by
 rw [zBe]
 have T:True:=trivial
 have L:∀n:Nat,n<=1000->n<LIM:=λn hn=>by unfold LIM;omega
 have hR:(zdi l l.len).length=l.len:=zeU l l.len
 have hS:=zf6 c l
 have A0:zb5 (zaT c) (zdi l l.len) 0 0=zdi l l.len:=zqc _ _
 refine ⟨hc.out.1,⟨⟨.inl ⟨0,rfl,⟨rfl,T⟩,⟨T,T⟩,T⟩,λx hx=>⟨L _ (by omega),λhlt=> ?_,λhge=> ?_⟩,λx hx=>⟨L _ (by omega),λhlt=> ?_,λhge=> ?_⟩⟩,λ_ _=>⟨?_,λa ha=>⟨L _ (by omega),λhle=> ?_,λhgt=> ?_⟩⟩⟩,λ_ _=>⟨.inl ⟨0,rfl,⟨rfl,T,T⟩,T⟩,λx hx=>⟨L _ (by omega),λhlt=> ?_,λhge=> ?_⟩,λx hx=>⟨L _ (by omega),λhlt=> ?_,λhge=> ?_⟩⟩⟩
 .subst hx
  exact ⟨by omega,hlt,Nat.le_refl _,by omega,⟨by omega,by omega⟩,.inr ⟨1,⟨by omega,by omega⟩,by omega,⟨rfl,T⟩,⟨⟨rfl,rfl,T⟩,T⟩,rfl,T⟩⟩
 .exact absurd h0 (by have h:¬((x:Int)<l.len):=hge;omega)
 .refine ⟨by omega,hlt,Nat.le_refl _,by rw [zeU];omega,by omega,⟨by omega,by omega⟩,.inr ⟨x+1,⟨by omega,by omega⟩,by omega,⟨by omega,T⟩,⟨⟨rfl,rfl,T⟩,T⟩, ?_,T⟩⟩
  rw [List.take_of_length_le (by rw [zeU];omega),zqj];rfl
 .have e:x=l.len:=zcc hx.2 hge
  exact ⟨(),T,⟨⟨rfl,e,T⟩,T⟩,by rw [e],T⟩
 .exact ⟨0,.inl rfl,⟨rfl,rfl,T⟩,A0.symm,T⟩
 .have ha0:a=0:=by omega
  subst ha0
  refine ⟨⟨by omega,by omega⟩,⟨1,.inl ⟨rfl,by omega,by omega⟩,⟨rfl,T⟩, ?_,T⟩,λi hi=>⟨L _ (by omega),λhlt=> ?_,λhge=> ?_⟩⟩
  .show _=zb5 _ (zb5 _ _ 0 0) 0 1
   rw [A0,zqd]
  .exact ztk hc hv h20 ht (by omega) rfl (by omega) hlt
  .have hge:¬((i:Int)<((0:Nat):Int)+20):=hge
   have hi20:i=20:=by omega
   refine ⟨⟨by omega,by omega⟩,20,.inr ⟨rfl,by omega⟩,by omega,⟨by omega,by omega,T⟩, ?_,T⟩
   rw [hi20]
   show zb5 _ (zb5 _ _ 0 0) 0 20=_
   rw [A0]
 .have hgt:¬((a:Int)+20<=(l.len:Int)):=hgt
  refine ⟨⟨by omega,by omega⟩,⟨a+1, ?_,⟨by omega,T⟩, ?_,T⟩,λi hi=>⟨L _ (by omega),λhlt=> ?_,λhge=> ?_⟩⟩
  .rcases ha with h|h
   .exact .inl ⟨by omega,by omega,by omega⟩
   .exact .inr ⟨(λk=>by omega),by omega,by omega⟩
  .rcases ha with h|h
   .subst h
    show _=zb5 _ (zb5 _ _ 0 0) 0 1
    rw [A0,zqd]
   .show _=zb5 _ (zb5 _ _ 0 a) a (a+1)
    rw [zty (a:=(a:Int)) (by omega)]
  .exact ztk hc hv h20 ht (by omega) (by omega) (by omega) hlt
  .have hge:¬((i:Int)<(l.len:Int)):=hge
   refine ⟨⟨(),T,⟨rfl,T⟩,T⟩,λ_ _=>⟨L _ (by omega),λk=>by omega,λ_=>⟨(),T,⟨⟨rfl,rfl,T⟩,T⟩, ?_,T⟩⟩⟩
   rcases ha with h|h
   .subst h
    show zb5 _ (zb5 _ _ 0 0) 0 i=_
    rw [A0,zmn _ _ (by omega)];rfl
   .show zb5 _ (zb5 _ _ 0 a) a i=_
    rw [zty (a:=(a:Int)) (by omega),zmn _ _ (by omega)];rfl
 .subst hx
  have hb:zeb (zaT c) (za0 c l) [] 0= [.nil]:=zrr (.inl rfl)
  refine ⟨by omega,hlt,by omega,⟨(λk=>absurd rfl k),λ_=>⟨Nat.le_refl _,by omega,[.nil],⟨hb.symm,Nat.zero_lt_one⟩,⟨⟨rfl,rfl,T⟩,T⟩,⟨rfl,⟨λd hd=>by simpa using hd⟩⟩,T⟩⟩,λQ hQ=> ?_⟩
  exact ztg h20 h0 rfl hQ
 .exact absurd h0 (by have h:¬((0:Int)<l.len):=hge;omega)
 .have o1:=zqx (c:=c) ht x (by omega)
  have o2:okP (zad (za0 c l) ((x:Int)-1).toNat):=zqx (c:=c) ht _ (by omega)
  have hgl:=zpj (zaT c) (za0 c l) x
  have e1:List.take 1 [D.nil]= [D.nil]:=rfl
  refine ⟨by omega,hlt,by omega,⟨(λ_=>⟨⟨by omega,by omega⟩,by omega,by omega,by omega,ztr hc hv o2 o1,(λhne=>⟨Nat.le_refl _,Nat.zero_lt_one,⟨λd hd=>by simpa using hd⟩,rfl,rfl,by omega,_,⟨rfl, ?_⟩,⟨⟨rfl, ?_,T⟩,T⟩, ?_,T⟩),λheq=>⟨_,⟨rfl, ?_⟩,⟨⟨rfl, ?_,T⟩,T⟩, ?_,T⟩⟩),λk=>by omega⟩,λQ hQ=>ztg h20 (by omega) rfl hQ⟩
  all_goals
   rw [zof hv,zhH] at*
  .rw [zrr (.inr hne),List.length_append];exact Nat.succ_pos _
  .rw [zrr (.inr hne),List.length_append];rfl
  .rw [zrr (.inr hne)];rfl
  .exact (zkF (f:=zaT c) (Q:=za0 c l) (by omega)).1
  .rw [zv2 (by omega) (Classical.byContradiction heq)]
  .rw [zv2 (by omega) (Classical.byContradiction heq)]
 .have e:x=l.len:=zcc hx.2 hge
  refine ⟨by omega,zpk _ _ _,⟨by kernel_rfl,by kernel_rfl⟩, ?_⟩
  rw [List.take_of_length_le (Nat.le_refl _),e]
  show D.list _=zbC _
  refine zej ?_
  have:=(zkF (f:=zaT c) (Q:=za0 c l) (x:=l.len-1) (by omega))
  rw [show l.len-1+1=l.len by omega] at this
  omega
end
end Go.Ev

end

section
open Go.Proofs
namespace Go.Ev
noncomputable section
set_option maxRecDepth 100000
set_option maxHeartbeats 4000000
def zl2 (y:Nat×List D) (ll:D):Prop:=
 (y.fst<=ll.len/\0<(zao ll ll.len).length)/\(zao ll y.fst).length<=y.snd.length/\List.take (zao ll y.fst).length y.snd=zao ll y.fst
def zo5 (ll:D) (x:Nat×List D):Prop:=
 ∃(y:Nat×List D),(y.fst<=ll.len/\(zao ll ll.len).length=0)/\ll.len-y.fst<ll.len-x.fst/\((x.fst:Int)+1=(y.fst:Int)/\False/\True)/\True
def zo3 (x:Nat×List D) (ll:D):Prop:=
 (x.fst:Int)<(ll.len:Int)->0<=(x.fst:Int)/\(x.fst:Int)<(ll.len:Int)/\((el ll x.fst).len=0->fits64 ((x.fst:Int)+1)/\((zo5 ll x)\/∃(y:Nat×List D),(zl2 y ll)/\ll.len-y.fst<ll.len-
 x.fst/\((x.fst:Int)+1=(y.fst:Int)/\((0:Nat)=0/\(zao ll x.fst).length=(zao ll y.fst).length/\True)/\True)/\x.snd=y.snd/\True))/\(0<(el ll x.fst).len->0+(zao ll x.fst).length<=
 x.snd.length/\(zao ll x.fst).length+(el ll x.fst).len<=8796093022208/\fits64 ((x.fst:Int)+1)/\((zo5 ll x)\/∃(y:Nat×List D),(zl2 y ll)/\ll.len-y.fst<ll.len-x.fst/\((x.fst:Int)+1=
 (y.fst:Int)/\((0:Nat)=0/\(zao ll x.fst).length+(el ll x.fst).len=(zao ll y.fst).length/\True)/\True)/\List.take (zao ll x.fst).length x.snd++(el ll x.fst).asList=y.snd/\True))
def zo4 (ll:D):Prop:=
 ∀(x:Nat×List D),x.fst<=ll.len/\(zao ll ll.len).length=0->ll.len-x.fst<LIM/\((x.fst:Int)<(ll.len:Int)->0<=(x.fst:Int)/\(x.fst:Int)<(ll.len:Int)/\((el ll x.fst).len=0->fits64 ((x.fst
 :Int)+1)/\((∃(y:Nat×List D),(y.fst<=ll.len/\(zao ll ll.len).length=0)/\ll.len-y.fst<ll.len-x.fst/\((x.fst:Int)+1=(y.fst:Int)/\True/\True)/\True)\/∃(y:Nat×List D),(zl2 y ll)/\
 ll.len-y.fst<ll.len-x.fst/\((x.fst:Int)+1=(y.fst:Int)/\False/\True)/\False/\True))/\(0<(el ll x.fst).len->(el ll x.fst).len<=8796093022208/\fits64 ((x.fst:Int)+1)/\((zo5 ll x)\/∃(y:
 Nat×List D),(zl2 y ll)/\ll.len-y.fst<ll.len-x.fst/\((x.fst:Int)+1=(y.fst:Int)/\((0:Nat)=0/\(el ll x.fst).len=(zao ll y.fst).length/\True)/\True)/\(el ll x.fst).asList=y.snd/\True)))
 /\(((x.fst:Int)<(ll.len:Int)->False)->D.nil=zff ll)
theorem zyW:∀(ll:D),zag (zkk (λ_=>none) D.nil D.nil) 4 (147:FuncId) [V.dat (57:TypeId) ll] (V.dat (34:TypeId) (zff ll))=((∃(x:Nat),x.le ll.len/\(0=(x:Int)/\0=(↑(zao ll x).length:
Int)/\True)/\True)/\∀(x:Nat),x.le ll.len->ll.len-x<LIM/\((x:Int)<(ll.len:Int)->0<=(x:Int)/\(x:Int)<(ll.len:Int)/\fits64 ((↑(zao ll x).length:Int)+(↑(el ll x).len:Int))/\((↑(zao
ll x).length:Int)+(↑(el ll x).len:Int)<0->False)/\(((↑(zao ll x).length:Int)+(↑(el ll x).len:Int)<0->False)->fits64 ((x:Int)+1)/\∃(y:Nat),y.le ll.len/\ll.len-y<ll.len-x/\((x:Int)
+1=(y:Int)/\(↑(zao ll x).length:Int)+(↑(el ll x).len:Int)=(↑(zao ll y).length:Int)/\True)/\True))/\(((x:Int)<(ll.len:Int)->False)->((↑(zao ll x).length:Int)<0->False)/\(((↑(zao ll
x).length:Int)<0->False)->fits64 ((↑(zao ll x).length:Int)-Int.ofNat Nat.zero)/\(0<(↑(zao ll x).length:Int)-Int.ofNat Nat.zero->(0:Int)<=0/\(0:Int)<=0/\(0:Int)<=0/\0<(↑(zao ll
x).length:Int)-Int.ofNat Nat.zero/\(↑(zao ll x).length:Int)-Int.ofNat Nat.zero<=16777216/\(0:Int)<=0/\(0:Int)<=0/\((↑((↑(zao ll x).length:Int)-Int.ofNat Nat.zero).toNat:Int)-0).NonNeg/\((∃
(x:Nat×List D),(x.fst<=ll.len/\(zao ll ll.len).length=0)/\(0=(x.fst:Int)/\False/\True)/\True)\/∃(x_1:Nat×List D),((x_1.fst<=ll.len/\0<(zao ll ll.len).length)/\(zao ll x_1.fst).length<=
x_1.snd.length/\List.take (zao ll x_1.fst).length x_1.snd=zao ll x_1.fst)/\(0=(x_1.fst:Int)/\((0:Nat)=0/\0=(zao ll x_1.fst).length/\True)/\True)/\List.replicate ((↑(zao ll x).length:Int)-
Int.ofNat Nat.zero).toNat (D.int 0)=x_1.snd/\True)/\(zo4 ll)/\∀(x:Nat×List D),(x.fst<=ll.len/\0<(zao ll ll.len).length)/\(zao ll x.fst).length<=x.snd.length/\List.take (zao ll x.fst).length
x.snd=zao ll x.fst->ll.len-x.fst<LIM/\(zo3 x ll)/\(((x.fst:Int)<(ll.len:Int)->False)->0+(zao ll x.fst).length<=x.snd.length/\D.list (List.take (zao ll x.fst).length x.snd)=zff ll))/\((0
<(↑(zao ll x).length:Int)-Int.ofNat Nat.zero->False)->((∃(x:Nat×List D),(x.fst<=ll.len/\(zao ll ll.len).length=0)/\(0=(x.fst:Int)/\True/\True)/\True)\/∃(x:Nat×List D),((x.fst<=ll.len
/\0<(zao ll ll.len).length)/\(zao ll x.fst).length<=x.snd.length/\List.take (zao ll x.fst).length x.snd=zao ll x.fst)/\(0=(x.fst:Int)/\False/\True)/\False/\True)/\(zo4 ll)/\∀(x:Nat×List
D),(x.fst<=ll.len/\0<(zao ll ll.len).length)/\(zao ll x.fst).length<=x.snd.length/\List.take (zao ll x.fst).length x.snd=zao ll x.fst->ll.len-x.fst<LIM/\(zo3 x ll)/\(((x.fst:Int)<(ll.len:
Int)->False)->0+(zao ll x.fst).length<=x.snd.length/\D.list (List.take (zao ll x.fst).length x.snd)=zff ll))))):=by intros;kernel_rfl
theorem zBh:∀(c l:D),zag (zkk os0 D.nil D.nil) 3 (99:FuncId) [V.dat (22:TypeId) c,V.dat (130:TypeId) l] (V.tup [V.dat (34:TypeId) (lnD c l).fst,V.int IntKind.i64 (lnD c l).snd])=(((zaE c/\(zbm
c).snd=0)/\l.len<=20/\tgP l)/\((↑(grD c l).len:Int)<(l.len:Int)->D.nil=(lnD c l).fst/\32=(lnD c l).snd/\True)/\(((↑(grD c l).len:Int)<(l.len:Int)->False)->zdx (grD c l)/\zff (grD c l)=
(lnD c l).fst/\0=(lnD c l).snd/\True)):=by intros;kernel_rfl
theorem zfU {n:Nat} (h:n<=10000000):n<LIM:=by unfold LIM;omega
theorem zeI (ll:D) (x:Nat):zao ll (x+1)=zao ll x++(el ll x).asList:=rfl
theorem zb2 (ll:D) (x:Nat):(zao ll (x+1)).length=(zao ll x).length+(el ll x).len:=by rw [zeI,List.length_append];rfl
theorem zjt (ll:D) {a:Nat}:∀k,(zao ll a).length<=(zao ll (a+k)).length
 |0=>Nat.le_refl _
 |k+1=>by have:=zjt ll (a:=a) k;rw [show a+(k+1)=(a+k)+1 from rfl,zb2];omega
theorem zh1 {ll:D} (h:zdx ll):∀x,x<=ll.len->(zao ll x).length<=100*x
 |0,_=>Nat.le_refl _
 |x+1,hx=>by have:=zh1 h x (by omega);have:=h.out.2 x (by omega);rw [zb2];omega
theorem zm5 (ll:D) {a b:Nat} (h:a<=b):(zao ll a).length<=(zao ll b).length:=by
 have:=zjt ll (a:=a) (b-a);rw [show a+(b-a)=b by omega] at this;exact this
theorem zz9 (ll:D) (h:zdx ll):zag (zkk (λ_=>none) .nil .nil) 4 147 [.dat 57 ll] (.dat 34 (zff ll)):=by
 rw [zyW]
 have T:True:=trivial
 have hn:=h.out.1
 have z0:(Int.ofNat Nat.zero)=0:=rfl
 have hnil:(zao ll ll.len).length=0->zo4 ll:=λh0 x hx=>⟨zfU (by omega),λhlt=>⟨by omega,hlt,λ_=>⟨⟨by omega,by omega⟩,.inl ⟨(x.1+1,[]),⟨by show x.1+1<=_;omega,h0⟩,by show _-(x.1+1)<_;omega,⟨rfl,T,T⟩,T⟩⟩,λhp=>by
   have:=zm5 ll (show x.1+1<=ll.len by omega)
   rw [zb2] at this;omega⟩,λ_=>by
   unfold zff;rw [List.eq_nil_of_length_eq_zero h0];rfl⟩
 have hstep:∀x:Nat×List D,(x.1<=ll.len/\0<(zao ll ll.len).length)/\(zao ll x.1).length<=x.2.length/\x.2.take (zao ll x.1).length=zao ll x.1->zo3 x ll:=λx hx hlt=>by
  have hl:=zh1 h (x.1+1) (by omega)
  rw [zb2] at hl
  refine ⟨by omega,hlt,λh0=>⟨⟨by omega,by omega⟩,.inr ⟨(x.1+1,x.2),⟨⟨by show x.1+1<=_;omega,hx.1.2⟩, ?_, ?_⟩,by show _-(x.1+1)<_;omega,⟨rfl,⟨rfl, ?_,T⟩,T⟩,rfl,T⟩⟩,λhp=>⟨by omega,by omega,⟨by omega,by omega⟩,.inr ⟨(x.1+1,zao ll (x.1+1)),⟨⟨by show x.1+1<=_;omega,hx.1.2⟩,Nat.le_refl _,List.take_of_length_le (Nat.le_refl _)⟩,by show _-(x.1+1)<_;omega,⟨rfl,⟨rfl, ?_,T⟩,T⟩, ?_,T⟩⟩⟩
  .show (zao ll (x.1+1)).length<=_
   rw [zb2,h0];exact hx.2.1
  .show List.take (zao ll (x.1+1)).length _=zao ll (x.1+1)
   rw [zb2,h0,Nat.add_zero,hx.2.2,zeI,List.eq_nil_of_length_eq_zero h0,List.append_nil]
  .show _=(zao ll (x.1+1)).length
   rw [zb2,h0];rfl
  .show _=(zao ll (x.1+1)).length
   rw [zb2]
  .show _=zao ll (x.1+1)
   rw [hx.2.2,zeI]
 have hfin:∀x:Nat×List D,(x.1<=ll.len/\0<(zao ll ll.len).length)/\(zao ll x.1).length<=x.2.length/\x.2.take (zao ll x.1).length=zao ll x.1->((x.1:Int)<ll.len->False)->0+(zao ll x.1).length<=x.2.length/\D.list (x.2.take (zao ll x.1).length)=zff ll:=λx hx hge=>by
  have e:=zcc hx.1.1 hge
  refine ⟨by omega, ?_⟩
  rw [hx.2.2,e]
  exact zej hx.1.2
 refine ⟨⟨0,Nat.zero_le _,⟨rfl,rfl,T⟩,T⟩,λx hx=>⟨zfU (by omega),λhlt=> ?_,λhge=> ?_⟩⟩
 .have hl:=zh1 h (x+1) (by omega)
  rw [zb2] at hl
  refine ⟨by omega,hlt,⟨by omega,by omega⟩,λk=>by omega,λ_=>⟨⟨by omega,by omega⟩,x+1,(by show x+1<=ll.len;omega),by omega,⟨rfl, ?_,T⟩,T⟩⟩
  rw [zb2];omega
 .have e:=zcc hx hge
  subst e
  have hl:=zh1 h ll.len (Nat.le_refl _)
  refine ⟨λk=>by omega,λ_=>⟨⟨by rw [z0];omega,by rw [z0];omega⟩,λhp=> ?_,λhz=> ?_⟩⟩
  .have hp':0<(zao ll ll.len).length:=by rw [z0] at hp;omega
   refine ⟨by omega,by omega,by omega,hp,by rw [z0];omega,by omega,by omega, ?_,.inr ⟨(0,List.replicate (((zao ll ll.len).length:Int)-Int.ofNat Nat.zero).toNat (D.int 0)),⟨⟨Nat.zero_le _,hp'⟩,Nat.zero_le _,rfl⟩,⟨rfl,⟨rfl,rfl,T⟩,T⟩,rfl,T⟩,λx hx=> ?_,λx hx=>⟨zfU (by omega),hstep x hx,hfin x hx⟩⟩
   .show (0:Int)<=_
    rw [z0];omega
   .exact absurd hx.2 (by omega)
  .have h0:(zao ll ll.len).length=0:=by have hz:¬(0:Int)<((zao ll ll.len).length:Int)-Int.ofNat Nat.zero:=hz;rw [z0] at hz;omega
   exact ⟨.inl ⟨(0,[]),⟨Nat.zero_le _,h0⟩,⟨rfl,T,T⟩,T⟩,hnil h0,λx hx=>⟨zfU (by omega),hstep x hx,hfin x hx⟩⟩
end
end Go.Ev

end

section
open Go.Proofs
namespace Go.Ev
noncomputable section
def rkZ (c g:D) (x y:Nat):Int:=zwJ c (gAt (el g x),x) (gAt (el g y),y)
theorem zvD {α β:Type} {A:α->Prop} {f:α->α->Int} (h:wkP A f) (m:β->α):wkP (λb=>A (m b)) (λa b=>f (m a) (m b)):=
 ⟨λa b=>h.rng _ _,λa b=>h.anti _ _,λa b c=>h.tri _ _ _⟩
theorem ztQ {c:D} (hv:(zbm c).2=0):wkP (λp:D=>inB (gP p).2) (zaT c):=zvD (zsT hv) gP
theorem zte (g:D) (x:Nat):gP (plG g x)=(gAt (el g x),(x:Int)):=rfl
def plN (p:D):Nat:=(p.fld 1).asInt.toNat
theorem zvf (g:D) (xs:List Nat):zdi (.list (xs.map (plG g))) (D.list (xs.map (plG g))).len=xs.map (plG g):=by
 unfold zdi
 apply List.ext_getElem?
 intro i
 rw [List.getElem?_map]
 rcases Nat.lt_or_ge i xs.length with h|h
 .rw [List.getElem?_range (by show i<(xs.map _).length;rw [List.length_map];exact h),List.getElem?_map,List.getElem?_eq_getElem h]
  show some (pl (zad (xs.map (plG g)) i))=_
  unfold zad
  rw [List.getElem?_map,List.getElem?_eq_getElem h];rfl
 .rw [List.getElem?_eq_none (by rw [List.length_range];show (xs.map _).length<=i;rw [List.length_map];exact h),List.getElem?_eq_none (by rw [List.length_map];exact h)];rfl
theorem zuJ {s:List Nat} (h:s≠ []):iD s= .list (iL s):=by
 unfold iD iL;cases s with
 |nil=>exact absurd rfl h
 |cons a s=>rfl
theorem zpo (s:List Nat):(iD s).len=s.length:=by
 unfold iD;show (zbC _).asList.length=_;rw [zdL];unfold iL;rw [List.length_map]
theorem zym {s:List Nat} {i:Nat} (h:i<s.length):el (iD s) i= .int (s[i]:Nat):=by
 show zad (zbC _).asList i=_
 rw [zdL]
 unfold zad iL
 rw [List.getElem?_map,List.getElem?_eq_getElem h];rfl
theorem zfG (l:List D):(zbC l).len=l.length:=by show (zbC l).asList.length=_;rw [zdL]
theorem zwu {l:List D} {i:Nat} (h:i<l.length):el (zbC l) i=l[i]:=by
 show zad (zbC l).asList i=_
 rw [zdL];unfold zad;rw [List.getElem?_eq_getElem h];rfl
theorem ztf {c g:D} (hv:(zbm c).2=0) {xs:List Nat} (hlt:∀x,x∈xs->x<64) (hinc:xs.Pairwise (· < ·)):
  ∃G:List (List Nat),grD c (.list (xs.map (plG g)))=zbC (G.map iD)/\zyk (rkZ c g) (λx=>(x:Int)) xs G:=by
 have hR:=zvf g xs
 have hS:za0 c (.list (xs.map (plG g)))=zi1 (zaT c) [] (xs.map (plG g)):=by unfold za0;rw [hR]
 have hA:∀p,p∈xs.map (plG g)->inB (gP p).2:=λp hp=>by
  obtain ⟨x,hx,rfl⟩:=List.mem_map.1 hp
  exact ⟨by rw [zte];show (0:Int)<=x;omega,by rw [zte];show (x:Int)<64;have:=hlt x hx;omega⟩
 have hsort:=zhC (ztQ hv) (p:=λp=>(p.fld 1).asInt) (xs.map (plG g)) [] (λx hx=>by cases hx) hA .nil (λx y hx=>by cases hx) (by
  rw [List.pairwise_map]
  exact hinc.imp λ{a b} h=>by show (a:Int)<b;omega)
 have hperm:=zeX (f:=zaT c) (xs.map (plG g)) []
 generalize hSe:zi1 (zaT c) [] (xs.map (plG g))=S at hS hsort hperm
 have hperm:S.Perm (xs.map (plG g)):=hperm
 have hgrp:=zqw (ztQ hv) (p:=λp=>(p.fld 1).asInt) S (λp hp=>hA p (hperm.mem_iff.1 hp)) hsort
 have hmem:∀G,G∈zc5 (zaT c) S->∀p,p∈G->∃x,x∈xs/\p=plG g x:=λG hG p hp=>by
  have:p∈xs.map (plG g):=hperm.mem_iff.1 (hgrp.perm.mem_iff.1 (List.mem_flatten.2 ⟨G,hG,hp⟩))
  obtain ⟨x,hx,e⟩:=List.mem_map.1 this
  exact ⟨x,hx,e.symm⟩
 refine ⟨(zc5 (zaT c) S).map (·.map plN), ?_, ?_⟩
 .unfold grD grL
  have hlen:S.length=(D.list (xs.map (plG g))).len:=hperm.length_eq
  rw [hS,<-hlen,List.take_length,List.map_map]
  congr 1
  refine List.map_congr_left λG hG=> ?_
  have hne:=hgrp.ne G hG
  show zjO G=iD (G.map plN)
  rw [zuJ (by intro h;exact hne (List.map_eq_nil_iff.1 h))]
  unfold zjO iL
  rw [List.map_map]
  congr 1
  refine List.map_congr_left λp hp=> ?_
  obtain ⟨x,_,rfl⟩:=hmem G hG p hp
  rfl
 .refine ⟨?_,λG' hG'=> ?_,λG' hG'=> ?_,λG' hG'=> ?_, ?_⟩
  .have h1:=(hgrp.perm.trans hperm).map plN
   rw [List.map_map] at h1
   have e:(plN∘plG g)=id:=by funext x;rfl
   rw [e,List.map_id] at h1
   rw [List.map_flatten] at h1
   exact h1
  .obtain ⟨G,hG,rfl⟩:=List.mem_map.1 hG'
   intro h;exact hgrp.ne G hG (List.map_eq_nil_iff.1 h)
  .obtain ⟨G,hG,rfl⟩:=List.mem_map.1 hG'
   rw [List.pairwise_map]
   refine (hgrp.inc G hG).imp_of_mem λ{a b} ha hb hab=> ?_
   obtain ⟨x,_,rfl⟩:=hmem G hG a ha
   obtain ⟨y,_,rfl⟩:=hmem G hG b hb
   exact hab
  .obtain ⟨G,hG,rfl⟩:=List.mem_map.1 hG'
   intro x y hx hy
   obtain ⟨a,ha,rfl⟩:=List.mem_map.1 hx
   obtain ⟨b,hb,rfl⟩:=List.mem_map.1 hy
   have t:=hgrp.tie G hG a b ha hb
   obtain ⟨x,_,rfl⟩:=hmem G hG a ha
   obtain ⟨y,_,rfl⟩:=hmem G hG b hb
   exact t
  .rw [List.pairwise_map]
   refine hgrp.bef.imp_of_mem λ{G H} hG hH hab x y hx hy=> ?_
   obtain ⟨a,ha,rfl⟩:=List.mem_map.1 hx
   obtain ⟨b,hb,rfl⟩:=List.mem_map.1 hy
   have t:=hab a b ha hb
   obtain ⟨x,_,rfl⟩:=hmem G hG a ha
   obtain ⟨y,_,rfl⟩:=hmem H hH b hb
   exact t
theorem zw8 {g:D} (ht:tgG g) {xs:List Nat} (h:∀x,x∈xs->x<g.len):tgP (.list (xs.map (plG g))):=⟨λi hi=>by
 have hi:i<xs.length:=by have hi:i<(xs.map (plG g)).length:=hi;rwa [List.length_map] at hi
 show (gAt ((zad (xs.map (plG g)) i).fld 0)).tg.len<=100
 unfold zad
 rw [List.getElem?_map,List.getElem?_eq_getElem hi]
 exact ht.out xs[i] (h _ (List.getElem_mem hi))⟩
theorem zpl {f:Nat->Nat->Int} {p:Nat->Int} {xs:List Nat} {G:List (List Nat)} (h:zyk f p xs G) {s:List Nat} (hs:s∈G) {x:Nat} (hx:x∈s):x∈xs:=h.perm.mem_iff.1 (List.mem_flatten.2 ⟨s,hs,hx⟩)
end
end Go.Ev

end

section
open Go.Proofs
namespace Go.Ev
noncomputable section
set_option maxRecDepth 100000
set_option maxHeartbeats 4000000
theorem zyH {c l:D} (h20:l.len<=20):zdx (grD c l):=by
 have hS:=zf6 c l
 have hf:=congrArg List.length (zcA (f:=zaT c) (za0 c l))
 have h1:=zpj (zaT c) (za0 c l) l.len
 refine ⟨?_,λi hi=> ?_⟩
 .unfold grD;rw [zfG];omega
 .unfold grD at hi⊢
  rw [zfG] at hi
  rw [zwu hi]
  have hm:=List.getElem_mem hi
  generalize (grL (zaT c) (za0 c l) l.len)[i]=d at hm
  unfold grL at hm
  rw [<-hS,List.take_length] at hm
  obtain ⟨q,hq,rfl⟩:=List.mem_map.1 hm
  show (q.map _).length<=100
  rw [List.length_map]
  have:=(List.sublist_flatten_of_mem hq).length_le
  omega
theorem s99 (c l:D) (h:(zaE c/\(zbm c).2=0)/\l.len<=20/\tgP l):zag (zkk os0 .nil .nil) 3 99 [.dat 22 c,.dat 130 l] (.tup [.dat 34 (lnD c l).1,.int .i64 (lnD c l).2]):=by
 rw [zBh]
 refine ⟨h,λk=> ?_,λk=>⟨zyH h.2.1, ?_⟩⟩
 .unfold lnD;rw [if_pos (by omega)];exact ⟨rfl,rfl,trivial⟩
 .have k:¬((grD c l).len:Int)<l.len:=k
  unfold lnD;rw [if_neg (by omega)];exact ⟨rfl,rfl,trivial⟩
theorem ztt {g:D} {n x:Nat} (h:x<n):zad (plL g n) x=plG g x:=by unfold plL zad;rw [List.getElem?_map,List.getElem?_range h];rfl
theorem zwX (s:List Nat):(iL s).map (λx=>x.asInt.toNat)=s:=by
 unfold iL;rw [List.map_map]
 have:((λx:D=>x.asInt.toNat)∘λx:Nat=>D.int (x:Nat))=id:=by funext x;rfl
 rw [this,List.map_id]
theorem zwW (s:List Nat):sOf (iD s)=s:=by unfold sOf iD;rw [zdL];exact zwX s
end
end Go.Ev

end

section
open Go.Proofs
namespace Go.Ev
noncomputable section
set_option maxRecDepth 100000
set_option maxHeartbeats 4000000
def ix (x:Nat×List Nat×List (List Nat)):D:=iD x.snd.fst
def tx (x:Nat×List Nat×List (List Nat)) (n:Nat):List Nat:=List.take n (sOf (iD x.snd.fst))
theorem ziQ {s:List Nat} {k:Nat} (h:k<s.length):s.take (k+1)=s.take k++ [atN s k]:=by
 unfold atN;rw [List.getElem?_eq_getElem h,List.take_succ_eq_append_getElem h];rfl
theorem zvY {s:List Nat} {k:Nat} (h:k<s.length):(el (iD s) k).asInt=(atN s k:Nat):=by
 unfold atN;rw [zym h,List.getElem?_eq_getElem h];rfl
theorem zlJ {s:List Nat} {k:Nat} (h:k<s.length):atN s k∈s:=by
 unfold atN;rw [List.getElem?_eq_getElem h];exact List.getElem_mem h
theorem zwp (s:List Nat):(iL s).length=s.length:=by unfold iL;rw [List.length_map]
theorem zjB (s t:List Nat):iL (s++t)=iL s++iL t:=by unfold iL;rw [List.map_append]
section
variable {x:Nat×List Nat×List (List Nat)} {c g:D} {n k y:Nat}
end
end
end Go.Ev

end

section
open Go.Proofs
namespace Go.Ev
noncomputable section
theorem zlW:∀G:List (List Nat),(∀s,s∈G->s.length=1)->G.flatten.length=G.length
 | [],_=>rfl
 |s::G,h=>by
  rw [List.flatten_cons,List.length_append,List.length_cons,h s (List.mem_cons_self ..),zlW G λt ht=>h t (List.mem_cons_of_mem _ ht)];omega
end
end Go.Ev

end
