/- Part of the proof. -/
import Derived.Test.YtdojhafbgoimeaaGreatDoorCoreG23
import Derived.Test.YtdojhafbgoimeaaGreatDoorCoreG24
import Derived.Test.YtdojhafbgoimeaaGreatDoorProg
import Derived.Test.YtdojhafbgoimeaaGreatDoorCoreG0
import Derived.Test.YtdojhafbgoimeaaGreatDoorCoreG2

section
open Go.Proofs
namespace Go.Ev
noncomputable section
set_option maxRecDepth 100000
set_option maxHeartbeats 4000000
def rA (c l:D) (x x_1:Nat):List D:=zb2 (zaU c) (zb2 (zaU c) (zdl l l.len) (0:Int) x) (↑x:Int) x_1
def rK (c l:D) (x x_1 x_2:Nat):List D:=zia (rA c l x x_1) x_1 x_2
def cmT (c P Q:D):Int:=(zvT (D.list (za7 c c.len)) (gAt (P.fld 0)) (gAt (Q.fld 0)) (P.fld 1).asInt (Q.fld 1).asInt).snd
def okT (c P Q:D):Prop:=(((za7 c c.len).length<=(100:Nat)/\∀(k:Nat),k<(za7 c c.len).length->okA (el (D.list (za7 c c.len)) k))/\((P.fld 0).fld (Nat.succ 6).succ).len<=(100:Nat)/\((Q.fld 0).fld (Nat.succ 6).succ).len<=(100:Nat))
def zwE (c l:D) (x x_1:Nat) (b:Int):Prop:=
 (∃(x_2:Nat),((↑x:Int)=(0:Int)/\x_2<=x_1/\x_1<(rA c l x x_1).length/\zev (zaU c) (zad (rA c l x x_1) x_1) (List.take x_1 (rA c l x x_1)) x_2=zev (zaU c) (zad (rA c l x x_1) x_1)
 (List.take x_1 (rA c l x x_1)) x_1)/\((↑x_1:Int)=(↑x_2:Int)/\True)/\rA c l x x_1=rK c l x x_1 x_2/\True)/\∀(x_2:Nat),(↑x:Int)=(0:Int)/\x_2<=x_1/\x_1<(rA c l x x_1).length/\
 zev (zaU c) (zad (rA c l x x_1) x_1) (List.take x_1 (rA c l x x_1)) x_2=zev (zaU c) (zad (rA c l x x_1) x_1) (List.take x_1 (rA c l x x_1)) x_1->x_2<LIM/\((↑x:Int)<(↑x_2:Int)->(0:
 Int)<=(↑x_2:Int)/\(↑x_2:Int)<(↑l.len:Int)/\x_2<(rK c l x x_1 x_2).length/\((-9223372036854775808:Int)<=(↑x_2:Int)-(1:Int)/\(↑x_2:Int)-(1:Int)<(9223372036854775808:
 Int))/\(0:Int)<=(↑x_2:Int)-(1:Int)/\(↑x_2:Int)-(1:Int)<(↑l.len:Int)/\((↑x_2:Int)-(1:Int)).toNat<(rK c l x x_1 x_2).length/\okT c (zad (rK c l x x_1 x_2) x_2) (zad (rK
 c l x x_1 x_2) ((↑x_2:Int)-(1:Int)).toNat)/\(cmT c (zad (rK c l x x_1 x_2) x_2) (zad (rK c l x x_1 x_2) ((↑x_2:Int)-(1:Int)).toNat)<(0:Int)->((-9223372036854775808:Int)<=(↑x_2:
 Int)-(1:Int)/\(↑x_2:Int)-(1:Int)<(9223372036854775808:Int))/\((-9223372036854775808:Int)<=(↑x_2:Int)-(1:Int)/\(↑x_2:Int)-(1:Int)<(9223372036854775808:Int))/\(0:
 Int)<=(↑x_2:Int)-(1:Int)/\(↑x_2:Int)-(1:Int)<(↑l.len:Int)/\((↑x_2:Int)-(1:Int)).toNat<(rK c l x x_1 x_2).length/\(0:Int)<=(↑x_2:Int)/\(↑x_2:Int)<(↑l.len:Int)/\
 x_2<(rK c l x x_1 x_2).length/\(0:Int)<=(↑x_2:Int)/\(↑x_2:Int)<(↑l.len:Int)/\x_2<(rK c l x x_1 x_2).length/\(0:Int)<=(↑x_2:Int)-(1:Int)/\(↑x_2:Int)-(1:Int)<(↑l.len
 :Int)/\((↑x_2:Int)-(1:Int)).toNat<((rK c l x x_1 x_2).set x_2 (pl (zad (rK c l x x_1 x_2) ((↑x_2:Int)-(1:Int)).toNat))).length/\((-9223372036854775808:Int)<=(↑x_2:Int)-(1:
 Int)/\(↑x_2:Int)-(1:Int)<(9223372036854775808:Int))/\∃(y:Nat),((↑x:Int)=(0:Int)/\y<=x_1/\x_1<(rA c l x x_1).length/\zev (zaU c) (zad (rA c l x x_1) x_1) (List.take x_1
 (rA c l x x_1)) y=zev (zaU c) (zad (rA c l x x_1) x_1) (List.take x_1 (rA c l x x_1)) x_1)/\y<x_2/\((↑x_2:Int)-(1:Int)=(↑y:Int)/\True)/\((rK c l x x_1 x_2).set x_2 (pl (zad (rK c
 l x x_1 x_2) ((↑x_2:Int)-(1:Int)).toNat))).set ((↑x_2:Int)-(1:Int)).toNat (pl (zad (rK c l x x_1 x_2) x_2))=zia (rA c l x x_1) x_1 y/\True)/\((cmT c (zad (rK c l x x_1 x_2) x_2)
 (zad (rK c l x x_1 x_2) ((↑x_2:Int)-(1:Int)).toNat)<(0:Int)->False)->((-9223372036854775808:Int)<=(↑x_1:Int)+(1:Int)/\(↑x_1:Int)+(1:Int)<(9223372036854775808:Int))/\∃
 (y:Nat),((↑x:Int)=(0:Int)/\(1:Nat)<=y/\(↑y:Int)<=max b (1:Int)\/((↑x:Int)=(0:Int)->False)/\(↑y:Int)=(↑x:Int)+(1:Int)/\b<=(↑x:Int))/\b.toNat-y<b.toNat-
 x_1/\((↑x_1:Int)+(1:Int)=(↑y:Int)/\True)/\rK c l x x_1 x_2=zb2 (zaU c) (zb2 (zaU c) (zdl l l.len) (0:Int) x) (↑x:Int) y/\True))/\(((↑x:Int)<(↑x_2:Int)->False)->
 ((-9223372036854775808:Int)<=(↑x_1:Int)+(1:Int)/\(↑x_1:Int)+(1:Int)<(9223372036854775808:Int))/\∃(y:Nat),((↑x:Int)=(0:Int)/\(1:Nat)<=y/\(↑y:Int)<=max b (1:Int)
 \/((↑x:Int)=(0:Int)->False)/\(↑y:Int)=(↑x:Int)+(1:Int)/\b<=(↑x:Int))/\b.toNat-y<b.toNat-x_1/\((↑x_1:Int)+(1:Int)=(↑y:Int)/\True)/\rK c l x x_1 x_2=zb2
 (zaU c) (zb2 (zaU c) (zdl l l.len) (0:Int) x) (↑x:Int) y/\True)
def zvK (c l:D) (x x0:Nat) (x_1:List D):Prop:=
 ((-9223372036854775808:Int)<=(↑x_1.length:Int)-(1:Int)/\(↑x_1.length:Int)-(1:Int)<(9223372036854775808:Int))/\(0:Int)<=(↑x_1.length:Int)-(1:Int)/\(↑x_1.length:Int)-
 (1:Int)<(↑x_1.length:Int)/\((↑x_1.length:Int)-(1:Int)).toNat<x_1.length/\(zad x_1 ((↑x_1.length:Int)-(1:Int)).toNat=D.nil->(0:Nat)+(1:Nat)<= [D.int ((zad (za0 c l)
 x).fld (1:Nat)).asInt].length/\(1:Nat)<=(8796093022208:Nat)/\(0:Int)<=(↑x_1.length:Int)-(1:Int)/\(↑x_1.length:Int)-(1:Int)<(↑x_1.length:Int)/\((↑x_1.length:Int)-(1:
 Int)).toNat<x_1.length/\True/\(0:Nat)=(0:Nat)/\(1:Nat)=(List.take (1:Nat) [D.int ((zad (za0 c l) x).fld (1:Nat)).asInt]).length/\True/\((-9223372036854775808:Int)<=(↑x:Int)
 +(1:Int)/\(↑x:Int)+(1:Int)<(9223372036854775808:Int))/\((∃(y:Nat),y=(0:Nat)/\l.len-y<l.len-x0/\((↑x:Int)+(1:Int)=(0:Int)/\False/\True)/\True)\/∃(y:Nat),
 ((0:Nat)<y/\y<=l.len)/\l.len-y<l.len-x0/\((↑x:Int)+(1:Int)=(↑y:Int)/\((0:Nat)=(0:Nat)/\x_1.length=(grL (zaU c) (za0 c l) y).length/\True)/\True)/\x_1.set
 ((↑x_1.length:Int)-(1:Int)).toNat (D.list (List.take (1:Nat) [D.int ((zad (za0 c l) x).fld (1:Nat)).asInt]))=grL (zaU c) (za0 c l) y/\True))/\(∀(r:List D),zad x_1 ((↑x_1.length
 :Int)-(1:Int)).toNat=D.list r->((↑x_1.length:Int)-(1:Int)).toNat<x_1.length/\r.length=(zad x_1 ((↑x_1.length:Int)-(1:Int)).toNat).len/\(∃(r:List D),zad x_1
 ((↑x_1.length:Int)-(1:Int)).toNat=D.list r)/\Nat.le (1:Nat) (1:Nat)/\(0:Nat)+(1:Nat)<= [D.int ((zad (za0 c l) x).fld (1:Nat)).asInt].length/\(0:Nat)+r.length<=(zad x_1
 ((↑x_1.length:Int)-(1:Int)).toNat).asList.length/\r.length+(1:Nat)<=(8796093022208:Nat)/\(0:Int)<=(↑x_1.length:Int)-(1:Int)/\(↑x_1.length:Int)-(1:Int)<(↑x_1.length:
 Int)/\((↑x_1.length:Int)-(1:Int)).toNat<(x_1.set ((↑x_1.length:Int)-(1:Int)).toNat (D.int (0:Int))).length/\True/\(0:Nat)=(0:Nat)/\r.length+(1:Nat)=(List.take r.length
 (zad x_1 ((↑x_1.length:Int)-(1:Int)).toNat).asList++List.take (1:Nat) [D.int ((zad (za0 c l) x).fld (1:Nat)).asInt]).length/\True/\((-9223372036854775808:Int)<=(↑x:Int)+(1:
 Int)/\(↑x:Int)+(1:Int)<(9223372036854775808:Int))/\((∃(y:Nat),y=(0:Nat)/\l.len-y<l.len-x0/\((↑x:Int)+(1:Int)=(0:Int)/\False/\True)/\True)\/∃(y:Nat),((0:
 Nat)<y/\y<=l.len)/\l.len-y<l.len-x0/\((↑x:Int)+(1:Int)=(↑y:Int)/\((0:Nat)=(0:Nat)/\x_1.length=(grL (zaU c) (za0 c l) y).length/\True)/\True)/\(x_1.set
 ((↑x_1.length:Int)-(1:Int)).toNat (D.int (0:Int))).set ((↑x_1.length:Int)-(1:Int)).toNat (D.list (List.take r.length (zad x_1 ((↑x_1.length:Int)-(1:Int)).toNat).asList++
 List.take (1:Nat) [D.int ((zad (za0 c l) x).fld (1:Nat)).asInt]))=grL (zaU c) (za0 c l) y/\True))/\∀(n:Int),zad x_1 ((↑x_1.length:Int)-(1:Int)).toNat=D.int n->False
theorem zzf:∀(g:D),zah (zoe (λ_=>none) D.nil D.nil) 3 (97:FuncId) [V.dat (23:TypeId) g] (V.dat (130:TypeId) (D.list (plL g g.len)))=(0<=(g.len:Int)/\(g.len:Int)<=(g.len:Int)/\(g.len:
Int)<=16777216/\(zoe (λ_=>none) D.nil D.nil).P.types[126].bytes*g.len<=281474976710656/\(∃(x:Nat),x.le g.len/\(0=(x:Int)/\True)/\List.replicate g.len (D.sct [D.sct [D.str [],D.str [],D.str [],
D.int 0,D.int 0,D.str [],D.bool (false=true),D.bool (false=true),D.nil],D.int 0])=plL g x++List.drop x (List.replicate g.len (D.sct [D.sct [D.str [],D.str [],D.str [],D.int 0,D.int 0,D.str [],D.bool
(false=true),D.bool (false=true),D.nil],D.int 0]))/\True)/\∀(x:Nat),x.le g.len->g.len-x<LIM/\((x:Int)<(g.len:Int)->0<=(x:Int)/\(x:Int)<(g.len:Int)/\0<=(x:Int)/\(x:Int)<(g.len
:Int)/\x<(plL g x++List.drop x (List.replicate g.len (D.sct [D.sct [D.str [],D.str [],D.str [],D.int 0,D.int 0,D.str [],D.bool (false=true),D.bool (false=true),D.nil],D.int 0]))).length/\fits64 ((x:
Int)+1)/\∃(y:Nat),y.le g.len/\g.len-y<g.len-x/\((x:Int)+1=(y:Int)/\True)/\(plL g x++List.drop x (List.replicate g.len (D.sct [D.sct [D.str [],D.str [],D.str [],D.int 0,D.int 0,D.str [],
D.bool (false=true),D.bool (false=true),D.nil],D.int 0]))).set x (D.sct [gD (gAt (el g x)),D.int (x:Int)])=plL g y++List.drop y (List.replicate g.len (D.sct [D.sct [D.str [],D.str [],D.str [],D.int 0,
D.int 0,D.str [],D.bool (false=true),D.bool (false=true),D.nil],D.int 0]))/\True)/\(((x:Int)<(g.len:Int)->False)->0+g.len<=(plL g x++List.drop x (List.replicate g.len (D.sct [D.sct [D.str [],
D.str [],D.str [],D.int 0,D.int 0,D.str [],D.bool (false=true),D.bool (false=true),D.nil],D.int 0]))).length/\D.list (List.take g.len (plL g x++List.drop x (List.replicate g.len (D.sct [D.sct [D.str [],
D.str [],D.str [],D.int 0,D.int 0,D.str [],D.bool (false=true),D.bool (false=true),D.nil],D.int 0]))))=D.list (plL g g.len))):=by intros;kernel_rfl
theorem zxs:∀(l c:D),zah (zvH or0) 7 (96:FuncId) [V.dat (22:TypeId) c,V.dat (130:TypeId) l] (V.dat (57:TypeId) D.nil)=(c.len<=100/\(∃(x:Unit),True/\((0:Int)=0/\True)/\(True/\True)/\
True)/\∀(x:Unit),True->0<LIM/\(0<(l.len:Int)->(0:Int)<=0/\0<(l.len:Int)/\0+1<= [pl (el l 0)].length/\(1:Nat)<=16777216/\fits64 (0+1)/\∃(y:Unit),True/\(0:Nat)<0/\((0:Int)+1=
0/\True)/\(False/\True)/\True)/\((0<(l.len:Int)->False)->(∃(x:Unit),True/\((0:Int)=0/\(20:Int)=20/\True)/\True)/\∀(x:Unit),True->0<LIM/\((20:Int)<=0->fits64 (0+1)/\(∃(x:
Unit),True/\((0:Int)+1=1/\True)/\True)/\∀(x:Unit),True->0<LIM/\((1:Int)<20->(∃(x:Unit),False/\True/\True)/\∀(x:Unit),False->0<LIM/\False)/\(((1:Int)<20->False)->fits64 (20+
20)/\∃(y:Unit),True/\(0:Nat)<0/\((20:Int)=0/\(20:Int)+20=20/\True)/\True))/\(((20:Int)<=0->False)->fits64 (0+1)/\(∃(x:Unit),True/\((0:Int)+1=1/\True)/\True)/\∀(x:Unit),
True->0<LIM/\((1:Int)<0->(∃(x:Unit),False/\True/\True)/\∀(x:Unit),False->0<LIM/\False)/\(((1:Int)<0->False)->(∃(x:Unit),True/\((20:Int)=20/\True)/\True)/\∀(x:Unit),True->0
<LIM/\((20:Int)<0->fits64 (2*20)/\(∃(x:Unit),False/\True/\True)/\∀(x:Unit),False->0<LIM/\False)/\(((20:Int)<0->False)->(∃(x:Unit),True/\((0:Int)=0/\True/\True)/\True)/\∀(x:
Unit),True->0<LIM/\((0:Int)<0->False)/\(((0:Int)<0->False)->D.nil=D.nil)))))):=by intros;kernel_rfl
theorem zze:∀(c l:D),zah (zoe or0 c l) 7 (96:FuncId) [V.dat (22:TypeId) c,V.dat (130:TypeId) l] (V.dat (57:TypeId) (grD c l))=(c.len<=100/\((((∃(x:Nat),x=0/\(0=(x:Int)/\True)/\(True/\
True)/\True)\/∃(x:Nat),(0<x/\x<=l.len)/\(0=(x:Int)/\True)/\(False/\True)/\False/\True)/\(∀(x:Nat),x=0->l.len-x<LIM/\((x:Int)<(l.len:Int)->0<=(x:Int)/\(x:Int)<(l.len:Int)
/\0+1<= [pl (el l x)].length/\(1:Nat)<=16777216/\fits64 ((x:Int)+1)/\((∃(y:Nat),y=0/\l.len-y<l.len-x/\((x:Int)+1=(y:Int)/\True)/\(False/\True)/\True)\/∃(y:Nat),(0<y/\y<=
l.len)/\l.len-y<l.len-x/\((x:Int)+1=(y:Int)/\True)/\(((0:Nat)=0/\1=y/\True)/\True)/\List.take 1 [pl (el l x)]=zdl l y/\True))/\(((x:Int)<(l.len:Int)->False)->∃(x:Unit),True/\
(False/\True)/\False/\True))/\∀(x:Nat),0<x/\x<=l.len->l.len-x<LIM/\((x:Int)<(l.len:Int)->0<=(x:Int)/\(x:Int)<(l.len:Int)/\0+1<= [pl (el l x)].length/\0+x<=(zdl l x).length/\x+
1<=16777216/\fits64 ((x:Int)+1)/\((∃(y:Nat),y=0/\l.len-y<l.len-x/\((x:Int)+1=(y:Int)/\True)/\(False/\True)/\True)\/∃(y:Nat),(0<y/\y<=l.len)/\l.len-y<l.len-x/\((x:Int)+
1=(y:Int)/\True)/\(((0:Nat)=0/\x+1=y/\True)/\True)/\List.take x (zdl l x)++List.take 1 [pl (el l x)]=zdl l y/\True))/\(((x:Int)<(l.len:Int)->False)->∃(x_1:Unit),True/\(((0:Nat)=
0/\x=l.len/\True)/\True)/\zdl l x=zdl l l.len/\True))/\∀(x:Unit),True->(∃(x:Nat),(x=0\/x=20/\(zdl l l.len).length=20)/\(0=(x:Int)/\20=(x:Int)+20/\True)/\zdl l l.len=zb2
(zaU c) (zdl l l.len) 0 x/\True)/\∀(x:Nat),x=0\/x=20/\(zdl l l.len).length=20->40-x<LIM/\((x:Int)+20<=(l.len:Int)->fits64 ((x:Int)+1)/\(∃(x_1:Nat),((x:Int)=0/\1<=x_1/\(x_1:
Int)<=max ((x:Int)+20) 1\/((x:Int)=0->False)/\(x_1:Int)=(x:Int)+1/\(x:Int)+20<=(x:Int))/\((x:Int)+1=(x_1:Int)/\True)/\zb2 (zaU c) (zdl l l.len) 0 x=rA c l x x_1/\True)/\∀
(x_1:Nat),(x:Int)=0/\1<=x_1/\(x_1:Int)<=max ((x:Int)+20) 1\/((x:Int)=0->False)/\(x_1:Int)=(x:Int)+1/\(x:Int)+20<=(x:Int)->((x:Int)+20).toNat-x_1<LIM/\((x_1:Int)<(x:
Int)+20->zwE c l x x_1 ((x:Int)+20))/\(((x_1:Int)<(x:Int)+20->False)->fits64 ((x:Int)+20+20)/\∃(y:Nat),(y=0\/y=20/\(zdl l l.len).length=20)/\40-y<40-x/\((x:Int)+20=(y
:Int)/\(x:Int)+20+20=(y:Int)+20/\True)/\rA c l x x_1=zb2 (zaU c) (zdl l l.len) 0 y/\True))/\(((x:Int)+20<=(l.len:Int)->False)->fits64 ((x:Int)+1)/\(∃(x_1:Nat),((x:Int)=0/\1<=
x_1/\(x_1:Int)<=max (l.len:Int) 1\/((x:Int)=0->False)/\(x_1:Int)=(x:Int)+1/\(l.len:Int)<=(x:Int))/\((x:Int)+1=(x_1:Int)/\True)/\zb2 (zaU c) (zdl l l.len) 0 x=rA c l x x_1/\
True)/\∀(x_1:Nat),(x:Int)=0/\1<=x_1/\(x_1:Int)<=max (l.len:Int) 1\/((x:Int)=0->False)/\(x_1:Int)=(x:Int)+1/\(l.len:Int)<=(x:Int)->l.len-x_1<LIM/\((x_1:Int)<(l.len:Int)->
zwE c l x x_1 (l.len:Int))/\(((x_1:Int)<(l.len:Int)->False)->(∃(x:Unit),True/\((20:Int)=20/\True)/\True)/\∀(x_2:Unit),True->0<LIM/\(20<(l.len:Int)->fits64 (2*20)/\(∃(x:Unit),
False/\True/\True)/\∀(x:Unit),False->0<LIM/\False)/\((20<(l.len:Int)->False)->∃(x_3:Unit),True/\(((0:Nat)=0/\l.len=l.len/\True)/\True)/\rA c l x x_1=za0 c l/\True))))/\∀(x:Unit),
True->((∃(x:Nat),x=0/\((0:Int)=0/\True/\True)/\True)\/∃(x:Nat),(0<x/\x<=l.len)/\(0=(x:Int)/\False/\True)/\False/\True)/\(∀(x:Nat),x=0->l.len-x<LIM/\(0<(l.len:Int)->(0:
Int)<=0/\0<(l.len:Int)/\0<(za0 c l).length/\((((0:Int)=0->False)->fits64 (0-1)/\(0:Int)<=0-1/\0-1<(l.len:Int)/\((0:Int)-1).toNat<(za0 c l).length/\okT c (zad (za0 c l) ((0:
Int)-1).toNat) (zad (za0 c l) 0)/\((cmT c (zad (za0 c l) ((0:Int)-1).toNat) (zad (za0 c l) 0)=0->False)->0+1<= [D.nil].length/\(1:Nat)<=16777216/\∃(x:List D),(x=zd8 (zaU c) (za0 c l) [] 0
/\0<x.length)/\(((0:Nat)=0/\1=x.length/\True)/\True)/\(List.take 1 [D.nil]=x/\zdo (List.take 1 [D.nil]))/\True)/\(((cmT c (zad (za0 c l) ((0:Int)-1).toNat) (zad (za0 c l) 0)=0->False)->
False)->∃(x:List D),(x=zd8 (zaU c) (za0 c l) [] 0/\0<x.length)/\(False/\True)/\False/\True))/\((0:Int)=0->0+1<= [D.nil].length/\(1:Nat)<=16777216/\∃(x:List D),(x=zd8 (zaU c) (za0 c
l) [] 0/\0<x.length)/\(((0:Nat)=0/\1=x.length/\True)/\True)/\(List.take 1 [D.nil]=x/\zdo (List.take 1 [D.nil]))/\True))/\∀(x_1:List D),x_1=zd8 (zaU c) (za0 c l) [] 0/\0<x_1.length->zvK
c l 0 x x_1)/\((0<(l.len:Int)->False)->D.nil=grD c l))/\∀(x:Nat),0<x/\x<=l.len->l.len-x<LIM/\((x:Int)<(l.len:Int)->0<=(x:Int)/\(x:Int)<(l.len:Int)/\x<(za0 c l).length/\((((x
:Int)=0->False)->fits64 ((x:Int)-1)/\0<=(x:Int)-1/\(x:Int)-1<(l.len:Int)/\((x:Int)-1).toNat<(za0 c l).length/\okT c (zad (za0 c l) ((x:Int)-1).toNat) (zad (za0 c l) x)/\((cmT c
(zad (za0 c l) ((x:Int)-1).toNat) (zad (za0 c l) x)=0->False)->0+1<= [D.nil].length/\(0:Nat)<1/\zdo (List.take 1 [D.nil])/\(0:Nat)=0/\(grL (zaU c) (za0 c l) x).length=(grL (zaU c) (za0
c l) x).length/\(grL (zaU c) (za0 c l) x).length+1<=16777216/\∃(x_1:List D),(x_1=zd8 (zaU c) (za0 c l) (grL (zaU c) (za0 c l) x) x/\0<x_1.length)/\(((0:Nat)=0/\(grL (zaU c) (za0 c l)
x).length+1=x_1.length/\True)/\True)/\grL (zaU c) (za0 c l) x++List.take 1 [D.nil]=x_1/\True)/\(((cmT c (zad (za0 c l) ((x:Int)-1).toNat) (zad (za0 c l) x)=0->False)->False)->∃(x_1:List D),
(x_1=zd8 (zaU c) (za0 c l) (grL (zaU c) (za0 c l) x) x/\0<x_1.length)/\(((0:Nat)=0/\(grL (zaU c) (za0 c l) x).length=x_1.length/\True)/\True)/\grL (zaU c) (za0 c l) x=x_1/\True))/\((x:Int)
=0->0+1<= [D.nil].length/\(0:Nat)<1/\zdo (List.take 1 [D.nil])/\(0:Nat)=0/\(grL (zaU c) (za0 c l) x).length=(grL (zaU c) (za0 c l) x).length/\(grL (zaU c) (za0 c l) x).length+1<=16777216/\
∃(x_1:List D),(x_1=zd8 (zaU c) (za0 c l) (grL (zaU c) (za0 c l) x) x/\0<x_1.length)/\(((0:Nat)=0/\(grL (zaU c) (za0 c l) x).length+1=x_1.length/\True)/\True)/\grL (zaU c) (za0 c l) x++
List.take 1 [D.nil]=x_1/\True))/\∀(x_1:List D),x_1=zd8 (zaU c) (za0 c l) (grL (zaU c) (za0 c l) x) x/\0<x_1.length->zvK c l x x x_1)/\(((x:Int)<(l.len:Int)->False)->0+(grL (zaU c) (za0 c
l) x).length<=(grL (zaU c) (za0 c l) x).length/\zfv (grL (zaU c) (za0 c l) x)/\(zak (zoe or0 c l).P 34=true/\zay (zoe or0 c l).P 34 1=true)/\D.list (List.take (grL (zaU c) (za0 c l) x).length
(grL (zaU c) (za0 c l) x))=grD c l)):=by intros;kernel_rfl
theorem zgt (g:D) (n:Nat):(plL g n).length=n:=by unfold plL;rw [List.length_map,List.length_range]
theorem zrB (g:D) (x:Nat):plL g (x+1)=plL g x++ [plG g x]:=by unfold plL;rw [List.range_succ,List.map_append];rfl
theorem zrR {A B:List D} {n x:Nat} {z d:D} (hA:A.length=x) (hx:x<n):(A++(List.replicate n z).drop x).set x d=A++ [d]++(List.replicate n z).drop (x+1):=by
 rw [List.set_append_right _ _ (by omega),hA,Nat.sub_self,List.drop_replicate,List.drop_replicate,show n-x=(n-(x+1))+1 by omega,List.replicate_succ,List.set_cons_zero,List.append_assoc];rfl
theorem s97 (g:D) (h:g.len<=100):zah (zoe (λ_=>none) .nil .nil) 3 97 [.dat 23 g] (.dat 130 (.list (plL g g.len))):=by
 rw [zzf]
 have hb:(zoe (λ_=>none) D.nil D.nil).P.types[(126:Nat)].bytes=120:=by kernel_rfl
 refine ⟨by omega,by omega,by omega,by rw [hb];omega,⟨0,Nat.zero_le _,And.intro rfl trivial,by rfl,trivial⟩,λx hx=>⟨zh0 h,λhlt=> ?_,λhge=> ?_⟩⟩
 .have hl:(plL g x).length=x:=zgt g x
  refine ⟨by omega,hlt,by omega,hlt, ?_,⟨by omega,by omega⟩,x+1,(by show x+1<=g.len;omega),by omega,And.intro (by omega) trivial, ?_,trivial⟩
  .rw [List.length_append,hl,List.length_drop,List.length_replicate];omega
  .rw [zrR (B:= []) hl (by omega),zrB];rfl
 .have e:x=g.len:=zgT hx hge
  subst e
  refine ⟨?_, ?_⟩
  .rw [List.length_append,zgt];omega
  .rw [List.take_append_of_le_length (by rw [zgt];omega),List.take_of_length_le (by rw [zgt];omega)]
theorem zyx (c l:D) (hc:zaX c) (h:l.len=0):zah (zvH or0) 7 96 [.dat 22 c,.dat 130 l] (.dat 57 .nil):=by
 rw [zxs]
 have L:(0:Nat)<LIM:=by unfold LIM;omega
 have T:True:=trivial
 refine ⟨hc.out.1,⟨(),T,⟨rfl,T⟩,⟨T,T⟩,T⟩,λ_ _=>⟨L,λk=>by omega,λ_=>⟨⟨(),T,⟨rfl,rfl,T⟩,T⟩,λ_ _=>⟨L,λk=>by omega,λ_=>⟨⟨by omega,by omega⟩,⟨(),T,⟨rfl,T⟩,T⟩,λ_ _=>⟨L,λk=>by omega,λ_=>⟨⟨(),T,⟨rfl,T⟩,T⟩,λ_ _=>⟨L,λk=>by omega,λ_=>⟨⟨(),T,⟨rfl,T,T⟩,T⟩,λ_ _=>⟨L,λk=>by omega,λ_=>rfl⟩⟩⟩⟩⟩⟩⟩⟩⟩⟩
structure okP (p:D):Prop where
 out:pl p=p/\((p.fld 0).fld (Nat.succ 6).succ).len<=100
theorem zeJ (l:D) (n:Nat):(zdl l n).length=n:=by unfold zdl;rw [List.length_map,List.length_range]
theorem zps (l:D) (x:Nat):zdl l (x+1)=zdl l x++ [pl (el l x)]:=by unfold zdl;rw [List.range_succ,List.map_append];rfl
theorem zpr {l:D} (h:tgP l):∀p,p∈zdl l l.len->okP p:=λp hp=>by
 unfold zdl at hp
 obtain ⟨i,hi,rfl⟩:=List.mem_map.1 hp
 exact ⟨rfl,h.out i (List.mem_range.1 hi)⟩
theorem zlI {l:List D} {i:Nat} (h:i<l.length):zad l i∈l:=List.mem_of_getElem? (zb1 h)
theorem zrH {f:D->D->Int} {R:List D} {a:Int} {i:Nat} {p:D} (h:p∈zb2 f R a i):p∈R:=by
 unfold zb2 at h;split at h
 .rcases List.mem_append.1 h with h|h
  .exact List.mem_of_mem_take ((zeM _ _).mem_iff.1 h)
  .exact List.mem_of_mem_drop h
 .exact h
theorem zrJ {Q:List D} {i j:Nat} {p:D} (hj:j<=i) (hi:i<Q.length) (h:p∈zia Q i j):p∈Q:=by
 obtain ⟨k,hk⟩:=List.getElem?_of_mem h
 rw [zdQ Q hj hi] at hk
 split at hk
 .exact List.mem_of_getElem? hk
 .split at hk
  .exact List.mem_of_getElem? hk
  .split at hk<;>exact List.mem_of_getElem? hk
theorem znI {c:D} (hv:(zbB c).2=0) (P Q:D):cmT c P Q=zaU c P Q:=by
 unfold cmT zvT zaU zsF
 show (zcg _ (za7 c c.len).length 0).snd=_
 rw [zbA,<-zuf]
 congr 1
 exact zhq (n:=c.len) (λk hk=>by rw [zmf hk];exact zvq hv hk _ _ _ _) c.len 0 (by omega)
theorem zsB {c P Q:D} (hc:zaX c) (hv:(zbB c).2=0) (hP:okP P) (hQ:okP Q):okT c P Q:=
 ⟨⟨by rw [zbA];exact hc.out.1,λk hk=>by rw [zbA] at hk;rw [zmf hk];exact zry hc hv hk⟩,hP.out.2,hQ.out.2⟩
theorem zhz {x:Nat}:((x:Int)-1).toNat=x-1:=by omega
theorem zst {c l:D} (hc:zaX c) (hv:(zbB c).2=0) (h20:l.len<=20) (ht:tgP l) {x i:Nat} {b:Int} (hb:b<=l.len) (hx:x=0) (h1:1<=i) (hi:(i:Int)<b):zwE c l x i b:=by
 subst hx
 have hil:i<l.len:=by omega
 have hR:(zdl l l.len).length=l.len:=zeJ l l.len
 have eQ:rA c l 0 i=zb2 (zaU c) (zdl l l.len) 0 i:=by
  show zb2 _ (zb2 _ _ 0 0) 0 i=_
  rw [zpl]
 have hQl:(rA c l 0 i).length=l.len:=by rw [eQ,zlR,hR]
 have hiQ:i<(rA c l 0 i).length:=by omega
 have okQ:∀p,p∈rA c l 0 i->okP p:=λp hp=>by rw [eQ] at hp;exact zpr ht p (zrH hp)
 have okK:∀j,j<=i->∀k,k<l.len->okP (zad (rK c l 0 i j) k):=λj hj k hk=>okQ _ (zrJ hj hiQ (zlI (by show k<(zia _ _ _).length;rw [zib _ hj hiQ];omega)))
 have hKl:∀j,j<=i->(rK c l 0 i j).length=l.len:=λj hj=>by show (zia _ _ _).length=_;rw [zib _ hj hiQ,hQl]
 have hend:∀j,zev (zaU c) (zad (rA c l 0 i) i) (List.take i (rA c l 0 i)) i=j->rK c l 0 i j=zb2 (zaU c) (zb2 (zaU c) (zdl l l.len) 0 0) 0 (i+1):=λj hj=>by
  show zia _ _ _=_
  rw [zpl]
  rw [eQ] at hj⊢
  exact zpo (by omega) hj
 have hPl:(List.take i (rA c l 0 i)).length=i:=by rw [List.length_take];omega
 have hPn:∀k,k<i->zad (List.take i (rA c l 0 i)) k=zad (rA c l 0 i) k:=λk hk=>by unfold zad;rw [List.getElem?_take_of_lt hk]
 have step:∀(j:Nat),zev (zaU c) (zad (rA c l 0 i) i) (List.take i (rA c l 0 i)) i=j->(((-9223372036854775808:Int)<=(↑i:Int)+(1:Int)/\(↑i:Int)+(1:Int)<(9223372036854775808:Int))/\∃(y:Nat),(((0:Nat):Int)=(0:Int)/\(1:Nat)<=y/\(↑y:Int)<=max b (1:Int)\/(((0:Nat):Int)=(0:Int)->False)/\(↑y:Int)=((0:Nat):Int)+(1:Int)/\b<=((0:Nat):Int))/\b.toNat-y<b.toNat-i/\((↑i:Int)+(1:Int)=(↑y:Int)/\True)/\rK c l 0 i j=zb2 (zaU c) (zb2 (zaU c) (zdl l l.len) (0:Int) 0) ((0:Nat):Int) y/\True):=λj hj=>
  ⟨⟨by omega,by omega⟩,i+1,.inl ⟨rfl,by omega,by omega⟩,by omega,⟨by omega,trivial⟩,hend j hj,trivial⟩
 refine ⟨⟨i,⟨rfl,Nat.le_refl _,hiQ,rfl⟩,⟨rfl,trivial⟩,(zrL _ hiQ).symm,trivial⟩,λj hj=>⟨by unfold LIM;omega,λhlt=> ?_,λhge=> ?_⟩⟩
 .obtain ⟨_,hji,_,hcut⟩:=hj
  have h0:0<j:=by omega
  have e1:zad (rK c l 0 i j) j=zad (rA c l 0 i) i:=zua _ hji hiQ
  have e2:zad (rK c l 0 i j) (j-1)=zad (rA c l 0 i) (j-1):=zrK _ h0 hji hiQ
  have o1:=okK j hji j (by omega)
  have o2:=okK j hji (j-1) (by omega)
  have p1:=o1.out.1
  have p2:=o2.out.1
  have lk:=hKl j hji
  rw [zhz]
  refine ⟨by omega,by omega,by omega,⟨by omega,by omega⟩,by omega,by omega,by omega,zsB hc hv o1 o2,λhneg=> ?_,λhpos=> ?_⟩
  .rw [znI hv,e1,e2] at hneg
   have hc1:=zuV (f:=zaU c) (e:=zad (rA c l 0 i) i) (P:=List.take i (rA c l 0 i)) h0 (by omega) (by rw [hPn _ (by omega)];exact hneg)
   refine ⟨⟨by omega,by omega⟩,⟨by omega,by omega⟩,by omega,by omega,by omega,by omega,by omega,by omega,by omega,by omega,by omega,by omega,by omega, ?_,⟨by omega,by omega⟩,j-1,⟨rfl,by omega,hiQ,hc1.trans hcut⟩,by omega,⟨by omega,trivial⟩, ?_,trivial⟩
   .rw [List.length_set];omega
   .rw [p1,p2,e1,e2];exact zpq _ h0 hji hiQ
  .have hpos:¬cmT c (zad (rK c l 0 i j) j) (zad (rK c l 0 i j) (j-1))<0:=hpos
   rw [znI hv,e1,e2] at hpos
   have hc1:=zqX (f:=zaU c) (e:=zad (rA c l 0 i) i) (P:=List.take i (rA c l 0 i)) h0 (by omega) (by rw [hPn _ (by omega)];exact hpos)
   exact step j (hcut.symm.trans hc1)
 .obtain ⟨_,hji,_,hcut⟩:=hj
  have h0:j=0:=by have h:¬(((0:Nat):Int)<(j:Int)):=hge;omega
  subst h0
  exact step 0 (hcut.symm.trans rfl)
theorem zif (c l:D):(za0 c l).length=l.len:=by unfold za0;rw [zgC,zeJ]
theorem zpI {c l:D} (ht:tgP l):∀k,k<l.len->okP (zad (za0 c l) k):=λk hk=>zpr ht _ ((zeM _ _).mem_iff.1 (zlI (Nat.lt_of_lt_of_eq hk (zif c l).symm)))
theorem zqz {f:D->D->Int} {Q R:List D} {x:Nat} (h:x=0\/f (zad Q (x-1)) (zad Q x)≠0):zd8 f Q R x=R++ [.nil]:=by unfold zd8;rw [if_pos ⟨h⟩]
theorem zuQ {f:D->D->Int} {Q R:List D} {x:Nat} (h0:x≠0) (h:f (zad Q (x-1)) (zad Q x)=0):zd8 f Q R x=R:=by unfold zd8;rw [if_neg (λk=>k.out.elim h0 (λk=>k h))]
theorem zoC (f:D->D->Int) (Q:List D) (x:Nat):zfv (grL f Q x):=⟨λn hn=>by
 unfold grL at hn
 obtain ⟨g,_,hg⟩:=List.mem_map.1 hn
 cases hg⟩
theorem zso (f:D->D->Int) (Q:List D) (x:Nat):(grL f Q x).length<=Q.length:=by
 unfold grL
 rw [List.length_map]
 have hn:=zjF (f:=f) (Q.take x)
 have hf:=congrArg List.length (zc4 (f:=f) (Q.take x))
 have:∀o:List (List D),(∀g,g∈o->g≠ [])->o.length<=o.flatten.length:=by
  intro o
  induction o with
  |nil=>intro _;exact Nat.le_refl _
  |cons g o ih=>
   intro h
   have h1:=List.length_pos_iff.2 (h g (List.mem_cons_self ..))
   have h2:=ih (λg hg=>h g (List.mem_cons_of_mem _ hg))
   rw [List.flatten_cons,List.length_append,List.length_cons];omega
 have:=this _ hn
 rw [hf,List.length_take] at this
 omega
theorem zs4 {d:D} {r:List D} (h:d= .list r):d.asList=r:=by rw [h];rfl
theorem zko {l:List D} (h:0<l.length):D.list l=za6 l:=by
 cases l with
 |nil=>cases h
 |cons a l=>rfl
theorem zmB {L:List D} (h:0<L.length):((L.length:Int)-1).toNat=L.length-1:=by omega
theorem zsp {c l:D} (h20:l.len<=20) {x x0:Nat} (hx:x<l.len) (e0:x0=x) {L:List D} (hL:L=zd8 (zaU c) (za0 c l) (grL (zaU c) (za0 c l) x) x/\0<L.length):zvK c l x x0 L:=by
 subst e0
 obtain ⟨hL,h0⟩:=hL
 have hS:=zif c l
 obtain ⟨_,g2,g3,g4,g5⟩:=zkh (f:=zaU c) (Q:=za0 c l) (x:=x0) (by omega)
 rw [<-hL] at g2 g3 g4 g5
 have hle:=zso (zaU c) (za0 c l) (x0+1)
 unfold zvK
 rw [zmB h0]
 have T:True:=trivial
 have one:List.take 1 [D.int ((zad (za0 c l) x0).fld 1).asInt]= [D.int ((zad (za0 c l) x0).fld 1).asInt]:=rfl
 refine ⟨⟨by omega,by omega⟩,by omega,by omega,by omega,λhn=> ?_,λr hr=> ?_,λn hn=>g5 n hn⟩
 .exact ⟨Nat.le_refl _,by omega,by omega,by omega,by omega,T,rfl,rfl,T,⟨by omega,by omega⟩,.inr ⟨x0+1,⟨by omega,by omega⟩,by omega,⟨by omega,⟨rfl,g2,T⟩,T⟩,g3 hn,T⟩⟩
 .have hrl:r.length<=20\/20<r.length:=by omega
  have har:(zad L (L.length-1)).asList=r:=zs4 hr
  have hlen:(zad L (L.length-1)).len=r.length:=by rw [hr];rfl
  have hbig:r.length+1<=l.len:=by
   have e:=g4 r hr
   have hin:(r++ [D.int ((zad (za0 c l) x0).fld 1).asInt]).length<=l.len:=by
    have hm:D.list (r++ [D.int ((zad (za0 c l) x0).fld 1).asInt])∈grL (zaU c) (za0 c l) (x0+1):=by
     rw [<-e];exact List.mem_of_getElem? (i:=L.length-1) (by rw [List.getElem?_set,if_pos rfl,if_pos (by omega)])
    unfold grL at hm
    obtain ⟨g,hg,hgl⟩:=List.mem_map.1 hm
    unfold zjt at hgl
    have hgl:=D.list.inj hgl
    rw [<-hgl,List.length_map]
    have hf:=congrArg List.length (zc4 (f:=zaU c) ((za0 c l).take (x0+1)))
    rw [List.length_take] at hf
    have:=List.length_flatten (L:=zc3 (zaU c) ((za0 c l).take (x0+1)))
    have hsub:g.length<=(zc3 (zaU c) ((za0 c l).take (x0+1))).flatten.length:=(List.sublist_flatten_of_mem hg).length_le
    omega
   rw [List.length_append] at hin
   exact hin
  rw [har]
  refine ⟨by omega,hlen.symm,⟨r,hr⟩,Nat.le_refl _,Nat.le_refl _,by omega,by omega,by omega,by omega,by rw [List.length_set];omega,T,rfl, ?_,T,⟨by omega,by omega⟩,.inr ⟨x0+1,⟨by omega,by omega⟩,by omega,⟨by omega,⟨rfl,g2,T⟩,T⟩, ?_,T⟩⟩
  .rw [List.take_of_length_le (Nat.le_refl _),one,List.length_append];rfl
  .rw [List.take_of_length_le (Nat.le_refl _),one,List.set_set];exact g4 r hr
theorem s96 (c l:D) (hc:zaX c) (hv:(zbB c).2=0) (h0:0<l.len) (h20:l.len<=20) (ht:tgP l):zah (zoe or0 c l) 7 96 [.dat 22 c,.dat 130 l] (.dat 57 (grD c l)):=by
 rw [zze]
 have T:True:=trivial
 have L:∀n:Nat,n<=1000->n<LIM:=λn hn=>by unfold LIM;omega
 have hR:(zdl l l.len).length=l.len:=zeJ l l.len
 have hS:=zif c l
 have A0:zb2 (zaU c) (zdl l l.len) 0 0=zdl l l.len:=zpl _ _
 refine ⟨hc.out.1,⟨⟨.inl ⟨0,rfl,⟨rfl,T⟩,⟨T,T⟩,T⟩,λx hx=>⟨L _ (by omega),λhlt=> ?_,λhge=> ?_⟩,λx hx=>⟨L _ (by omega),λhlt=> ?_,λhge=> ?_⟩⟩,λ_ _=>⟨?_,λa ha=>⟨L _ (by omega),λhle=> ?_,λhgt=> ?_⟩⟩⟩,λ_ _=>⟨.inl ⟨0,rfl,⟨rfl,T,T⟩,T⟩,λx hx=>⟨L _ (by omega),λhlt=> ?_,λhge=> ?_⟩,λx hx=>⟨L _ (by omega),λhlt=> ?_,λhge=> ?_⟩⟩⟩
 .subst hx
  exact ⟨by omega,hlt,Nat.le_refl _,by omega,⟨by omega,by omega⟩,.inr ⟨1,⟨by omega,by omega⟩,by omega,⟨rfl,T⟩,⟨⟨rfl,rfl,T⟩,T⟩,rfl,T⟩⟩
 .exact absurd h0 (by have h:¬((x:Int)<l.len):=hge;omega)
 .refine ⟨by omega,hlt,Nat.le_refl _,by rw [zeJ];omega,by omega,⟨by omega,by omega⟩,.inr ⟨x+1,⟨by omega,by omega⟩,by omega,⟨by omega,T⟩,⟨⟨rfl,rfl,T⟩,T⟩, ?_,T⟩⟩
  rw [List.take_of_length_le (by rw [zeJ];omega),zps];rfl
 .have e:x=l.len:=zgT hx.2 hge
  exact ⟨(),T,⟨⟨rfl,e,T⟩,T⟩,by rw [e],T⟩
 .exact ⟨0,.inl rfl,⟨rfl,rfl,T⟩,A0.symm,T⟩
 .have ha0:a=0:=by omega
  subst ha0
  refine ⟨⟨by omega,by omega⟩,⟨1,.inl ⟨rfl,by omega,by omega⟩,⟨rfl,T⟩, ?_,T⟩,λi hi=>⟨L _ (by omega),λhlt=> ?_,λhge=> ?_⟩⟩
  .show _=zb2 _ (zb2 _ _ 0 0) 0 1
   rw [A0,zpm]
  .exact zst hc hv h20 ht (by omega) rfl (by omega) hlt
  .have hge:¬((i:Int)<((0:Nat):Int)+20):=hge
   have hi20:i=20:=by omega
   refine ⟨⟨by omega,by omega⟩,20,.inr ⟨rfl,by omega⟩,by omega,⟨by omega,by omega,T⟩, ?_,T⟩
   rw [hi20]
   show zb2 _ (zb2 _ _ 0 0) 0 20=_
   rw [A0]
 .have hgt:¬((a:Int)+20<=(l.len:Int)):=hgt
  refine ⟨⟨by omega,by omega⟩,⟨a+1, ?_,⟨by omega,T⟩, ?_,T⟩,λi hi=>⟨L _ (by omega),λhlt=> ?_,λhge=> ?_⟩⟩
  .rcases ha with h|h
   .exact .inl ⟨by omega,by omega,by omega⟩
   .exact .inr ⟨(λk=>by omega),by omega,by omega⟩
  .rcases ha with h|h
   .subst h
    show _=zb2 _ (zb2 _ _ 0 0) 0 1
    rw [A0,zpm]
   .show _=zb2 _ (zb2 _ _ 0 a) a (a+1)
    rw [zsK (a:=(a:Int)) (by omega)]
  .exact zst hc hv h20 ht (by omega) (by omega) (by omega) hlt
  .have hge:¬((i:Int)<(l.len:Int)):=hge
   refine ⟨⟨(),T,⟨rfl,T⟩,T⟩,λ_ _=>⟨L _ (by omega),λk=>by omega,λ_=>⟨(),T,⟨⟨rfl,rfl,T⟩,T⟩, ?_,T⟩⟩⟩
   rcases ha with h|h
   .subst h
    show zb2 _ (zb2 _ _ 0 0) 0 i=_
    rw [A0,zlQ _ _ (by omega)];rfl
   .show zb2 _ (zb2 _ _ 0 a) a i=_
    rw [zsK (a:=(a:Int)) (by omega),zlQ _ _ (by omega)];rfl
 .subst hx
  have hb:zd8 (zaU c) (za0 c l) [] 0= [.nil]:=zqz (.inl rfl)
  refine ⟨by omega,hlt,by omega,⟨(λk=>absurd rfl k),λ_=>⟨Nat.le_refl _,by omega,[.nil],⟨hb.symm,Nat.zero_lt_one⟩,⟨⟨rfl,rfl,T⟩,T⟩,⟨rfl,⟨λd hd=>by simpa using hd⟩⟩,T⟩⟩,λQ hQ=> ?_⟩
  exact zsp h20 h0 rfl hQ
 .exact absurd h0 (by have h:¬((0:Int)<l.len):=hge;omega)
 .have o1:=zpI (c:=c) ht x (by omega)
  have o2:okP (zad (za0 c l) ((x:Int)-1).toNat):=zpI (c:=c) ht _ (by omega)
  have hgl:=zso (zaU c) (za0 c l) x
  have e1:List.take 1 [D.nil]= [D.nil]:=rfl
  refine ⟨by omega,hlt,by omega,⟨(λ_=>⟨⟨by omega,by omega⟩,by omega,by omega,by omega,zsB hc hv o2 o1,(λhne=>⟨Nat.le_refl _,Nat.zero_lt_one,⟨λd hd=>by simpa using hd⟩,rfl,rfl,by omega,_,⟨rfl, ?_⟩,⟨⟨rfl, ?_,T⟩,T⟩, ?_,T⟩),λheq=>⟨_,⟨rfl, ?_⟩,⟨⟨rfl, ?_,T⟩,T⟩, ?_,T⟩⟩),λk=>by omega⟩,λQ hQ=>zsp h20 (by omega) rfl hQ⟩
  all_goals
   rw [znI hv,zhz] at*
  .rw [zqz (.inr hne),List.length_append];exact Nat.succ_pos _
  .rw [zqz (.inr hne),List.length_append];rfl
  .rw [zqz (.inr hne)];rfl
  .exact (zkh (f:=zaU c) (Q:=za0 c l) (by omega)).1
  .rw [zuQ (by omega) (Classical.byContradiction heq)]
  .rw [zuQ (by omega) (Classical.byContradiction heq)]
 .have e:x=l.len:=zgT hx.2 hge
  refine ⟨by omega,zoC _ _ _,⟨by kernel_rfl,by kernel_rfl⟩, ?_⟩
  rw [List.take_of_length_le (Nat.le_refl _),e]
  show D.list _=za6 _
  refine zko ?_
  have:=(zkh (f:=zaU c) (Q:=za0 c l) (x:=l.len-1) (by omega))
  rw [show l.len-1+1=l.len by omega] at this
  omega
end
end Go.Ev

end

section
open Go.Proofs
namespace Go.Ev
noncomputable section
set_option maxRecDepth 100000
set_option maxHeartbeats 4000000
theorem zy7:∀(c g:D),zah (zqV os0 D.nil D.nil) 4 (34:FuncId) [V.dat (22:TypeId) c,V.dat (23:TypeId) g] (V.dat (57:TypeId) (orD c g))=(((g.len:Int)<=64->zaX c/\(((zbB c).snd=0->False)->
D.nil=orD c g)/\((((zbB c).snd=0->False)->False)->g.len<=100/\((zaX c/\(zbB c).snd=0)/\(plL g g.len).length<=20/\tgP (D.list (plL g g.len)))/\grD c (D.list (plL g g.len))=orD c g))/\(((g.len:
Int)<=64->False)->D.nil=orD c g)):=by intros;kernel_rfl
theorem zxv {n:Nat} (h:n<=10000000):n<LIM:=by unfold LIM;omega
end
end Go.Ev

end

section
open Go.Proofs
namespace Go.Ev
noncomputable section
def rkZ (c g:D) (x y:Nat):Int:=zsF c (gAt (el g x),x) (gAt (el g y),y)
theorem zqd {α β:Type} {A:α->Prop} {f:α->α->Int} (h:wkP A f) (m:β->α):wkP (λb=>A (m b)) (λa b=>f (m a) (m b)):=
 ⟨λa b=>h.rng _ _,λa b=>h.anti _ _,λa b c=>h.tri _ _ _⟩
theorem zxu {c:D} (hv:(zbB c).2=0) (g:D):wkP (λx:Nat=>inB x) (rkZ c g):=zqd (zmi hv) (λx:Nat=>(gAt (el g x),(x:Int)))
theorem zsV {c:D} (hv:(zbB c).2=0):wkP (λp:D=>inB (gP p).2) (zaU c):=zqd (zmi hv) gP
theorem zsn (g:D) (x:Nat):gP (plG g x)=(gAt (el g x),(x:Int)):=rfl
def plN (p:D):Nat:=(p.fld 1).asInt.toNat
theorem zub (g:D) (xs:List Nat):zdl (.list (xs.map (plG g))) (D.list (xs.map (plG g))).len=xs.map (plG g):=by
 unfold zdl
 apply List.ext_getElem?
 intro i
 rw [List.getElem?_map]
 rcases Nat.lt_or_ge i xs.length with h|h
 .rw [List.getElem?_range (by show i<(xs.map _).length;rw [List.length_map];exact h),List.getElem?_map,List.getElem?_eq_getElem h]
  show some (pl (zad (xs.map (plG g)) i))=_
  unfold zad
  rw [List.getElem?_map,List.getElem?_eq_getElem h];rfl
 .rw [List.getElem?_eq_none (by rw [List.length_range];show (xs.map _).length<=i;rw [List.length_map];exact h),List.getElem?_eq_none (by rw [List.length_map];exact h)];rfl
theorem ztH {s:List Nat} (h:s≠ []):iD s= .list (iL s):=by
 unfold iD iL;cases s with
 |nil=>exact absurd rfl h
 |cons a s=>rfl
theorem zly (s:List Nat):(iD s).len=s.length:=by
 unfold iD;show (za6 _).asList.length=_;rw [zfN];unfold iL;rw [List.length_map]
theorem ztG {s:List Nat} {i:Nat} (h:i<s.length):el (iD s) i= .int (s[i]:Nat):=by
 show zad (za6 _).asList i=_
 rw [zfN]
 unfold zad iL
 rw [List.getElem?_map,List.getElem?_eq_getElem h];rfl
theorem zjl (l:List D):(za6 l).len=l.length:=by show (za6 l).asList.length=_;rw [zfN]
theorem ztK {l:List D} {i:Nat} (h:i<l.length):el (za6 l) i=l[i]:=by
 show zad (za6 l).asList i=_
 rw [zfN];unfold zad;rw [List.getElem?_eq_getElem h];rfl
theorem zu8 {c g:D} (hv:(zbB c).2=0) {xs:List Nat} (hlt:∀x,x∈xs->x<64) (hinc:xs.Pairwise (· < ·)):
  ∃G:List (List Nat),grD c (.list (xs.map (plG g)))=za6 (G.map iD)/\zqn (rkZ c g) (λx=>(x:Int)) xs G:=by
 have hR:=zub g xs
 have hS:za0 c (.list (xs.map (plG g)))=ziL (zaU c) [] (xs.map (plG g)):=by unfold za0;rw [hR]
 have hA:∀p,p∈xs.map (plG g)->inB (gP p).2:=λp hp=>by
  obtain ⟨x,hx,rfl⟩:=List.mem_map.1 hp
  exact ⟨by rw [zsn];show (0:Int)<=x;omega,by rw [zsn];show (x:Int)<64;have:=hlt x hx;omega⟩
 have hsort:=zhu (zsV hv) (p:=λp=>(p.fld 1).asInt) (xs.map (plG g)) [] (λx hx=>by cases hx) hA .nil (λx y hx=>by cases hx) (by
  rw [List.pairwise_map]
  exact hinc.imp λ{a b} h=>by show (a:Int)<b;omega)
 have hperm:=zeM (f:=zaU c) (xs.map (plG g)) []
 generalize hSe:ziL (zaU c) [] (xs.map (plG g))=S at hS hsort hperm
 have hperm:S.Perm (xs.map (plG g)):=hperm
 have hgrp:=zpH (zsV hv) (p:=λp=>(p.fld 1).asInt) S (λp hp=>hA p (hperm.mem_iff.1 hp)) hsort
 have hmem:∀G,G∈zc3 (zaU c) S->∀p,p∈G->∃x,x∈xs/\p=plG g x:=λG hG p hp=>by
  have:p∈xs.map (plG g):=hperm.mem_iff.1 (hgrp.perm.mem_iff.1 (List.mem_flatten.2 ⟨G,hG,hp⟩))
  obtain ⟨x,hx,e⟩:=List.mem_map.1 this
  exact ⟨x,hx,e.symm⟩
 refine ⟨(zc3 (zaU c) S).map (·.map plN), ?_, ?_⟩
 .unfold grD grL
  have hlen:S.length=(D.list (xs.map (plG g))).len:=hperm.length_eq
  rw [hS,<-hlen,List.take_length,List.map_map]
  congr 1
  refine List.map_congr_left λG hG=> ?_
  have hne:=hgrp.ne G hG
  show zjt G=iD (G.map plN)
  rw [ztH (by intro h;exact hne (List.map_eq_nil_iff.1 h))]
  unfold zjt iL
  rw [List.map_map]
  congr 1
  refine List.map_congr_left λp hp=> ?_
  obtain ⟨x,_,rfl⟩:=hmem G hG p hp
  rfl
 .refine ⟨?_,λG' hG'=> ?_,λG' hG'=> ?_,λG' hG'=> ?_, ?_⟩
  .have h1:=(hgrp.perm.trans hperm).map plN
   rw [List.map_map] at h1
   have e:(plN∘plG g)=id:=by funext x;rfl
   rw [e,List.map_id] at h1
   rw [List.map_flatten] at h1
   exact h1
  .obtain ⟨G,hG,rfl⟩:=List.mem_map.1 hG'
   intro h;exact hgrp.ne G hG (List.map_eq_nil_iff.1 h)
  .obtain ⟨G,hG,rfl⟩:=List.mem_map.1 hG'
   rw [List.pairwise_map]
   refine (hgrp.inc G hG).imp_of_mem λ{a b} ha hb hab=> ?_
   obtain ⟨x,_,rfl⟩:=hmem G hG a ha
   obtain ⟨y,_,rfl⟩:=hmem G hG b hb
   exact hab
  .obtain ⟨G,hG,rfl⟩:=List.mem_map.1 hG'
   intro x y hx hy
   obtain ⟨a,ha,rfl⟩:=List.mem_map.1 hx
   obtain ⟨b,hb,rfl⟩:=List.mem_map.1 hy
   have t:=hgrp.tie G hG a b ha hb
   obtain ⟨x,_,rfl⟩:=hmem G hG a ha
   obtain ⟨y,_,rfl⟩:=hmem G hG b hb
   exact t
  .rw [List.pairwise_map]
   refine hgrp.bef.imp_of_mem λ{G H} hG hH hab x y hx hy=> ?_
   obtain ⟨a,ha,rfl⟩:=List.mem_map.1 hx
   obtain ⟨b,hb,rfl⟩:=List.mem_map.1 hy
   have t:=hab a b ha hb
   obtain ⟨x,_,rfl⟩:=hmem G hG a ha
   obtain ⟨y,_,rfl⟩:=hmem H hH b hb
   exact t
theorem zvy {g:D} (ht:tgG g) {xs:List Nat} (h:∀x,x∈xs->x<g.len):tgP (.list (xs.map (plG g))):=⟨λi hi=>by
 have hi:i<xs.length:=by have hi:i<(xs.map (plG g)).length:=hi;rwa [List.length_map] at hi
 show (gAt ((zad (xs.map (plG g)) i).fld 0)).tg.len<=100
 unfold zad
 rw [List.getElem?_map,List.getElem?_eq_getElem hi]
 exact ht.out xs[i] (h _ (List.getElem_mem hi))⟩
theorem zoE {f:Nat->Nat->Int} {p:Nat->Int} {xs:List Nat} {G:List (List Nat)} (h:zqn f p xs G):G.length<=xs.length/\∀s,s∈G->s.length<=xs.length:=by
 have hl:G.flatten.length=xs.length:=h.perm.length_eq
 refine ⟨?_,λs hs=>by rw [<-hl];exact (List.sublist_flatten_of_mem hs).length_le⟩
 rw [<-hl]
 have hn:=h.ne
 have gen:∀o:List (List Nat),(∀g,g∈o->g≠ [])->o.length<=o.flatten.length:=by
  intro o
  induction o with
  |nil=>intro _;exact Nat.le_refl _
  |cons g o ih=>
   intro h
   have h1:=List.length_pos_iff.2 (h g (List.mem_cons_self ..))
   have h2:=ih (λg hg=>h g (List.mem_cons_of_mem _ hg))
   rw [List.flatten_cons,List.length_append,List.length_cons];omega
 exact gen G hn
theorem zwY {G:List (List Nat)} {n:Nat} (hn:n<=100) (h1:G.length<=n) (h2:∀s,s∈G->s.length<=n):zpD (za6 (G.map iD)):=⟨by rw [zjl,List.length_map];omega,λi hi=>by
 rw [zjl] at hi
 rw [ztK hi,List.getElem_map,zly]
 have:=h2 _ (List.getElem_mem (by rwa [List.length_map] at hi:i<G.length));omega⟩
theorem zwD {G:List (List Nat)} {n m:Nat} (hn:n<=100) (h1:G.length<=n) (h2:∀s,s∈G->s.length<=n) (h3:∀s,s∈G->∀x,x∈s->x<m):zxE (za6 (G.map iD)) m:=⟨⟨by rw [zjl,List.length_map];omega,λi j hi hj=>by
 rw [zjl] at hi
 rw [ztK hi,List.getElem_map] at hj⊢
 rw [zly] at hj
 rw [ztG hj]
 have:=h3 _ (List.getElem_mem (by rwa [List.length_map] at hi:i<G.length)) _ (List.getElem_mem hj)
 show (0:Int)<=(_:Nat)/\((_:Nat):Int)<_
 omega⟩,zwY hn h1 h2⟩
theorem ztF {f:Nat->Nat->Int} {p:Nat->Int} {xs:List Nat} {G:List (List Nat)} (h:zqn f p xs G) {s:List Nat} (hs:s∈G) {x:Nat} (hx:x∈s):x∈xs:=h.perm.mem_iff.1 (List.mem_flatten.2 ⟨s,hs,hx⟩)
end
end Go.Ev

end

section
open Go.Proofs
namespace Go.Ev
noncomputable section
set_option maxRecDepth 100000
set_option maxHeartbeats 4000000
theorem zsJ {c g:D} (h:zkw c g) (hl:g.len<=64):g.len<=20/\tgG g:=by rcases h.out.2 with h|h<;>omega
theorem zvx {g:D} (ht:tgG g):tgP (plD g):=zvy ht λx hx=>List.mem_range.1 hx
theorem s34 (c g:D) (h:zkw c g):zah (zqV os0 .nil .nil) 4 34 [.dat 22 c,.dat 23 g] (.dat 57 (orD c g)):=by
 rw [zy7]
 refine ⟨λhl=>⟨h.out.1,λhb=> ?_,λhb=> ?_⟩,λhl=> ?_⟩
 .unfold orD;rw [if_neg λk=>hb k.out.2]
 .have hb:=Classical.byContradiction hb
  have hp:=zsJ h (by omega)
  refine ⟨by omega,⟨⟨h.out.1,hb⟩,by rw [zgt];exact hp.1,zvx hp.2⟩, ?_⟩
  unfold orD;rw [if_pos ⟨by omega,hb⟩];rfl
 .have hl:¬(g.len:Int)<=64:=hl
  unfold orD;rw [if_neg λk=>by have:=k.out.1;omega]
theorem zfQ (R:List D) (k:Int) (s:D):∀j,(ziK R k s j).length=R.length
 |0=>rfl
 |j+1=>by unfold ziK;rw [List.length_set];exact zfQ R k s j
theorem zcA (R:List D) (ll:D):∀k,(zbQ R ll k).length=R.length
 |0=>rfl
 |k+1=>by unfold zbQ;rw [zfQ];exact zcA R ll k
theorem zsE {c g:D} (h:okO c g):∃G:List (List Nat),orD c g=za6 (G.map iD)/\zqn (rkZ c g) (λx=>(x:Int)) (List.range g.len) G:=by
 unfold orD;rw [if_pos h]
 exact zu8 h.out.2 (λx hx=>by have:=List.mem_range.1 hx;have:=h.out.1;omega) List.pairwise_lt_range
theorem zwP {c g:D} (h:okO c g) (h20:g.len<=20):zxE (orD c g) g.len:=by
 obtain ⟨G,e,hG⟩:=zsE h
 rw [e]
 have hs:=zoE hG
 rw [List.length_range] at hs
 exact zwD (n:=g.len) (by omega) hs.1 hs.2 λs h1 x h2=>List.mem_range.1 (ztF hG h1 h2)
end
end Go.Ev

end

section
open Go.Proofs
namespace Go.Ev
noncomputable section
set_option maxRecDepth 100000
set_option maxHeartbeats 4000000
def ix (x:Nat×List Nat×List (List Nat)):D:=iD x.snd.fst
def tx (x:Nat×List Nat×List (List Nat)) (n:Nat):List Nat:=List.take n (sOf (iD x.snd.fst))
section
variable {x:Nat×List Nat×List (List Nat)} {c g:D} {n k y:Nat}
end
end
end Go.Ev

end

section
open Go.Proofs
namespace Go.Ev
noncomputable section
def I (n:Nat):Value:= .int .i64 (Int.ofNat n)
def U (n:Nat):Value:= .int .u8 (Int.ofNat n)
def Bw1:ABk:=ABk.cells [.string ⟨#[]⟩,I 0,I 0,.bool false,.bool false,.bool false,.string ⟨#[114,97,110,107]⟩,I 0,I 0,.bool false,.bool true,.bool true,.string ⟨#[101,108,100,101,114]⟩,I 0,I 0,.bool false,.bool false,.bool false,.string ⟨#[121,111,117,116,104]⟩,I 0,I 0,.bool false,.bool false,.bool false,.string ⟨#[115,105,100,101]⟩,I 1,I 2,.bool true,.bool false,.bool false,.string ⟨#[104,111,115,116]⟩,I 0,I 0,.bool true,.bool false,.bool false,.string ⟨#[116,111,110,103,117,101]⟩,I 0,I 0,.bool true,.bool true,.bool false,.string ⟨#[99,111,117,114,116]⟩,I 0,I 0,.bool true,.bool true,.bool false,.string ⟨#[110,97,109,101]⟩,I 0,I 0,.bool false,.bool false,.bool false,.string ⟨#[108,105,115,116]⟩,I 0,I 0,.bool false,.bool false,.bool false,.string ⟨#[108,111,116]⟩,I 0,I 63,.bool false,.bool false,.bool false] 196 0 none true
def Bw2:ABk:=ABk.cells [.int .u64 (Int.ofNat 1),.int .u64 (Int.ofNat 10),.int .u64 (Int.ofNat 100),.int .u64 (Int.ofNat 1000),.int .u64 (Int.ofNat 10000),.int .u64 (Int.ofNat 100000),.int .u64 (Int.ofNat 1000000),.int .u64 (Int.ofNat 10000000),.int .u64 (Int.ofNat 100000000),.int .u64 (Int.ofNat 1000000000),.int .u64 (Int.ofNat 10000000000),.int .u64 (Int.ofNat 100000000000),.int .u64 (Int.ofNat 1000000000000),.int .u64 (Int.ofNat 10000000000000),.int .u64 (Int.ofNat 100000000000000),.int .u64 (Int.ofNat 1000000000000000),.int .u64 (Int.ofNat 10000000000000000),.int .u64 (Int.ofNat 100000000000000000),.int .u64 (Int.ofNat 1000000000000000000),.int .u64 (Int.ofNat 10000000000000000000)] 270 0 none true
def Bw3:ABk:=ABk.cells [.string ⟨#[97,100,97]⟩,.string ⟨#[99,111,117,110,116]⟩,.string ⟨#[]⟩,I 0,I 2,.string ⟨#[]⟩,.bool false,.bool false,.slice none 0 0,.string ⟨#[98,101,97]⟩,.string ⟨#[100,117,107,101]⟩,.string ⟨#[]⟩,I 1700,I 0,.string ⟨#[]⟩,.bool false,.bool false,.slice none 0 0,.string ⟨#[99,121,114]⟩,.string ⟨#[100,117,107,101]⟩,.string ⟨#[]⟩,I 1650,I 0,.string ⟨#[]⟩,.bool false,.bool false,.slice none 0 0,.string ⟨#[100,97,110]⟩,.string ⟨#[]⟩,.string ⟨#[]⟩,I 0,I 1,.string ⟨#[]⟩,.bool false,.bool false,.slice none 0 0,.string ⟨#[101,118,97]⟩,.string ⟨#[99,111,117,110,116]⟩,.string ⟨#[]⟩,I 0,I 1,.string ⟨#[]⟩,.bool false,.bool false,.slice none 0 0] 53 9 none false
def Bw4:ABk:=ABk.cells [U 1,.string ⟨#[]⟩,.bool false,.slice (some ⟨9,0,none⟩) 2 2,I 0,U 2,.string ⟨#[100,117,107,101]⟩,.bool false,.slice none 0 0,I 0,U 4,.string ⟨#[]⟩,.bool false,.slice none 0 0,I 1,U 8,.string ⟨#[]⟩,.bool false,.slice none 0 0,I 0] 69 5 none false
def Bw5:ABk:=ABk.cells [.string ⟨#[100,117,107,101]⟩,.string ⟨#[99,111,117,110,116]⟩] 9 1 none false
def Bw6:ABk:=ABk.cells [U 1,.string ⟨#[]⟩,.bool false,.slice (some ⟨231,0,none⟩) 2 18446744073709551616,I 0,U 2,.string ⟨#[100,117,107,101]⟩,.bool false,.slice none 0 0,I 0,U 4,.string ⟨#[]⟩,.bool false,.slice none 0 0,I 1,U 8,.string ⟨#[]⟩,.bool false,.slice none 0 0,I 0] 69 5 (some 240) false
def Bw7:ABk:=ABk.cells [I 2,I 1,I 0,I 3,I 2] 3 1 none false
def Bw8:ABk:=ABk.cells [I 2,I 1,I 4,I 0,I 3] 3 1 (some 96) false
def Bw9:ABk:=ABk.cells [U 1,.string ⟨#[]⟩,.bool false,.slice (some ⟨231,0,none⟩) 2 18446744073709551616,I 0,U 2,.string ⟨#[100,117,107,101]⟩,.bool false,.slice none 0 0,I 0,U 4,.string ⟨#[]⟩,.bool false,.slice none 0 0,I 1] 69 5 (some 243) false
def zuv:ABk:=ABk.cells [I 2,I 1,I 4,I 0] 3 1 (some 97) false
def zvX:ABk:=ABk.cells [I 2,I 1,I 4,I 0,I 3] 3 1 none false
def zvY:ABk:=ABk.cells [I 0,I 1,I 2] 3 1 (some 148) false
def zvZ:ABk:=ABk.cells [I 0,I 1] 3 1 (some 150) false
def zv0:ABk:=ABk.cells [I 0,I 1,I 2] 3 1 none false
def sL (b o n c:Nat):Value:= .slice (some ⟨b,o,none⟩) n c
def tN {α:Type} (x:α):T α:=T.leaf.node (some x) T.leaf
def tE {α:Type}:T α:=T.leaf
def zna:Value:= .tuple {toList:= [sL 97 0 5 18446744073709551616,I 0]}
def zk8:Value:= .tuple {toList:= [sL 10 0 4 4,sL 11 0 5 5]}
def zqm:Value:= .tuple {toList:= [.slice none 0 0,I 32]}
def zr6:Value:= .tuple {toList:= [I 2,I 1]}
def zvD:Value:= .tuple {toList:= [sL 243 0 4 18446744073709551616,I 0,I 0]}
def s0:zab×zaa:=(⟨105,tN (.bool false),[]⟩,⟨tE.node (some Bw1) (tE.node none (tN Bw2)),9,9⟩)
def s1:zab×zaa:=(⟨105,((((tN (sL 11 0 5 5)).node none tE).node none tE).node (some (sL 10 0 4 4)) (tE.node none (tN zk8))).node (some (.bool false)) ((tE.node none (tN zk8)).node (some (sL 11
0 5 5)) (tE.node none (tN (sL 10 0 4 4)))),[]⟩,⟨((tE.node none (tN Bw3)).node none ((tN Bw5).node none tE)).node (some Bw1) (tE.node none ((tN Bw4).node (some Bw2) tE)),12,9⟩)
def s2:zab×zaa:=(⟨105,((((tN (sL 11 0 5 5)).node none tE).node (some (sL 97 0 5 18446744073709551616)) ((tN zna).node none tE)).node (some (sL 10 0 4 4)) (((tN (sL 10 0 4 4)).node none tE).node
none ((tN (I 0)).node (some zk8) tE))).node (some (.bool false)) ((((tN zna).node none tE).node (some (I 0)) ((tN (sL 97 0 5 18446744073709551616)).node (some zk8) tE)).node (some (sL 11 0 5 5)) (((tN (sL 11 0 5
5)).node none tE).node none (tN (sL 10 0 4 4)))),[]⟩,⟨((tE.node none (tN Bw3)).node none ((((tE.node none (tN Bw8)).node none tE).node (some Bw5) tE).node none tE)).node (some Bw1) (((((tE.node none (tN zuv)).node
none tE).node none tE).node none tE).node none ((tN Bw4).node (some Bw2) tE)),98,9⟩)
def s3:zab×zaa:=(⟨105,((((tN (sL 11 0 5 5)).node none (tN (sL 10 0 4 4))).node (some (sL 97 0 5 18446744073709551616)) ((tN zna).node none (tN (.slice none 0 0)))).node (some (sL 10 0 4 4))
(((tN (sL 10 0 4 4)).node none (tN (sL 11 0 5 5))).node (some (.slice none 0 0)) ((tN (I 0)).node (some zk8) tE))).node (some (.bool false)) ((((tN zna).node none (tN (sL 10 0 2 4))).node (some (I 0)) ((tN (sL 97 0 5
18446744073709551616)).node (some zk8) (tN (I 32)))).node (some (sL 11 0 5 5)) (((tN (sL 11 0 5 5)).node none (tN zqm)).node (some (I 32)) ((tN zqm).node (some (sL 10 0 4 4)) tE))),[]⟩,⟨((tE.node none (tN Bw3)).node
none ((((tE.node none (tN Bw8)).node none tE).node (some Bw5) tE).node none tE)).node (some Bw1) (((((tE.node none (tN zuv)).node none tE).node none tE).node none tE).node none ((tN Bw4).node (some Bw2) tE)),98,9⟩)
def s4:zab×zaa:=(⟨105,(((((tN (sL 11 0 5 5)).node (some (sL 11 0 5 5)) tE).node (some (I 2)) ((tN (I 1)).node (some (sL 10 0 4 4)) tE)).node (some (sL 97 0 5 18446744073709551616)) (((tN
(.pointer (some ⟨11,36,none⟩))).node (some zna) tE).node none (tN (.slice none 0 0)))).node (some (sL 10 0 4 4)) ((((tN (.agg {toList:= [.string ⟨#[97,100,97]⟩,.string ⟨#[99,111,117,110,116]⟩,.string ⟨#[]⟩,
I 0,I 2,.string ⟨#[]⟩,.bool false,.bool false,.slice none 0 0]})).node (some (sL 10 0 4 4)) tE).node none (tN (sL 11 0 5 5))).node (some (.slice none 0 0)) (((tN zr6).node (some (I 0)) tE).node (some zk8) (tN
zr6)))).node (some (.bool false)) (((((tN (.pointer (some ⟨11,0,none⟩))).node (some zna) tE).node (some (I 1)) (tN (sL 10 0 2 4))).node (some (I 0)) (((tN (.agg {toList:= [.string ⟨#[101,118,97]⟩,.string ⟨#[99,
111,117,110,116]⟩,.string ⟨#[]⟩,I 0,I 1,.string ⟨#[]⟩,.bool false,.bool false,.slice none 0 0]})).node (some (sL 97 0 5 18446744073709551616)) tE).node (some zk8) (tN (I 32)))).node (some (sL 11 0 5 5))
((((tN (sL 11 0 5 5)).node (some (sL 11 0 5 5)) tE).node none (tN zqm)).node (some (I 32)) (((tN (I 2)).node (some zqm) tE).node (some (sL 10 0 4 4)) (tN (sL 10 0 4 4))))),[]⟩,⟨((tE.node none (tN Bw3)).node none
((((tE.node none (tN Bw8)).node none tE).node (some Bw5) tE).node none tE)).node (some Bw1) (((((tE.node none (tN zuv)).node none tE).node none tE).node none tE).node none ((tN Bw4).node (some Bw2) tE)),98,9⟩)
def s5:zab×zaa:=(⟨105,((((((tN (sL 150 0 3 18446744073709551616)).node (some (sL 11 0 5 5)) tE).node (some (sL 11 0 5 5)) (tN (.bool false))).node (some (I 2)) (((tN (sL 11 0 5 5)).node (some (I
1)) tE).node (some (sL 10 0 4 4)) (tN (.bool false)))).node (some (sL 97 0 5 18446744073709551616)) ((((tN (.bool false)).node (some (.pointer (some ⟨11,36,none⟩))) tE).node (some zna) (tN (.bool false))).node none
(((tN (.bool false)).node (some (sL 97 0 5 18446744073709551616)) tE).node (some (.slice none 0 0)) (tN (.bool false))))).node (some (sL 10 0 4 4)) (((((tN (.bool true)).node (some (.agg {toList:= [.string ⟨#[97,100,
97]⟩,.string ⟨#[99,111,117,110,116]⟩,.string ⟨#[]⟩,I 0,I 2,.string ⟨#[]⟩,.bool false,.bool false,.slice none 0 0]})) tE).node (some (sL 10 0 4 4)) (tN (I 32))).node none (((tN (sL 222 0 5 5)).node (some
(.bool false)) tE).node (some (sL 11 0 5 5)) (tN (I 1)))).node (some (.slice none 0 0)) ((((tN (sL 10 0 4 4)).node (some zr6) tE).node (some (I 0)) (tN (I 2))).node (some zk8) ((tN (.bool true)).node (some zr6) (tN
(sL 10 0 4 4)))))).node (some (.bool false)) ((((((tN (sL 151 0 3 3)).node (some (.pointer (some ⟨11,0,none⟩))) tE).node (some zna) (tN (.bool false))).node (some (I 1)) (((tN (sL 152 0 5 5)).node (some (I 0))
tE).node (some (sL 10 0 2 4)) (tN (.bool false)))).node (some (I 0)) ((((tN (.bool false)).node (some (.agg {toList:= [.string ⟨#[101,118,97]⟩,.string ⟨#[99,111,117,110,116]⟩,.string ⟨#[]⟩,I 0,I 1,.string
⟨#[]⟩,.bool false,.bool false,.slice none 0 0]})) tE).node (some (sL 97 0 5 18446744073709551616)) (tN (.bool false))).node (some zk8) (((tN (.bool false)).node (some (sL 98 0 5 5)) tE).node (some (I 32)) (tN (.bool
false))))).node (some (sL 11 0 5 5)) (((((tN (.bool false)).node (some (sL 11 0 5 5)) tE).node (some (sL 11 0 5 5)) (tN (.bool false))).node none (((tN (.bool true)).node (some (.bool false)) tE).node (some zqm) (tN
(.bool false)))).node (some (I 32)) ((((tN (sL 10 0 2 4)).node (some (I 2)) tE).node (some zqm) (tN (.bool false))).node (some (sL 10 0 4 4)) ((tN (.bool false)).node (some (sL 10 0 4 4)) (tN (sL 11 0 5 5)))))),[]⟩,
⟨(((tE.node none (tE.node none (((tN zv0).node none tE).node none tE))).node none (tN Bw3)).node none ((((tE.node none (tN Bw8)).node none tE).node (some Bw5) tE).node none tE)).node (some Bw1) (((((tE.node none (tN
zuv)).node none tE).node none (tE.node none (((tN Bw7).node none tE).node none tE))).node none ((tE.node none (((tN zvZ).node none tE).node none tE)).node none tE)).node none ((((tE.node none (tN zvX)).node none
tE).node (some Bw4) tE).node (some Bw2) ((tE.node none (((tN zvY).node none tE).node none tE)).node none (tE.node none ((tE.node none (tN Bw7)).node none tE))))),223,9⟩)
def s7:zab×zaa:=(⟨105,((((((tN (sL 150 0 3 18446744073709551616)).node (some (sL 11 0 5 5)) tE).node (some (sL 11 0 5 5)) ((tN (sL 243 0 4 18446744073709551616)).node (some (.bool false))
tE)).node (some (I 2)) (((tN (sL 11 0 5 5)).node (some (I 1)) tE).node (some (sL 10 0 4 4)) (tN (.bool false)))).node (some (sL 97 0 5 18446744073709551616)) ((((tN (.bool false)).node (some (.pointer (some ⟨11,36,
none⟩))) tE).node (some zna) (tN (.bool false))).node (some (I 0)) (((tN (.bool false)).node (some (sL 97 0 5 18446744073709551616)) tE).node (some (.slice none 0 0)) (tN (.bool false))))).node (some (sL 10 0 4 4))
(((((tN (.bool true)).node (some (.agg {toList:= [.string ⟨#[97,100,97]⟩,.string ⟨#[99,111,117,110,116]⟩,.string ⟨#[]⟩,I 0,I 2,.string ⟨#[]⟩,.bool false,.bool false,.slice none 0 0]})) tE).node (some (sL
10 0 4 4)) ((tN (I 0)).node (some (I 32)) tE)).node (some (sL 243 0 4 18446744073709551616)) (((tN (sL 222 0 5 5)).node (some (.bool false)) tE).node (some (sL 11 0 5 5)) (tN (I 1)))).node (some (.slice none 0 0)) ((((tN
(sL 10 0 4 4)).node (some zr6) tE).node (some (I 0)) (tN (I 2))).node (some zk8) (((tN zvD).node (some (.bool true)) tE).node (some zr6) (tN (sL 10 0 4 4)))))).node (some (.bool false)) ((((((tN (sL 151 0 3 3)).node
(some (.pointer (some ⟨11,0,none⟩))) tE).node (some zna) ((tN (I 0)).node (some (.bool false)) tE)).node (some (I 1)) (((tN (sL 152 0 5 5)).node (some (I 0)) tE).node (some (sL 10 0 2 4)) (tN (.bool false)))).node
(some (I 0)) ((((tN (.bool false)).node (some (.agg {toList:= [.string ⟨#[101,118,97]⟩,.string ⟨#[99,111,117,110,116]⟩,.string ⟨#[]⟩,I 0,I 1,.string ⟨#[]⟩,.bool false,.bool false,.slice none 0 0]}))
tE).node (some (sL 97 0 5 18446744073709551616)) (tN (.bool false))).node (some zk8) (((tN (.bool false)).node (some (sL 98 0 5 5)) tE).node (some (I 32)) (tN (.bool false))))).node (some (sL 11 0 5 5)) (((((tN (.bool
false)).node (some (sL 11 0 5 5)) tE).node (some (sL 11 0 5 5)) (tN (.bool false))).node (some (I 0)) (((tN (.bool true)).node (some (.bool false)) tE).node (some zqm) (tN (.bool false)))).node (some (I 32)) ((((tN (sL
10 0 2 4)).node (some (I 2)) tE).node (some zqm) (tN (.bool false))).node (some (sL 10 0 4 4)) (((tN zvD).node (some (.bool false)) tE).node (some (sL 10 0 4 4)) (tN (sL 11 0 5 5)))))),[]⟩,⟨(((tE.node none ((tE.node
none (tE.node none (tN Bw5))).node none (((tN zv0).node none tE).node none tE))).node none ((tE.node none (tE.node none (tE.node none (tN Bw6)))).node (some Bw3) tE)).node none ((((tE.node none (tN Bw8)).node none
tE).node (some Bw5) tE).node none tE)).node (some Bw1) (((((tE.node none (tN zuv)).node none (tE.node none (tE.node none (tN Bw9)))).node none (tE.node none (((tN Bw7).node none tE).node none tE))).node none ((tE.node
none (((tN zvZ).node none tE).node none tE)).node none tE)).node none ((((tE.node none (tN zvX)).node none tE).node (some Bw4) tE).node (some Bw2) ((tE.node none (((tN zvY).node none tE).node none tE)).node none
(tE.node none ((tE.node none (tN Bw7)).node none tE))))),244,9⟩)
def s8:zab×zaa:=(⟨105,((((((tN (sL 150 0 3 18446744073709551616)).node (some (sL 11 0 5 5)) (tN (sL 10 5 3 3))).node (some (sL 11 0 5 5)) ((tN (sL 243 0 4 18446744073709551616)).node (some
(.bool false)) tE)).node (some (I 2)) (((tN (sL 11 0 5 5)).node (some (I 1)) (tN (.bool true))).node (some (sL 10 0 4 4)) ((tN (.bool true)).node (some (.bool false)) tE))).node (some (sL 97 0 5 18446744073709551616))
((((tN (.bool false)).node (some (.pointer (some ⟨11,36,none⟩))) (tN (.bool true))).node (some zna) ((tN (.bool true)).node (some (.bool false)) tE)).node (some (I 0)) (((tN (.bool false)).node (some (sL 97 0 5
18446744073709551616)) tE).node (some (.slice none 0 0)) ((tN (.bool true)).node (some (.bool false)) tE)))).node (some (sL 10 0 4 4)) (((((tN (.bool true)).node (some (.agg {toList:= [.string ⟨#[97,100,97]⟩,.string
⟨#[99,111,117,110,116]⟩,.string ⟨#[]⟩,I 0,I 2,.string ⟨#[]⟩,.bool false,.bool false,.slice none 0 0]})) (tN (.bool true))).node (some (sL 10 0 4 4)) ((tN (I 0)).node (some (I 32)) tE)).node (some (sL 243 0 4
18446744073709551616)) (((tN (sL 222 0 5 5)).node (some (.bool false)) tE).node (some (sL 11 0 5 5)) ((tN (sL 243 0 4 18446744073709551616)).node (some (I 1)) tE))).node (some (.slice none 0 0)) ((((tN (sL 10 0 4
4)).node (some zr6) (tN (sL 245 0 5 5))).node (some (I 0)) ((tN (I 0)).node (some (I 2)) tE)).node (some zk8) (((tN zvD).node (some (.bool true)) tE).node (some zr6) ((tN (.bool true)).node (some (sL 10 0 4 4))
tE))))).node (some (.bool true)) ((((((tN (sL 151 0 3 3)).node (some (.pointer (some ⟨11,0,none⟩))) (tN (.string ⟨#[]⟩))).node (some zna) ((tN (I 0)).node (some (.bool false)) tE)).node (some (I 1)) (((tN (sL 152 0 5
5)).node (some (I 0)) (tN (.bool true))).node (some (sL 10 0 2 4)) ((tN (.bool true)).node (some (.bool false)) tE))).node (some (I 0)) ((((tN (.bool false)).node (some (.agg {toList:= [.string ⟨#[101,118,97]⟩,
.string ⟨#[99,111,117,110,116]⟩,.string ⟨#[]⟩,I 0,I 1,.string ⟨#[]⟩,.bool false,.bool false,.slice none 0 0]})) (tN (sL 244 0 5 5))).node (some (sL 97 0 5 18446744073709551616)) ((tN (.bool true)).node (some
(.bool false)) tE)).node (some zk8) (((tN (.bool false)).node (some (sL 98 0 5 5)) tE).node (some (I 32)) ((tN (.bool true)).node (some (.bool false)) tE)))).node (some (sL 11 0 5 5)) (((((tN (.bool false)).node (some
(sL 11 0 5 5)) (tN (.bool true))).node (some (sL 11 0 5 5)) ((tN (I 0)).node (some (.bool false)) tE)).node (some (I 0)) (((tN (.bool true)).node (some (.bool false)) tE).node (some zqm) ((tN (sL 10 0 4 4)).node (some
(.bool false)) tE))).node (some (I 32)) ((((tN (sL 10 0 2 4)).node (some (I 2)) (tN (I 4))).node (some zqm) ((tN (.bool true)).node (some (.bool false)) tE)).node (some (sL 10 0 4 4)) (((tN zvD).node (some (.bool
false)) tE).node (some (sL 10 0 4 4)) ((tN (sL 10 0 4 4)).node (some (sL 11 0 5 5)) tE))))),[]⟩,⟨(((tE.node none ((tE.node none (tE.node none (tN Bw5))).node none (((tN zv0).node none tE).node none tE))).node none
((tE.node none (tE.node none (tE.node none (tN Bw6)))).node (some Bw3) tE)).node none ((((tE.node none (tN Bw8)).node none tE).node (some Bw5) tE).node none ((tE.node none (tE.node none (tE.node none (tN (ABk.cells [I 0,
I 1,I 2,I 3,I 4] 3 1 none false))))).node none tE))).node (some Bw1) (((((tE.node none (tN zuv)).node none (tE.node none (tE.node none (tN Bw9)))).node none (tE.node none (((tN Bw7).node none tE).node none tE))).node
none ((tE.node none (((tN zvZ).node none tE).node none (tE.node none (tN Bw7)))).node none tE)).node none ((((tE.node none (tN zvX)).node none tE).node (some Bw4) tE).node (some Bw2) ((tE.node none (((tN zvY).node
none tE).node none tE)).node none (tE.node none ((tE.node none (tN Bw7)).node none tE))))),246,9⟩)
end
end Go.Ev

end
