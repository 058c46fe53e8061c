/- Part of the proof. -/
import Derived.Test.YtdojhafbgoimeaaGreatDoorCoreG28

section
open Go.Proofs
namespace Go.Ev
noncomputable section
set_option maxRecDepth 100000
set_option maxHeartbeats 4000000
def ix (x:Nat×List Nat×List (List Nat)):D:=iD x.snd.fst
def sx (x:Nat×List Nat×List (List Nat)):List Nat:=sOf (iD x.snd.fst)
def tx (x:Nat×List Nat×List (List Nat)) (n:Nat):List Nat:=List.take n (sOf (iD x.snd.fst))
def fx (c g:D) (x:Nat×List Nat×List (List Nat)) (n:Nat):List Nat:=frL c g (sOf (iD x.snd.fst)) (List.take n (sOf (iD x.snd.fst)))
def rx (c g:D) (x:Nat×List Nat×List (List Nat)) (n:Nat):List Nat:=rsL c g (sOf (iD x.snd.fst)) (List.take n (sOf (iD x.snd.fst)))
def zcU (y:Nat) (x:Nat×List Nat×List (List Nat)) (c:D) (g:D):Prop:=
 (y<=(sx x).length/\ix x=iD (sx x))/\((0:Nat)+1=1\/(0:Nat)+1=3↔0<(fx c g x y).length)/\((0:Nat)+1=2\/(0:Nat)+1=3↔0<(rx c g x y).length)
def zcn (y:Nat) (x:Nat×List Nat×List (List Nat)) (c:D) (g:D):Prop:=
 (y<=(sx x).length/\ix x=iD (sx x))/\((1:Nat)+1=1\/(1:Nat)+1=3↔0<(fx c g x y).length)/\((1:Nat)+1=2\/(1:Nat)+1=3↔0<(rx c g x y).length)
def zch (y:Nat) (x:Nat×List Nat×List (List Nat)) (c:D) (g:D):Prop:=
 (y<=(sx x).length/\ix x=iD (sx x))/\((2:Nat)+1=1\/(2:Nat)+1=3↔0<(fx c g x y).length)/\((2:Nat)+1=2\/(2:Nat)+1=3↔0<(rx c g x y).length)
def zdc (y:Nat) (x:Nat×List Nat×List (List Nat)) (c:D) (g:D):Prop:=
 (y<=(sx x).length/\ix x=iD (sx x))/\((0:Nat)=1\/(0:Nat)=3↔0<(fx c g x y).length)/\((0:Nat)=2\/(0:Nat)=3↔0<(rx c g x y).length)
def zlX (x:Nat×List Nat×List (List Nat)) (c:D) (g:D):Prop:=
 (((∃(x_1:Nat),((x_1<=(sx x).length/\ix x=iD (sx x))/\((0:Nat)=1\/(0:Nat)=3↔0<(fx c g x x_1).length)/\((0:Nat)=2\/(0:Nat)=3↔0<(rx c g x x_1).length))/\(0=(x_1:Int)/\True/\True/\
 True)/\True)\/∃(x_1:Nat),((x_1<=(sx x).length/\ix x=iD (sx x))/\((0:Nat)+1=1\/(0:Nat)+1=3↔0<(fx c g x x_1).length)/\((0:Nat)+1=2\/(0:Nat)+1=3↔0<(rx c g x x_1).length))/\(0=
 (x_1:Int)/\False/\True/\True)/\False/\True)\/∃(x_1:Nat),((x_1<=(sx x).length/\ix x=iD (sx x))/\((1:Nat)+1=1\/(1:Nat)+1=3↔0<(fx c g x x_1).length)/\((1:Nat)+1=2\/(1:Nat)+1=3
 ↔0<(rx c g x x_1).length))/\(0=(x_1:Int)/\True/\False/\True)/\False/\True)\/∃(x_1:Nat),((x_1<=(sx x).length/\ix x=iD (sx x))/\((2:Nat)+1=1\/(2:Nat)+1=3↔0<(fx c g x x_1).length)/\
 ((2:Nat)+1=2\/(2:Nat)+1=3↔0<(rx c g x x_1).length))/\(0=(x_1:Int)/\False/\False/\True)/\False/\False/\True
def zdy (y:Nat×List Nat×List (List Nat)) (g:D) (c:D) (d:D):Prop:=
 y.snd.fst.length<y.fst/\y.snd.fst.length<=20/\y.snd.snd.length+y.snd.fst.length<=20/\(∀(y_1:Nat),List.Mem y_1 y.snd.fst->y_1<g.len)/\y.snd.snd++zfE c g y.fst y.snd.fst=zfE c g (d.len+1) (sOf d)
def zbF (x_2:Nat) (x:Nat×List Nat×List (List Nat)) (c:D) (g:D) (x_1:Nat):Prop:=
 ∀(y:Nat),List.Mem y (tx x x_2)->goP c g (y:Int) (↑(atN (sx x) x_1):Int)->False
def zhm (x_2:Nat) (x:Nat×List Nat×List (List Nat)) (c:D) (g:D) (x_1:Nat):Prop:=
 (x_2:Int)<(↑(ix x).len:Int)->((zbF x_2 x c g x_1)->0<=(x_2:Int)/\(x_2:Int)<(↑(ix x).len:Int)/\0<=(x_1:Int)/\(x_1:Int)<(↑(ix x).len:Int)/\(((0<=(el (ix x) x_2).asInt/\(el (ix x)
 x_2).asInt<(g.len:Int))/\0<=(el (ix x) x_1).asInt/\(el (ix x) x_1).asInt<(g.len:Int))/\(zan c/\(zaK c).snd=0)/\tgG g)/\fits64 ((x_2:Int)+1)/\∃(y:Nat),y.le (sx x).length/\(sx x).length-y<
 (sx x).length-x_2/\((x_2:Int)+1=(y:Int)/\(goP c g (el (ix x) x_2).asInt (el (ix x) x_1).asInt->False↔ ∀(y_1:Nat),List.Mem y_1 (tx x y)->goP c g (y_1:Int) (↑(atN (sx x) x_1):Int)->False)/\True)/\
 True)/\(((zbF x_2 x c g x_1)->False)->fits64 ((x_2:Int)+1)/\∃(y:Nat),y.le (sx x).length/\(sx x).length-y<(sx x).length-x_2/\((x_2:Int)+1=(y:Int)/\(false=true↔ ∀(y_1:Nat),List.Mem
 y_1 (tx x y)->goP c g (y_1:Int) (↑(atN (sx x) x_1):Int)->False)/\True)/\True)
def zeQ (x:Nat×List Nat×List (List Nat)) (c:D) (g:D) (x_1:Nat):Prop:=
 ∃(x_2:Nat),x_2.le (sx x).length/\(0=(x_2:Int)/\(true=true↔ ∀(y:Nat),List.Mem y (tx x x_2)->goP c g (y:Int) (↑(atN (sx x) x_1):Int)->False)/\True)/\True
def zdp (x:Nat×List Nat×List (List Nat)) (g:D) (c:D) (d:D):Prop:=
 x.snd.fst.length<x.fst/\x.snd.fst.length<=20/\x.snd.snd.length+x.snd.fst.length<=20/\(∀(y:Nat),List.Mem y x.snd.fst->y<g.len)/\x.snd.snd++zfE c g x.fst x.snd.fst=zfE c g (d.len+1) (sOf d)
def zpY (x:Nat×List Nat×List (List Nat)) (c:D) (g:D) (x_1:Nat):Prop:=
 (∃(y:Nat),(zdc y x c g)/\(sOf (iD x.snd.fst)).length-y<(sOf (iD x.snd.fst)).length-x_1/\((x_1:Int)+1=(y:Int)/\False/\False/\True)/\True)\/∃(y:Nat),(zcU y x c g)/\(sOf (iD
 x.snd.fst)).length-y<(sOf (iD x.snd.fst)).length-x_1/\((x_1:Int)+1=(y:Int)/\((0:Nat)=0/\(frL c g (sOf (iD x.snd.fst)) (List.take x_1 (sOf (iD x.snd.fst)))).length=(frL c g (sOf (iD x.snd.fst))
 (List.take y (sOf (iD x.snd.fst)))).length/\True)/\False/\True)/\iL (frL c g (sOf (iD x.snd.fst)) (List.take x_1 (sOf (iD x.snd.fst))))=iL (frL c g (sOf (iD x.snd.fst)) (List.take y (sOf (iD x.snd.fst))))/\True
def zqi (x:Nat×List Nat×List (List Nat)) (c:D) (g:D) (x_1:Nat):Prop:=
 (∃(y:Nat),(zdc y x c g)/\(sOf (iD x.snd.fst)).length-y<(sOf (iD x.snd.fst)).length-x_1/\((x_1:Int)+1=(y:Int)/\False/\True/\True)/\True)\/∃(y:Nat),(zcU y x c g)/\(sOf (iD
 x.snd.fst)).length-y<(sOf (iD x.snd.fst)).length-x_1/\((x_1:Int)+1=(y:Int)/\((0:Nat)=0/\1=(frL c g (sOf (iD x.snd.fst)) (List.take y (sOf (iD x.snd.fst)))).length/\True)/\True/\True)/\List.take
 1 [D.int (el (iD x.snd.fst) x_1).asInt]=iL (frL c g (sOf (iD x.snd.fst)) (List.take y (sOf (iD x.snd.fst))))/\True
def ziN (c:D) (g:D) (x:Nat×List Nat×List (List Nat)) (x_1:Nat) (y:Nat):Prop:=
 (0:Nat)=0/\(frL c g (sOf (iD x.snd.fst)) (List.take x_1 (sOf (iD x.snd.fst)))).length+1=(frL c g (sOf (iD x.snd.fst)) (List.take y (sOf (iD x.snd.fst)))).length/\True
def zm2 (x_1:Nat) (x:Nat×List Nat×List (List Nat)) (c:D) (g:D):Prop:=
 (x_1:Int)<(↑(ix x).len:Int)->(zeQ x c g x_1)/\∀(x_2:Nat),x_2.le (sx x).length->(sx x).length-x_2<LIM/\(zhm x_2 x c g x_1)/\(((x_2:Int)<(↑(ix x).len:Int)->False)->((zbF x_2 x c g x_1)
 ->0<=(x_1:Int)/\(x_1:Int)<(↑(ix x).len:Int)/\0+1<= [D.int (el (ix x) x_1).asInt].length/\0+(fx c g x x_1).length<=(iL (fx c g x x_1)).length/\(fx c g x x_1).length+1<=8796093022208/\fits64 ((x_1:
 Int)+1)/\((((∃(y:Nat),(zdc y x c g)/\(sx x).length-y<(sx x).length-x_1/\((x_1:Int)+1=(y:Int)/\False/\True/\True)/\True)\/∃(y:Nat),(zcU y x c g)/\(sx x).length-y<(sx x).length-
 x_1/\((x_1:Int)+1=(y:Int)/\(ziN c g x x_1 y)/\True/\True)/\List.take (fx c g x x_1).length (iL (fx c g x x_1))++List.take 1 [D.int (el (ix x) x_1).asInt]=iL (fx c g x y)/\True)\/∃(y:Nat),
 (zcn y x c g)/\(sx x).length-y<(sx x).length-x_1/\((x_1:Int)+1=(y:Int)/\False/\False/\True)/\ [D.int (el (ix x) x_1).asInt]=iL (rx c g x y)/\True)\/∃(y:Nat),(zch y x c g)/\(sx x).length
 -y<(sx x).length-x_1/\((x_1:Int)+1=(y:Int)/\(ziN c g x x_1 y)/\False/\True)/\List.take (fx c g x x_1).length (iL (fx c g x x_1))++List.take 1 [D.int (el (ix x) x_1).asInt]=iL (fx c g x y)/\
 [D.int (el (ix x) x_1).asInt]=iL (rx c g x y)/\True))/\(((zbF x_2 x c g x_1)->False)->0<=(x_1:Int)/\(x_1:Int)<(↑(ix x).len:Int)/\0+1<= [D.int (el (ix x) x_1).asInt].length/\(1:Nat)<=
 8796093022208/\fits64 ((x_1:Int)+1)/\(((zpY x c g x_1)\/∃(y:Nat),(zcn y x c g)/\(sx x).length-y<(sx x).length-x_1/\((x_1:Int)+1=(y:Int)/\False/\((0:Nat)=0/\1=(rx c g x y).length
 /\True)/\True)/\List.take 1 [D.int (el (ix x) x_1).asInt]=iL (rx c g x y)/\True)\/∃(y:Nat),(zch y x c g)/\(sx x).length-y<(sx x).length-x_1/\((x_1:Int)+1=(y:Int)/\((0:Nat)=0/\(fx c g x
 x_1).length=(fx c g x y).length/\True)/\((0:Nat)=0/\1=(rx c g x y).length/\True)/\True)/\iL (fx c g x x_1)=iL (fx c g x y)/\List.take 1 [D.int (el (ix x) x_1).asInt]=iL (rx c g x y)/\True)))
def zi0 (c:D) (g:D) (x:Nat×List Nat×List (List Nat)) (x_1:Nat) (y:Nat):Prop:=
 (0:Nat)=0/\(rsL c g (sOf (iD x.snd.fst)) (List.take x_1 (sOf (iD x.snd.fst)))).length+1=(rsL c g (sOf (iD x.snd.fst)) (List.take y (sOf (iD x.snd.fst)))).length/\True
def zjj (c:D) (g:D) (x:Nat×List Nat×List (List Nat)) (x_1:Nat) (y:Nat):Prop:=
 (0:Nat)=0/\(rsL c g (sOf (iD x.snd.fst)) (List.take x_1 (sOf (iD x.snd.fst)))).length=(rsL c g (sOf (iD x.snd.fst)) (List.take y (sOf (iD x.snd.fst)))).length/\True
def zm3 (x_1:Nat) (x:Nat×List Nat×List (List Nat)) (c:D) (g:D):Prop:=
 (x_1:Int)<(↑(ix x).len:Int)->(zeQ x c g x_1)/\∀(x_2:Nat),x_2.le (sx x).length->(sx x).length-x_2<LIM/\(zhm x_2 x c g x_1)/\(((x_2:Int)<(↑(ix x).len:Int)->False)->((zbF x_2 x c g x_1)
 ->0<=(x_1:Int)/\(x_1:Int)<(↑(ix x).len:Int)/\0+1<= [D.int (el (ix x) x_1).asInt].length/\0+(fx c g x x_1).length<=(iL (fx c g x x_1)).length/\(fx c g x x_1).length+1<=8796093022208/\fits64 ((x_1:
 Int)+1)/\((((∃(y:Nat),(zdc y x c g)/\(sx x).length-y<(sx x).length-x_1/\((x_1:Int)+1=(y:Int)/\False/\False/\True)/\True)\/∃(y:Nat),(zcU y x c g)/\(sx x).length-y<(sx x).length-
 x_1/\((x_1:Int)+1=(y:Int)/\(ziN c g x x_1 y)/\False/\True)/\List.take (fx c g x x_1).length (iL (fx c g x x_1))++List.take 1 [D.int (el (ix x) x_1).asInt]=iL (fx c g x y)/\True)\/∃(y:Nat),
 (zcn y x c g)/\(sx x).length-y<(sx x).length-x_1/\((x_1:Int)+1=(y:Int)/\False/\(zjj c g x x_1 y)/\True)/\iL (rx c g x x_1)=iL (rx c g x y)/\True)\/∃(y:Nat),(zch y x c g)/\(sx
 x).length-y<(sx x).length-x_1/\((x_1:Int)+1=(y:Int)/\(ziN c g x x_1 y)/\(zjj c g x x_1 y)/\True)/\List.take (fx c g x x_1).length (iL (fx c g x x_1))++List.take 1 [D.int (el (ix x)
 x_1).asInt]=iL (fx c g x y)/\iL (rx c g x x_1)=iL (rx c g x y)/\True))/\(((zbF x_2 x c g x_1)->False)->0<=(x_1:Int)/\(x_1:Int)<(↑(ix x).len:Int)/\0+1<= [D.int (el (ix x) x_1).asInt].length/\0+
 (rx c g x x_1).length<=(iL (rx c g x x_1)).length/\(rx c g x x_1).length+1<=8796093022208/\fits64 ((x_1:Int)+1)/\(((zpY x c g x_1)\/∃(y:Nat),(zcn y x c g)/\(sx x).length-y<(sx x).length-x_1
 /\((x_1:Int)+1=(y:Int)/\False/\(zi0 c g x x_1 y)/\True)/\List.take (rx c g x x_1).length (iL (rx c g x x_1))++List.take 1 [D.int (el (ix x) x_1).asInt]=iL (rx c g x y)/\True)\/∃(y:Nat),(zch y
 x c g)/\(sx x).length-y<(sx x).length-x_1/\((x_1:Int)+1=(y:Int)/\((0:Nat)=0/\(fx c g x x_1).length=(fx c g x y).length/\True)/\(zi0 c g x x_1 y)/\True)/\iL (fx c g x x_1)=iL (fx c g x y)
 /\List.take (rx c g x x_1).length (iL (rx c g x x_1))++List.take 1 [D.int (el (ix x) x_1).asInt]=iL (rx c g x y)/\True)))
def zoN (x:Nat×List Nat×List (List Nat)) (c:D) (g:D) (x_1:Nat):Prop:=
 (∃(y:Nat),(zdc y x c g)/\(sOf (iD x.snd.fst)).length-y<(sOf (iD x.snd.fst)).length-x_1/\((x_1:Int)+1=(y:Int)/\True/\False/\True)/\True)\/∃(y:Nat),(zcU y x c g)/\(sOf (iD
 x.snd.fst)).length-y<(sOf (iD x.snd.fst)).length-x_1/\((x_1:Int)+1=(y:Int)/\False/\False/\True)/\False/\True
def znc (x_1:Nat) (x:Nat×List Nat×List (List Nat)) (c:D) (g:D):Prop:=
 (x_1:Int)<(↑(ix x).len:Int)->(zeQ x c g x_1)/\∀(x_2:Nat),x_2.le (sx x).length->(sx x).length-x_2<LIM/\(zhm x_2 x c g x_1)/\(((x_2:Int)<(↑(ix x).len:Int)->False)->((zbF x_2 x c g x_1)
 ->0<=(x_1:Int)/\(x_1:Int)<(↑(ix x).len:Int)/\0+1<= [D.int (el (ix x) x_1).asInt].length/\(1:Nat)<=8796093022208/\fits64 ((x_1:Int)+1)/\((((∃(y:Nat),(zdc y x c g)/\(sx x).length-y<(sx
 x).length-x_1/\((x_1:Int)+1=(y:Int)/\False/\False/\True)/\True)\/∃(y:Nat),(zcU y x c g)/\(sx x).length-y<(sx x).length-x_1/\((x_1:Int)+1=(y:Int)/\((0:Nat)=0/\1=(fx c g x
 y).length/\True)/\False/\True)/\List.take 1 [D.int (el (ix x) x_1).asInt]=iL (fx c g x y)/\True)\/∃(y:Nat),(zcn y x c g)/\(sx x).length-y<(sx x).length-x_1/\((x_1:Int)+1=(y:Int)/\False/\
 (zjj c g x x_1 y)/\True)/\iL (rx c g x x_1)=iL (rx c g x y)/\True)\/∃(y:Nat),(zch y x c g)/\(sx x).length-y<(sx x).length-x_1/\((x_1:Int)+1=(y:Int)/\((0:Nat)=0/\1=(fx c g x
 y).length/\True)/\(zjj c g x x_1 y)/\True)/\List.take 1 [D.int (el (ix x) x_1).asInt]=iL (fx c g x y)/\iL (rx c g x x_1)=iL (rx c g x y)/\True))/\(((zbF x_2 x c g x_1)->False)->0<=(x_1:Int)/\(x_1
 :Int)<(↑(ix x).len:Int)/\0+1<= [D.int (el (ix x) x_1).asInt].length/\0+(rx c g x x_1).length<=(iL (rx c g x x_1)).length/\(rx c g x x_1).length+1<=8796093022208/\fits64 ((x_1:Int)+1)/\(((zoN x c
 g x_1)\/∃(y:Nat),(zcn y x c g)/\(sx x).length-y<(sx x).length-x_1/\((x_1:Int)+1=(y:Int)/\True/\(zi0 c g x x_1 y)/\True)/\List.take (rx c g x x_1).length (iL (rx c g x x_1))++List.take 1
 [D.int (el (ix x) x_1).asInt]=iL (rx c g x y)/\True)\/∃(y:Nat),(zch y x c g)/\(sx x).length-y<(sx x).length-x_1/\((x_1:Int)+1=(y:Int)/\False/\(zi0 c g x x_1 y)/\True)/\False/\List.take
 (rx c g x x_1).length (iL (rx c g x x_1))++List.take 1 [D.int (el (ix x) x_1).asInt]=iL (rx c g x y)/\True)))
theorem zx6:∀(c g d:D),zac (zbp os1 c g) 4 (119:FuncId) [V.dat (22:TypeId) c,V.dat (23:TypeId) g,V.dat (34:TypeId) d] (V.dat (57:TypeId) (pgD c g d))=(((∃(x:Nat×List Nat×List (List Nat)),
((zdp x g c d)/\x.snd.snd= [])/\(d=ix x/\True/\True)/\True)\/∃(x:Nat×List Nat×List (List Nat)),((zdp x g c d)/\Nat.le 1 x.snd.snd.length)/\(d=ix x/\False/\True)/\False/\True)/\(∀(x:
Nat×List Nat×List (List Nat)),(zdp x g c d)/\x.snd.snd= []->x.snd.fst.length<LIM/\(0<(↑(ix x).len:Int)->(zlX x c g)/\(((∀(x_1:Nat),(x_1<=(sx x).length/\ix x=iD (sx x))/\((0:Nat)=1\/
(0:Nat)=3↔0<(fx c g x x_1).length)/\((0:Nat)=2\/(0:Nat)=3↔0<(rx c g x x_1).length)->(sx x).length-x_1<LIM/\((x_1:Int)<(↑(ix x).len:Int)->(zeQ x c g x_1)/\∀(x_2:Nat),x_2.le (sx
x).length->(sx x).length-x_2<LIM/\(zhm x_2 x c g x_1)/\(((x_2:Int)<(↑(ix x).len:Int)->False)->((zbF x_2 x c g x_1)->0<=(x_1:Int)/\(x_1:Int)<(↑(ix x).len:Int)/\0+1<= [D.int (el (ix x)
x_1).asInt].length/\(1:Nat)<=8796093022208/\fits64 ((x_1:Int)+1)/\(((zqi x c g x_1)\/∃(y:Nat),(zcn y x c g)/\(sx x).length-y<(sx x).length-x_1/\((x_1:Int)+1=(y:Int)/\False/\False/\
True)/\False/\True)\/∃(y:Nat),(zch y x c g)/\(sx x).length-y<(sx x).length-x_1/\((x_1:Int)+1=(y:Int)/\((0:Nat)=0/\1=(fx c g x y).length/\True)/\False/\True)/\List.take 1 [D.int (el
(ix x) x_1).asInt]=iL (fx c g x y)/\False/\True))/\(((zbF x_2 x c g x_1)->False)->0<=(x_1:Int)/\(x_1:Int)<(↑(ix x).len:Int)/\0+1<= [D.int (el (ix x) x_1).asInt].length/\(1:Nat)<=8796093022208
/\fits64 ((x_1:Int)+1)/\(((zoN x c g x_1)\/∃(y:Nat),(zcn y x c g)/\(sx x).length-y<(sx x).length-x_1/\((x_1:Int)+1=(y:Int)/\True/\((0:Nat)=0/\1=(rx c g x y).length/\True)/\
True)/\List.take 1 [D.int (el (ix x) x_1).asInt]=iL (rx c g x y)/\True)\/∃(y:Nat),(zch y x c g)/\(sx x).length-y<(sx x).length-x_1/\((x_1:Int)+1=(y:Int)/\False/\((0:Nat)=0/\1=(rx c g
x y).length/\True)/\True)/\False/\List.take 1 [D.int (el (ix x) x_1).asInt]=iL (rx c g x y)/\True))))/\(((x_1:Int)<(↑(ix x).len:Int)->False)->D.nil=pgD c g d))/\∀(x_1:Nat),(x_1<=(sx x).length/\ix
x=iD (sx x))/\((0:Nat)+1=1\/(0:Nat)+1=3↔0<(fx c g x x_1).length)/\((0:Nat)+1=2\/(0:Nat)+1=3↔0<(rx c g x x_1).length)->(sx x).length-x_1<LIM/\(zm2 x_1 x c g)/\(((x_1:Int)
<(↑(ix x).len:Int)->False)->((↑(fx c g x x_1).length:Int)=0->D.nil=pgD c g d)/\(((↑(fx c g x x_1).length:Int)=0->False)->0+(fx c g x x_1).length<=(iL (fx c g x x_1)).length/\0+1<= [D.list
(List.take (fx c g x x_1).length (iL (fx c g x x_1)))].length/\(1:Nat)<=16777216/\((∃(y:Nat×List Nat×List (List Nat)),((zdy y g c d)/\y.snd.snd= [])/\y.snd.fst.length<x.snd.fst.length/\(D.nil=iD
y.snd.fst/\False/\True)/\True)\/∃(y:Nat×List Nat×List (List Nat)),((zdy y g c d)/\Nat.le 1 y.snd.snd.length)/\y.snd.fst.length<x.snd.fst.length/\(D.nil=iD y.snd.fst/\((0:Nat)=0/\1=
y.snd.snd.length/\True)/\True)/\List.take 1 [D.list (List.take (fx c g x x_1).length (iL (fx c g x x_1)))]=List.map iD y.snd.snd/\True))))/\∀(x_1:Nat),(x_1<=(sx x).length/\ix x=iD (sx x))/\((1:Nat)+1
=1\/(1:Nat)+1=3↔0<(fx c g x x_1).length)/\((1:Nat)+1=2\/(1:Nat)+1=3↔0<(rx c g x x_1).length)->(sx x).length-x_1<LIM/\(znc x_1 x c g)/\(((x_1:Int)<(↑(ix x).len:Int)->False)->
D.nil=pgD c g d))/\∀(x_1:Nat),(x_1<=(sx x).length/\ix x=iD (sx x))/\((2:Nat)+1=1\/(2:Nat)+1=3↔0<(fx c g x x_1).length)/\((2:Nat)+1=2\/(2:Nat)+1=3↔0<(rx c g x x_1).length)->
(sx x).length-x_1<LIM/\(zm3 x_1 x c g)/\(((x_1:Int)<(↑(ix x).len:Int)->False)->((↑(fx c g x x_1).length:Int)=0->D.nil=pgD c g d)/\(((↑(fx c g x x_1).length:Int)=0->False)->0+(fx c g x
x_1).length<=(iL (fx c g x x_1)).length/\0+1<= [D.list (List.take (fx c g x x_1).length (iL (fx c g x x_1)))].length/\(1:Nat)<=16777216/\0+(rx c g x x_1).length<=(iL (rx c g x x_1)).length/\((∃(y:Nat×
List Nat×List (List Nat)),((zdy y g c d)/\y.snd.snd= [])/\y.snd.fst.length<x.snd.fst.length/\(D.list (List.take (rx c g x x_1).length (iL (rx c g x x_1)))=iD y.snd.fst/\False/\True)/\True)\/∃(y:Nat
×List Nat×List (List Nat)),((zdy y g c d)/\Nat.le 1 y.snd.snd.length)/\y.snd.fst.length<x.snd.fst.length/\(D.list (List.take (rx c g x x_1).length (iL (rx c g x x_1)))=iD y.snd.fst/\((0:Nat)=0/\1=
y.snd.snd.length/\True)/\True)/\List.take 1 [D.list (List.take (fx c g x x_1).length (iL (fx c g x x_1)))]=List.map iD y.snd.snd/\True))))/\((0<(↑(ix x).len:Int)->False)->D.nil=pgD c g d))/\∀(x:Nat×
List Nat×List (List Nat)),(zdp x g c d)/\Nat.le 1 x.snd.snd.length->x.snd.fst.length<LIM/\(0<(↑(ix x).len:Int)->(zlX x c g)/\(((∀(x_1:Nat),(x_1<=(sx x).length/\ix x=iD (sx x))/\((0:Nat)=
1\/(0:Nat)=3↔0<(fx c g x x_1).length)/\((0:Nat)=2\/(0:Nat)=3↔0<(rx c g x x_1).length)->(sx x).length-x_1<LIM/\((x_1:Int)<(↑(ix x).len:Int)->(zeQ x c g x_1)/\∀(x_2:Nat),x_2.le
(sx x).length->(sx x).length-x_2<LIM/\(zhm x_2 x c g x_1)/\(((x_2:Int)<(↑(ix x).len:Int)->False)->((zbF x_2 x c g x_1)->0<=(x_1:Int)/\(x_1:Int)<(↑(ix x).len:Int)/\0+1<= [D.int (el (ix
x) x_1).asInt].length/\(1:Nat)<=8796093022208/\fits64 ((x_1:Int)+1)/\(((zqi x c g x_1)\/∃(y:Nat),(zcn y x c g)/\(sx x).length-y<(sx x).length-x_1/\((x_1:Int)+1=(y:Int)/\False/\
False/\True)/\List.take 1 [D.int (el (ix x) x_1).asInt]=iL (rx c g x y)/\True)\/∃(y:Nat),(zch y x c g)/\(sx x).length-y<(sx x).length-x_1/\False))/\(((zbF x_2 x c g x_1)->False)->0<=(x_1:
Int)/\(x_1:Int)<(↑(ix x).len:Int)/\0+1<= [D.int (el (ix x) x_1).asInt].length/\(1:Nat)<=8796093022208/\fits64 ((x_1:Int)+1)/\((((∃(y:Nat),(zdc y x c g)/\(sx x).length-y<(sx x).length-x_1
/\((x_1:Int)+1=(y:Int)/\True/\False/\True)/\True)\/∃(y:Nat),(zcU y x c g)/\(sx x).length-y<(sx x).length-x_1/\((x_1:Int)+1=(y:Int)/\False/\False/\True)/\ [D.int (el (ix x)
x_1).asInt]=iL (fx c g x y)/\True)\/∃(y:Nat),(zcn y x c g)/\(sx x).length-y<(sx x).length-x_1/\((x_1:Int)+1=(y:Int)/\True/\((0:Nat)=0/\1=(rx c g x y).length/\True)/\True)/\List.take
1 [D.int (el (ix x) x_1).asInt]=iL (rx c g x y)/\True)\/∃(y:Nat),(zch y x c g)/\(sx x).length-y<(sx x).length-x_1/\((x_1:Int)+1=(y:Int)/\False/\((0:Nat)=0/\1=(rx c g x y).length/\
True)/\True)/\ [D.int (el (ix x) x_1).asInt]=iL (fx c g x y)/\List.take 1 [D.int (el (ix x) x_1).asInt]=iL (rx c g x y)/\True))))/\(((x_1:Int)<(↑(ix x).len:Int)->False)->0+x.snd.snd.length<=(List.map
iD x.snd.snd).length/\D.list (List.take x.snd.snd.length (List.map iD x.snd.snd))=pgD c g d))/\∀(x_1:Nat),(x_1<=(sx x).length/\ix x=iD (sx x))/\((0:Nat)+1=1\/(0:Nat)+1=3↔0<(fx c g x
x_1).length)/\((0:Nat)+1=2\/(0:Nat)+1=3↔0<(rx c g x x_1).length)->(sx x).length-x_1<LIM/\(zm2 x_1 x c g)/\(((x_1:Int)<(↑(ix x).len:Int)->False)->((↑(fx c g x x_1).length:Int)=0->0
+x.snd.snd.length<=(List.map iD x.snd.snd).length/\D.list (List.take x.snd.snd.length (List.map iD x.snd.snd))=pgD c g d)/\(((↑(fx c g x x_1).length:Int)=0->False)->0+(fx c g x x_1).length<=(iL (fx c g x
x_1)).length/\0+1<= [D.list (List.take (fx c g x x_1).length (iL (fx c g x x_1)))].length/\0+x.snd.snd.length<=(List.map iD x.snd.snd).length/\x.snd.snd.length+1<=16777216/\((∃(y:Nat×List Nat×List
(List Nat)),((zdy y g c d)/\y.snd.snd= [])/\y.snd.fst.length<x.snd.fst.length/\(D.nil=iD y.snd.fst/\False/\True)/\True)\/∃(y:Nat×List Nat×List (List Nat)),((zdy y g c d)/\Nat.le 1
y.snd.snd.length)/\y.snd.fst.length<x.snd.fst.length/\(D.nil=iD y.snd.fst/\((0:Nat)=0/\x.snd.snd.length+1=y.snd.snd.length/\True)/\True)/\List.take x.snd.snd.length (List.map iD x.snd.snd)++List.take
1 [D.list (List.take (fx c g x x_1).length (iL (fx c g x x_1)))]=List.map iD y.snd.snd/\True))))/\∀(x_1:Nat),(x_1<=(sx x).length/\ix x=iD (sx x))/\((1:Nat)+1=1\/(1:Nat)+1=3↔0<(fx c g x
x_1).length)/\((1:Nat)+1=2\/(1:Nat)+1=3↔0<(rx c g x x_1).length)->(sx x).length-x_1<LIM/\(znc x_1 x c g)/\(((x_1:Int)<(↑(ix x).len:Int)->False)->0+x.snd.snd.length<=(List.map iD
x.snd.snd).length/\D.list (List.take x.snd.snd.length (List.map iD x.snd.snd))=pgD c g d))/\∀(x_1:Nat),(x_1<=(sx x).length/\ix x=iD (sx x))/\((2:Nat)+1=1\/(2:Nat)+1=3↔0<(fx c g x
x_1).length)/\((2:Nat)+1=2\/(2:Nat)+1=3↔0<(rx c g x x_1).length)->(sx x).length-x_1<LIM/\(zm3 x_1 x c g)/\(((x_1:Int)<(↑(ix x).len:Int)->False)->((↑(fx c g x x_1).length:Int)=0->0
+x.snd.snd.length<=(List.map iD x.snd.snd).length/\D.list (List.take x.snd.snd.length (List.map iD x.snd.snd))=pgD c g d)/\(((↑(fx c g x x_1).length:Int)=0->False)->0+(fx c g x x_1).length<=(iL (fx c g x
x_1)).length/\0+1<= [D.list (List.take (fx c g x x_1).length (iL (fx c g x x_1)))].length/\0+x.snd.snd.length<=(List.map iD x.snd.snd).length/\x.snd.snd.length+1<=16777216/\0+(rx c g x x_1).length<=(iL (rx
c g x x_1)).length/\((∃(y:Nat×List Nat×List (List Nat)),((zdy y g c d)/\y.snd.snd= [])/\y.snd.fst.length<x.snd.fst.length/\(D.list (List.take (rx c g x x_1).length (iL (rx c g x x_1)))=iD y.snd.fst/\
False/\True)/\True)\/∃(y:Nat×List Nat×List (List Nat)),((zdy y g c d)/\Nat.le 1 y.snd.snd.length)/\y.snd.fst.length<x.snd.fst.length/\(D.list (List.take (rx c g x x_1).length (iL (rx c g x x_1)))=iD
y.snd.fst/\((0:Nat)=0/\x.snd.snd.length+1=y.snd.snd.length/\True)/\True)/\List.take x.snd.snd.length (List.map iD x.snd.snd)++List.take 1 [D.list (List.take (fx c g x x_1).length (iL (fx c g x x_1)))]=
List.map iD y.snd.snd/\True))))/\((0<(↑(ix x).len:Int)->False)->0+x.snd.snd.length<=(List.map iD x.snd.snd).length/\D.list (List.take x.snd.snd.length (List.map iD x.snd.snd))=pgD c g d)):=by intros;kernel_rfl
theorem ziE {s:List Nat} {k:Nat} (h:k<s.length):s.take (k+1)=s.take k++ [atN s k]:=by
 unfold atN;rw [List.getElem?_eq_getElem h,List.take_succ_eq_append_getElem h];rfl
theorem ze4 {s:List Nat} {k:Nat} (h:k<s.length):(el (iD s) k).asInt=(atN s k:Nat):=by
 unfold atN;rw [zvJ h,List.getElem?_eq_getElem h];rfl
theorem ztg {s:List Nat} {k:Nat} (h:k<s.length):atN s k∈s:=by
 unfold atN;rw [List.getElem?_eq_getElem h];exact List.getElem_mem h
theorem zdT (s:List Nat):(iL s).length=s.length:=by unfold iL;rw [List.length_map]
theorem zm8 (s t:List Nat):iL (s++t)=iL s++iL t:=by unfold iL;rw [List.map_append]
theorem zc7 (s:List Nat):(iL s).take s.length=iL s:=List.take_of_length_le (Nat.le_of_eq (zdT s))
theorem zwb {c g:D} {s:List Nat} {n:Nat} (hn:n<s.length) (h:zjZ c g s (atN s n)):frL c g s (s.take (n+1))=frL c g s (s.take n)++ [atN s n]/\rsL c g s (s.take (n+1))=rsL c g s (s.take n):=by
 unfold frL rsL;rw [ziE hn,List.filter_append,List.filter_append]
 simp only [List.filter_cons,h,decide_true,if_true,List.filter_nil,not_true_eq_false,decide_false,List.append_nil]
 exact ⟨trivial,by simp⟩
theorem zwp {c g:D} {s:List Nat} {n:Nat} (hn:n<s.length) (h:¬zjZ c g s (atN s n)):frL c g s (s.take (n+1))=frL c g s (s.take n)/\rsL c g s (s.take (n+1))=rsL c g s (s.take n)++ [atN s n]:=by
 unfold frL rsL;rw [ziE hn,List.filter_append,List.filter_append]
 simp only [List.filter_cons,h,decide_true,if_true,List.filter_nil,not_false_eq_true,decide_false,List.append_nil]
 exact ⟨by simp,trivial⟩
theorem zcl (c g:D) (s:List Nat):∀t:List Nat,(frL c g s t).length+(rsL c g s t).length=t.length
 | []=>rfl
 |a::t=>by
  have ih:=zcl c g s t
  unfold frL rsL at ih⊢
  by_cases h:zjZ c g s a<;>simp only [List.filter_cons,h,decide_true,decide_false,if_true,not_true_eq_false,not_false_eq_true,List.length_cons,Bool.false_eq_true,if_false]<;>omega
structure zwT (x:Nat×List Nat×List (List Nat)) (c g:D):Prop where
 out:x.2.1.length<=20/\(∀y,y∈x.2.1->y<g.len)/\(zan c/\(zaK c).2=0)/\tgG g
section
variable {x:Nat×List Nat×List (List Nat)} {c g:D} {n k y:Nat}
theorem h8 (hy:y<=x.2.1.length) (hf:frL c g x.2.1 (x.2.1.take y)= []) (hr:rsL c g x.2.1 (x.2.1.take y)= []):zdc y x c g:=by
 unfold zdc ix sx fx rx;rw [zaN,hf,hr];exact ⟨⟨hy,rfl⟩,⟨λk=>by omega,λk=>absurd k (Nat.lt_irrefl 0)⟩,⟨λk=>by omega,λk=>absurd k (Nat.lt_irrefl 0)⟩⟩
theorem h5 (hy:y<=x.2.1.length) (hf:0<(frL c g x.2.1 (x.2.1.take y)).length) (hr:rsL c g x.2.1 (x.2.1.take y)= []):zcU y x c g:=by
 unfold zcU ix sx fx rx;rw [zaN,hr];exact ⟨⟨hy,rfl⟩,⟨λ_=>hf,λ_=> .inl rfl⟩,⟨λk=>by omega,λk=>absurd k (Nat.lt_irrefl 0)⟩⟩
theorem h6 (hy:y<=x.2.1.length) (hf:frL c g x.2.1 (x.2.1.take y)= []) (hr:0<(rsL c g x.2.1 (x.2.1.take y)).length):zcn y x c g:=by
 unfold zcn ix sx fx rx;rw [zaN,hf];exact ⟨⟨hy,rfl⟩,⟨λk=>by omega,λk=>absurd k (Nat.lt_irrefl 0)⟩,⟨λ_=>hr,λ_=> .inl rfl⟩⟩
theorem h7 (hy:y<=x.2.1.length) (hf:0<(frL c g x.2.1 (x.2.1.take y)).length) (hr:0<(rsL c g x.2.1 (x.2.1.take y)).length):zch y x c g:=by
 unfold zch ix sx fx rx;rw [zaN];exact ⟨⟨hy,rfl⟩,⟨λ_=>hf,λ_=> .inr rfl⟩,⟨λ_=>hr,λ_=> .inr rfl⟩⟩
theorem o8 (h:zdc n x c g):n<=x.2.1.length/\frL c g x.2.1 (x.2.1.take n)= []/\rsL c g x.2.1 (x.2.1.take n)= []:=by
 unfold zdc ix sx fx rx at h;rw [zaN] at h
 exact ⟨h.1.1,List.length_eq_zero_iff.1 (by have:=h.2.1.2;omega),List.length_eq_zero_iff.1 (by have:=h.2.2.2;omega)⟩
theorem o5 (h:zcU n x c g):n<=x.2.1.length/\0<(frL c g x.2.1 (x.2.1.take n)).length/\rsL c g x.2.1 (x.2.1.take n)= []:=by
 unfold zcU ix sx fx rx at h;rw [zaN] at h
 exact ⟨h.1.1,h.2.1.1 (.inl rfl),List.length_eq_zero_iff.1 (by have:=h.2.2.2;omega)⟩
theorem o6 (h:zcn n x c g):n<=x.2.1.length/\frL c g x.2.1 (x.2.1.take n)= []/\0<(rsL c g x.2.1 (x.2.1.take n)).length:=by
 unfold zcn ix sx fx rx at h;rw [zaN] at h
 exact ⟨h.1.1,List.length_eq_zero_iff.1 (by have:=h.2.1.2;omega),h.2.2.1 (.inl rfl)⟩
theorem o7 (h:zch n x c g):n<=x.2.1.length/\0<(frL c g x.2.1 (x.2.1.take n)).length/\0<(rsL c g x.2.1 (x.2.1.take n)).length:=by
 unfold zch ix sx fx rx at h;rw [zaN] at h
 exact ⟨h.1.1,h.2.1.1 (.inr rfl),h.2.2.1 (.inr rfl)⟩
theorem e11:zbF k x c g n↔ ∀y,y∈x.2.1.take k->¬goP c g y (atN x.2.1 n):=by unfold zbF sx tx;rw [zaN];exact Iff.rfl
theorem zrv (hk:k<=x.2.1.length) (hge:(k:Int)<(iD x.2.1).len->False):zbF k x c g n↔zjZ c g x.2.1 (atN x.2.1 n):=by
 rw [zaQ] at hge
 rw [e11,za5 hk hge,List.take_length];exact ⟨λh=>⟨h⟩,λh=>h.out⟩
theorem m12:zeQ x c g n:=by
 unfold zeQ;exact ⟨0,Nat.zero_le _,⟨rfl,⟨λ_ y hy=>(nomatch hy),λ_=>rfl⟩,trivial⟩,trivial⟩
theorem m1 (hb:zwT x c g) (hk:k<=x.2.1.length) (hn:n<x.2.1.length):zhm k x c g n:=by
 unfold zhm ix sx tx;rw [zaN,zaQ]
 intro hlt
 have hb1:=hb.out.1
 have hk':k<x.2.1.length:=by omega
 have T:True:=trivial
 refine ⟨λhf=>⟨by omega,hlt,by omega,by omega,⟨?_,hb.out.2.2⟩,⟨by omega,by omega⟩,k+1,(by show k+1<=x.2.1.length;omega),by omega,⟨by omega, ?_,T⟩,T⟩,λhf=>⟨⟨by omega,by omega⟩,k+1,(by show k+1<=x.2.1.length;omega),by omega,⟨by omega,⟨λq=>(nomatch q),λq=>(hf (e11.2 λy hy=>q y (by rw [ziE hk'];exact List.mem_append.2 (.inl hy)))).elim⟩,T⟩,T⟩⟩
 .rw [ze4 hk',ze4 hn]
  have a:=hb.out.2.1 _ (ztg hk')
  have b:=hb.out.2.1 _ (ztg hn)
  omega
 .rw [ze4 hk',ze4 hn,ziE hk']
  have hf:=e11.1 hf
  refine ⟨λq y hy=> ?_,λq=>q _ (List.mem_append.2 (.inr (List.mem_singleton.2 rfl)))⟩
  rcases List.mem_append.1 hy with hy|hy
  .exact hf y hy
  .rw [List.mem_singleton.1 hy];exact q
theorem zih:(sOf (iD x.2.1)).length=x.2.1.length:=by rw [zaN]
theorem zva (c g:D) (s:List Nat) (n:Nat):(frL c g s (s.take n)).length+(rsL c g s (s.take n)).length<=s.length:=by
 rw [zcl,List.length_take];omega
theorem st3 (hb:zwT x c g) (h:zcU n x c g):zm2 n x c g:=by
 obtain ⟨h1,h2,h3⟩:=o5 h
 have hb1:=hb.out.1
 have T:True:=trivial
 have hl:=zva c g x.2.1 n
 unfold zm2 ix sx fx rx;rw [zaN,zaQ]
 refine λhlt=>⟨m12,λk hk=>⟨zc1 (by omega),m1 hb hk (by omega),λhge=>⟨λhf=> ?_,λhf=> ?_⟩⟩⟩
 .obtain ⟨e1,e2⟩:=zwb (c:=c) (g:=g) (by omega) ((zrv hk (by rw [zaQ];exact hge)).1 hf)
  refine ⟨by omega,hlt,Nat.le_refl _,by rw [zdT];omega,by omega,⟨by omega,by omega⟩,.inl (.inl (.inr ⟨n+1,h5 (by omega) (by rw [e1,List.length_append];exact Nat.succ_pos _) (by rw [e2,h3]),by omega,⟨by omega,⟨rfl, ?_,T⟩,T,T⟩, ?_,T⟩))⟩
  .rw [zaN,e1,List.length_append];rfl
  .rw [e1,zm8,zc7,ze4 (by omega)];rfl
 .obtain ⟨e1,e2⟩:=zwp (c:=c) (g:=g) (by omega) (λq=>hf ((zrv hk (by rw [zaQ];exact hge)).2 q))
  refine ⟨by omega,hlt,Nat.le_refl _,by omega,⟨by omega,by omega⟩,.inr ⟨n+1,h7 (by omega) (by rw [e1];exact h2) (by rw [e2,List.length_append];exact Nat.succ_pos _),by omega,⟨by omega,⟨rfl,by rw [e1],T⟩,⟨rfl,by rw [e2,h3];rfl,T⟩,T⟩,by rw [e1], ?_,T⟩⟩
  rw [e2,h3,ze4 (by omega)];rfl
theorem st4 (hb:zwT x c g) (h:zcn n x c g):znc n x c g:=by
 obtain ⟨h1,h2,h3⟩:=o6 h
 have hb1:=hb.out.1
 have T:True:=trivial
 have hl:=zva c g x.2.1 n
 unfold znc ix sx fx rx;rw [zaN,zaQ]
 refine λhlt=>⟨m12,λk hk=>⟨zc1 (by omega),m1 hb hk (by omega),λhge=>⟨λhf=> ?_,λhf=> ?_⟩⟩⟩
 .obtain ⟨e1,e2⟩:=zwb (c:=c) (g:=g) (by omega) ((zrv hk (by rw [zaQ];exact hge)).1 hf)
  refine ⟨by omega,hlt,Nat.le_refl _,by omega,⟨by omega,by omega⟩,.inr ⟨n+1,h7 (by omega) (by rw [e1,List.length_append];exact Nat.succ_pos _) (by rw [e2];exact h3),by omega,⟨by omega,⟨rfl,by rw [e1,h2];rfl,T⟩,⟨rfl,by rw [zaN,e2],T⟩,T⟩, ?_,by rw [e2],T⟩⟩
  rw [e1,h2,ze4 (by omega)];rfl
 .obtain ⟨e1,e2⟩:=zwp (c:=c) (g:=g) (by omega) (λq=>hf ((zrv hk (by rw [zaQ];exact hge)).2 q))
  refine ⟨by omega,hlt,Nat.le_refl _,by rw [zdT];omega,by omega,⟨by omega,by omega⟩,.inl (.inr ⟨n+1,h6 (by omega) (by rw [e1];exact h2) (by rw [e2,List.length_append];exact Nat.succ_pos _),by omega,⟨by omega,T,⟨rfl,by rw [zaN,e2,List.length_append];rfl,T⟩,T⟩, ?_,T⟩)⟩
  rw [e2,zm8,zc7,ze4 (by omega)];rfl
theorem st2 (hb:zwT x c g) (h:zch n x c g):zm3 n x c g:=by
 obtain ⟨h1,h2,h3⟩:=o7 h
 have hb1:=hb.out.1
 have T:True:=trivial
 have hl:=zva c g x.2.1 n
 unfold zm3 ix sx fx rx;rw [zaN,zaQ]
 refine λhlt=>⟨m12,λk hk=>⟨zc1 (by omega),m1 hb hk (by omega),λhge=>⟨λhf=> ?_,λhf=> ?_⟩⟩⟩
 .obtain ⟨e1,e2⟩:=zwb (c:=c) (g:=g) (by omega) ((zrv hk (by rw [zaQ];exact hge)).1 hf)
  refine ⟨by omega,hlt,Nat.le_refl _,by rw [zdT];omega,by omega,⟨by omega,by omega⟩,.inr ⟨n+1,h7 (by omega) (by rw [e1,List.length_append];exact Nat.succ_pos _) (by rw [e2];exact h3),by omega,⟨by omega,⟨rfl,by rw [zaN,e1,List.length_append];rfl,T⟩,⟨rfl,by rw [zaN,e2],T⟩,T⟩, ?_,by rw [e2],T⟩⟩
  rw [e1,zm8,zc7,ze4 (by omega)];rfl
 .obtain ⟨e1,e2⟩:=zwp (c:=c) (g:=g) (by omega) (λq=>hf ((zrv hk (by rw [zaQ];exact hge)).2 q))
  refine ⟨by omega,hlt,Nat.le_refl _,by rw [zdT];omega,by omega,⟨by omega,by omega⟩,.inr ⟨n+1,h7 (by omega) (by rw [e1];exact h2) (by rw [e2,List.length_append];exact Nat.succ_pos _),by omega,⟨by omega,⟨rfl,by rw [e1],T⟩,⟨rfl,by rw [zaN,e2,List.length_append];rfl,T⟩,T⟩,by rw [e1], ?_,T⟩⟩
  rw [e2,zm8,zc7,ze4 (by omega)];rfl
end
theorem zvZ {x:Nat×List Nat×List (List Nat)} {c g d:D} (h:(zan c/\(zaK c).2=0)/\tgG g) (h13:zdp x g c d):zwT x c g:=⟨h13.2.1,h13.2.2.2.1,h⟩
theorem m9 {x:Nat×List Nat×List (List Nat)} {c g:D}:zlX x c g:=by
 unfold zlX;exact .inl (.inl (.inl ⟨0,h8 (Nat.zero_le _) rfl rfl,⟨rfl,trivial,trivial,trivial⟩,trivial⟩))
theorem zpA (l:List (List Nat)):(l.map iD).take l.length=l.map iD:=List.take_of_length_le (by rw [List.length_map];exact Nat.le_refl _)
theorem zzh {x:Nat×List Nat×List (List Nat)} {c g d:D} (h:zdp x g c d) (hf:frL c g x.2.1 x.2.1= []):pgD c g d=zba (x.2.2.map iD):=by
 have e:=h.2.2.2.2
 have h1:=h.1
 obtain ⟨f,hf1⟩:∃f,x.1=f+1:=⟨x.1-1,by omega⟩
 rw [hf1] at e
 unfold pgD;rw [<-e]
 unfold zfE;rw [if_pos hf,List.append_nil]
theorem zla {x:Nat×List Nat×List (List Nat)} {c g d:D} (h:zdp x g c d) (hr:x.2.2= []) (hf:frL c g x.2.1 x.2.1= []):D.nil=pgD c g d:=by rw [zzh h hf,hr];rfl
theorem zlu {x:Nat×List Nat×List (List Nat)} {c g d:D} (h:zdp x g c d) (hr:0<x.2.2.length) (hf:frL c g x.2.1 x.2.1= []):D.list ((x.2.2.map iD).take x.2.2.length)=pgD c g d:=by
 rw [zzh h hf,zpA];exact za9 (by rw [List.length_map];exact hr)
theorem ziX {x:Nat×List Nat×List (List Nat)} {c g d:D} (h:zdp x g c d) (hf:0<(frL c g x.2.1 x.2.1).length):zdy (x.1-1,rsL c g x.2.1 x.2.1,x.2.2++ [frL c g x.2.1 x.2.1]) g c d:=by
 have e:=h.2.2.2.2
 have h1:=h.1
 have h2:=h.2.1
 have h3:=h.2.2.1
 have hq:=zcl c g x.2.1 x.2.1
 obtain ⟨f,hf1⟩:∃f,x.1=f+1:=⟨x.1-1,by omega⟩
 refine ⟨(by show (rsL c g x.2.1 x.2.1).length<x.1-1;omega),(by show (rsL c g x.2.1 x.2.1).length<=20;omega),(by show (x.2.2++ [_]).length+(rsL c g x.2.1 x.2.1).length<=20;rw [List.length_append,List.length_singleton];omega),λy hy=>h.2.2.2.1 y (List.mem_filter.1 hy).1, ?_⟩
 rw [<-e,hf1]
 show (x.2.2++ [_])++zfE c g f _=x.2.2++zfE c g (f+1) _
 rw [List.append_assoc]
 congr 1
 conv=>rhs;unfold zfE
 rw [if_neg (λk=>by rw [k] at hf;exact absurd hf (Nat.lt_irrefl 0))];rfl
theorem zAo (c g d:D) (hc:zan c/\(zaK c).2=0) (ht:tgG g) (h:zw7 g d):zac (zbp os1 c g) 4 119 [.dat 22 c,.dat 23 g,.dat 34 d] (.dat 57 (pgD c g d)):=by
 rw [zx6];unfold ix sx fx rx
 have T:True:=trivial
 have hcg:(zan c/\(zaK c).2=0)/\tgG g:=⟨hc,ht⟩
 have hd:(sOf d).length=d.len:=by have e:=congrArg D.len h.out.1;rw [zaQ] at e;exact e.symm
 have hd20:=h.out.2.1
 refine ⟨.inl ⟨(d.len+1,sOf d,[]),⟨⟨(by show (sOf d).length<_;omega),(by show (sOf d).length<=_;omega),(by show 0+(sOf d).length<=_;omega),h.out.2.2,rfl⟩,rfl⟩,⟨h.out.1,T,T⟩,T⟩,λx hx=> ?_,λx hx=> ?_⟩
 .obtain ⟨h13,hr⟩:=hx
  have hb:=zvZ hcg h13
  have hb1:=hb.out.1
  have hb2:=h13.2.2.1
  refine ⟨zc1 (by omega),λhne=>⟨m9,⟨⟨λn hn=> ?_,λn hn=> ?_⟩,λn hn=> ?_⟩,λn hn=> ?_⟩,λhge=> ?_⟩
  .have hn:zdc n x c g:=hn
   obtain ⟨h1,h2,h3⟩:=o8 hn
   rw [zaN,zaQ]
   refine ⟨zc1 (by omega),λhlt=>⟨m12,λk hk=>⟨zc1 (by omega),m1 hb hk (by omega),λhge=>⟨λhf=> ?_,λhf=> ?_⟩⟩⟩,λhge=> ?_⟩
   .obtain ⟨e1,e2⟩:=zwb (c:=c) (g:=g) (by omega) ((zrv hk (by rw [zaQ];exact hge)).1 hf)
    exact ⟨by omega,hlt,Nat.le_refl _,by omega,⟨by omega,by omega⟩,.inl (.inl (.inr ⟨n+1,h5 (by omega) (by rw [e1,List.length_append];exact Nat.succ_pos _) (by rw [e2,h3]),by rw [zaN];omega,⟨by omega,⟨rfl,by rw [zaN,e1,h2];rfl,T⟩,T,T⟩,by rw [zaN,e1,h2,ze4 (by omega)];rfl,T⟩))⟩
   .obtain ⟨e1,e2⟩:=zwp (c:=c) (g:=g) (by omega) (λq=>hf ((zrv hk (by rw [zaQ];exact hge)).2 q))
    exact ⟨by omega,hlt,Nat.le_refl _,by omega,⟨by omega,by omega⟩,.inl (.inr ⟨n+1,h6 (by omega) (by rw [e1];exact h2) (by rw [e2,List.length_append];exact Nat.succ_pos _),by omega,⟨by omega,T,⟨rfl,by rw [e2,h3];rfl,T⟩,T⟩,by rw [e2,h3,ze4 (by omega)];rfl,T⟩)⟩
   .have e:=za5 h1 hge
    subst e
    rw [List.take_length] at h2
    exact zla h13 hr h2
  .have hn:zcU n x c g:=hn
   obtain ⟨h1,h2,h3⟩:=o5 hn
   rw [zih]
   refine ⟨zc1 (by omega),st3 hb hn,λhge=> ?_⟩
   rw [zaQ] at hge
   have e:=za5 h1 hge
   subst e
   rw [List.take_length] at h2 h3
   rw [zaN,List.take_length]
   have hq:=zcl c g x.2.1 x.2.1
   exact ⟨λk=>by omega,λ_=>⟨by rw [zdT];omega,Nat.le_refl _,by omega,.inr ⟨(x.1-1,rsL c g x.2.1 x.2.1,x.2.2++ [frL c g x.2.1 x.2.1]),⟨ziX h13 h2,(by show 1<=(_++ [_]).length;rw [List.length_append];exact Nat.le_add_left _ _)⟩,(by show (rsL c g x.2.1 x.2.1).length<_;omega),⟨(by rw [h3];rfl),⟨rfl,(by show _=(_++ [_]).length;rw [hr];rfl),T⟩,T⟩,(by rw [zc7,<-zeT (λk=>by rw [k] at h2;exact absurd h2 (Nat.lt_irrefl 0))];show _=List.map iD (_++ [_]);rw [hr];rfl),T⟩⟩⟩
  .have hn:zcn n x c g:=hn
   obtain ⟨h1,h2,h3⟩:=o6 hn
   rw [zih]
   refine ⟨zc1 (by omega),st4 hb hn,λhge=> ?_⟩
   rw [zaQ] at hge
   have e:=za5 h1 hge
   subst e
   rw [List.take_length] at h2 h3
   exact zla h13 hr h2
  .have hn:zch n x c g:=hn
   obtain ⟨h1,h2,h3⟩:=o7 hn
   rw [zih]
   refine ⟨zc1 (by omega),st2 hb hn,λhge=> ?_⟩
   rw [zaQ] at hge
   have e:=za5 h1 hge
   subst e
   rw [List.take_length] at h2 h3
   rw [zaN,List.take_length]
   have hq:=zcl c g x.2.1 x.2.1
   exact ⟨λk=>by omega,λ_=>⟨by rw [zdT];omega,Nat.le_refl _,by omega,by rw [zdT];omega,.inr ⟨(x.1-1,rsL c g x.2.1 x.2.1,x.2.2++ [frL c g x.2.1 x.2.1]),⟨ziX h13 h2,(by show 1<=(_++ [_]).length;rw [List.length_append];exact Nat.le_add_left _ _)⟩,(by show (rsL c g x.2.1 x.2.1).length<_;omega),⟨(by rw [zc7];exact (zeT (λk=>by rw [k] at h3;exact absurd h3 (Nat.lt_irrefl 0))).symm),⟨rfl,(by show _=(_++ [_]).length;rw [hr];rfl),T⟩,T⟩,(by rw [zc7,<-zeT (λk=>by rw [k] at h2;exact absurd h2 (Nat.lt_irrefl 0))];show _=List.map iD (_++ [_]);rw [hr];rfl),T⟩⟩⟩
  .rw [zaQ] at hge
   have hge:¬(0:Int)<x.2.1.length:=hge
   have h2:frL c g x.2.1 x.2.1= []:=by rw [List.length_eq_zero_iff.1 (by omega:x.2.1.length=0)];rfl
   exact zla h13 hr h2
 .obtain ⟨h13,hx⟩:=hx
  have hb:=zvZ hcg h13
  have hb1:=hb.out.1
  have hb2:=h13.2.2.1
  refine ⟨zc1 (by omega),λhne=>⟨m9,⟨⟨λn hn=> ?_,λn hn=> ?_⟩,λn hn=> ?_⟩,λn hn=> ?_⟩,λhge=> ?_⟩
  .have hn:zdc n x c g:=hn
   obtain ⟨h1,h2,h3⟩:=o8 hn
   rw [zaN,zaQ]
   refine ⟨zc1 (by omega),λhlt=>⟨m12,λk hk=>⟨zc1 (by omega),m1 hb hk (by omega),λhge=>⟨λhf=> ?_,λhf=> ?_⟩⟩⟩,λhge=> ?_⟩
   .obtain ⟨e1,e2⟩:=zwb (c:=c) (g:=g) (by omega) ((zrv hk (by rw [zaQ];exact hge)).1 hf)
    exact ⟨by omega,hlt,Nat.le_refl _,by omega,⟨by omega,by omega⟩,.inl (.inl (.inr ⟨n+1,h5 (by omega) (by rw [e1,List.length_append];exact Nat.succ_pos _) (by rw [e2,h3]),by rw [zaN];omega,⟨by omega,⟨rfl,by rw [zaN,e1,h2];rfl,T⟩,T,T⟩,by rw [zaN,e1,h2,ze4 (by omega)];rfl,T⟩))⟩
   .obtain ⟨e1,e2⟩:=zwp (c:=c) (g:=g) (by omega) (λq=>hf ((zrv hk (by rw [zaQ];exact hge)).2 q))
    exact ⟨by omega,hlt,Nat.le_refl _,by omega,⟨by omega,by omega⟩,.inl (.inr ⟨n+1,h6 (by omega) (by rw [e1];exact h2) (by rw [e2,List.length_append];exact Nat.succ_pos _),by omega,⟨by omega,T,⟨rfl,by rw [e2,h3];rfl,T⟩,T⟩,by rw [e2,h3,ze4 (by omega)];rfl,T⟩)⟩
   .have e:=za5 h1 hge
    subst e
    rw [List.take_length] at h2
    exact ⟨by rw [List.length_map];omega,zlu h13 hx h2⟩
  .have hn:zcU n x c g:=hn
   obtain ⟨h1,h2,h3⟩:=o5 hn
   rw [zih]
   refine ⟨zc1 (by omega),st3 hb hn,λhge=> ?_⟩
   rw [zaQ] at hge
   have e:=za5 h1 hge
   subst e
   rw [List.take_length] at h2 h3
   rw [zaN,List.take_length]
   have hq:=zcl c g x.2.1 x.2.1
   exact ⟨λk=>by omega,λ_=>⟨by rw [zdT];omega,Nat.le_refl _,by rw [List.length_map];omega,by omega,.inr ⟨(x.1-1,rsL c g x.2.1 x.2.1,x.2.2++ [frL c g x.2.1 x.2.1]),⟨ziX h13 h2,(by show 1<=(_++ [_]).length;rw [List.length_append];exact Nat.le_add_left _ _)⟩,(by show (rsL c g x.2.1 x.2.1).length<_;omega),⟨(by rw [h3];rfl),⟨rfl,(by show _=(_++ [_]).length;rw [List.length_append];rfl),T⟩,T⟩,(by rw [zc7,<-zeT (λk=>by rw [k] at h2;exact absurd h2 (Nat.lt_irrefl 0))];show _=List.map iD (_++ [_]);rw [List.map_append,zpA];rfl),T⟩⟩⟩
  .have hn:zcn n x c g:=hn
   obtain ⟨h1,h2,h3⟩:=o6 hn
   rw [zih]
   refine ⟨zc1 (by omega),st4 hb hn,λhge=> ?_⟩
   rw [zaQ] at hge
   have e:=za5 h1 hge
   subst e
   rw [List.take_length] at h2 h3
   exact ⟨by rw [List.length_map];omega,zlu h13 hx h2⟩
  .have hn:zch n x c g:=hn
   obtain ⟨h1,h2,h3⟩:=o7 hn
   rw [zih]
   refine ⟨zc1 (by omega),st2 hb hn,λhge=> ?_⟩
   rw [zaQ] at hge
   have e:=za5 h1 hge
   subst e
   rw [List.take_length] at h2 h3
   rw [zaN,List.take_length]
   have hq:=zcl c g x.2.1 x.2.1
   exact ⟨λk=>by omega,λ_=>⟨by rw [zdT];omega,Nat.le_refl _,by rw [List.length_map];omega,by omega,by rw [zdT];omega,.inr ⟨(x.1-1,rsL c g x.2.1 x.2.1,x.2.2++ [frL c g x.2.1 x.2.1]),⟨ziX h13 h2,(by show 1<=(_++ [_]).length;rw [List.length_append];exact Nat.le_add_left _ _)⟩,(by show (rsL c g x.2.1 x.2.1).length<_;omega),⟨(by rw [zc7];exact (zeT (λk=>by rw [k] at h3;exact absurd h3 (Nat.lt_irrefl 0))).symm),⟨rfl,(by show _=(_++ [_]).length;rw [List.length_append];rfl),T⟩,T⟩,(by rw [zc7,<-zeT (λk=>by rw [k] at h2;exact absurd h2 (Nat.lt_irrefl 0))];show _=List.map iD (_++ [_]);rw [List.map_append,zpA];rfl),T⟩⟩⟩
  .rw [zaQ] at hge
   have hge:¬(0:Int)<x.2.1.length:=hge
   have h2:frL c g x.2.1 x.2.1= []:=by rw [List.length_eq_zero_iff.1 (by omega:x.2.1.length=0)];rfl
   exact ⟨by rw [List.length_map];omega,zlu h13 hx h2⟩
end
end Go.Ev

end

section
open Go.Proofs
namespace Go.Ev
noncomputable section
theorem zrd {α:Type} {A:α->Prop} {f:α->α->Int} (h:wkP A f) {x:α} (hx:A x):f x x=0:=by have:=h.anti x x hx hx;omega
theorem ztB {α:Type} {A:α->Prop} {f:α->α->Int} (h:wkP A f):∀l:List α,l≠ []->(∀x,x∈l->A x)->∃m,m∈l/\∀y,y∈l->¬f y m<0
 | [],h,_=>absurd rfl h
 | [x],_,hA=>⟨x,List.mem_cons_self ..,λy hy=>by
  rw [List.mem_singleton.1 hy,zrd h (hA x (List.mem_cons_self ..))];exact Int.lt_irrefl 0⟩
 |x::z::t,_,hA=>by
  obtain ⟨m,hm,hmin⟩:=ztB h (z::t) (List.cons_ne_nil _ _) λy hy=>hA y (List.mem_cons_of_mem _ hy)
  have hx:=hA x (List.mem_cons_self ..)
  have hmA:=hA m (List.mem_cons_of_mem _ hm)
  by_cases q:f x m<0
  .refine ⟨x,List.mem_cons_self ..,λy hy=> ?_⟩
   rcases List.mem_cons.1 hy with rfl|hy
   .rw [zrd h hx];exact Int.lt_irrefl 0
   .intro k
    have:=h.tri y x m (hA y (List.mem_cons_of_mem _ hy)) hx hmA (by omega) (by omega)
    exact hmin y hy (by omega)
  .refine ⟨m,List.mem_cons_of_mem _ hm,λy hy=> ?_⟩
   rcases List.mem_cons.1 hy with rfl|hy
   .exact q
   .exact hmin y hy
theorem zwB {c g:D} {x y:Nat}:goP c g x y↔rkZ c g x y<0:=by
 have e:rkZ c g x y=(zaM (clE c (gAt (el g x)) (gAt (el g y)) x y) c.len 0).2:=(zpc _ _).symm
 rw [e];exact ⟨λh=>h.out,λh=>⟨h⟩⟩
theorem zkO {c g:D} {s:List Nat} {x:Nat}:zjZ c g s x↔ ∀y,y∈s->¬rkZ c g y x<0:=
 ⟨λh y hy k=>h.out y hy (zwB.2 k),λh=>⟨λy hy k=>h y hy (zwB.1 k)⟩⟩
open Classical in
theorem zmN {c g:D} (hv:(zaK c).2=0):∀(f:Nat) (s:List Nat),s.length<f->(∀x,x∈s->x<64)->s.Pairwise (· < ·)->zou (rkZ c g) (λx=>(x:Int)) s (zfE c g f s)
 |0,_,h,_,_=>absurd h (Nat.not_lt_zero _)
 |f+1,s,hl,hs,hp=>by
  have hw:=zt6 hv g
  have hA:∀x,x∈s->inB x:=λx hx=>⟨by omega,by have:=hs x hx;omega⟩
  unfold zfE
  by_cases hf:frL c g s s= []
  .rw [if_pos hf]
   have e:s= []:=Classical.byContradiction λk=>by
    obtain ⟨m,hm,hmin⟩:=ztB hw s k hA
    have:m∈frL c g s s:=List.mem_filter.2 ⟨hm,decide_eq_true (zkO.2 hmin)⟩
    rw [hf] at this;cases this
   subst e
   exact ⟨.refl _,λg h=>(by cases h),λg h=>(by cases h),λg h=>(by cases h),.nil⟩
  .rw [if_neg hf]
   have hq:=zcl c g s s
   have hpos:=List.length_pos_iff.2 hf
   have ih:=zmN (g:=g) hv f (rsL c g s s) (by omega) (λx hx=>hs x (List.mem_filter.1 hx).1) (hp.sublist List.filter_sublist)
   have mf:∀x,x∈frL c g s s->x∈s/\∀y,y∈s->¬rkZ c g y x<0:=λx hx=>⟨(List.mem_filter.1 hx).1,zkO.1 (of_decide_eq_true (List.mem_filter.1 hx).2)⟩
   have mr:∀x,x∈rsL c g s s->x∈s/\∃z,z∈s/\rkZ c g z x<0:=λx hx=>by
    refine ⟨(List.mem_filter.1 hx).1,Classical.byContradiction λk=>of_decide_eq_true (List.mem_filter.1 hx).2 (zkO.2 λy hy q=>k ⟨y,hy,q⟩)⟩
   refine ⟨?_,λG hG=> ?_,λG hG=> ?_,λG hG x y hx hy=> ?_,List.pairwise_cons.2 ⟨λH hH x y hx hy=> ?_,ih.bef⟩⟩
   .rw [List.flatten_cons]
    refine (List.Perm.append_left _ ih.perm).trans ?_
    have e:rsL c g s s=s.filter (λx=> !decide (zjZ c g s x)):=by unfold rsL;congr 1;funext x;simp
    rw [e];exact List.filter_append_perm _ _
   .rcases List.mem_cons.1 hG with rfl|hG
    .exact hf
    .exact ih.ne G hG
   .rcases List.mem_cons.1 hG with rfl|hG
    .exact (hp.sublist List.filter_sublist).imp λh=>by omega
    .exact ih.inc G hG
   .rcases List.mem_cons.1 hG with rfl|hG
    .have a:=mf x hx
     have b:=mf y hy
     have h1:=a.2 y b.1
     have h2:=b.2 x a.1
     have:=hw.anti x y (hA x a.1) (hA y b.1)
     omega
    .exact ih.tie G hG x y hx hy
   .have a:=mf x hx
    have b:=mr y (ih.perm.mem_iff.1 (List.mem_flatten.2 ⟨H,hH,hy⟩))
    obtain ⟨hy1,z,hz,hzy⟩:=b
    have h1:=a.2 z hz
    have h2:=hw.anti z x (hA z hz) (hA x a.1)
    have:=hw.tri x z y (hA x a.1) (hA z hz) (hA y hy1) (by omega) (by omega)
    omega
theorem zwh {c g:D} (h:okO c g):∀x,x∈List.range g.len->x<64:=λx hx=>by have:=List.mem_range.1 hx;have:=h.out.1;omega
theorem ztx {c g:D} (h:okO c g):∀x:Nat,x∈List.range g.len->inB x:=λx hx=>⟨by omega,by have:=zwh h x hx;omega⟩
theorem zky {c g:D} (h:okO c g):roD c g=orD c g:=by
 obtain ⟨G,e,hG⟩:=zhW h
 have hP:=zmN (g:=g) h.out.2 (g.len+1) (List.range g.len) (by rw [List.length_range];omega) (zwh h) List.pairwise_lt_range
 rw [e,zid (zt6 h.out.2 g) (ztx h) hG hP]
 have e1:rgD g.len=iD (List.range g.len):=rfl
 unfold roD pgD;rw [e1,zaQ,List.length_range,zaN]
theorem zmm:∀G:List (List Nat),(∀s,s∈G->s.length=1)->G.flatten.length=G.length
 | [],_=>rfl
 |s::G,h=>by
  rw [List.flatten_cons,List.length_append,List.length_cons,h s (List.mem_cons_self ..),zmm G λt ht=>h t (List.mem_cons_of_mem _ ht)];omega
theorem zoG:∀G:List (List Nat),(∀s,s∈G->s≠ [])->G.length<=G.flatten.length/\(G.flatten.length<=G.length->∀s,s∈G->s.length=1)
 | [],_=>⟨Nat.le_refl _,λ_ s hs=>(by cases hs)⟩
 |s::G,h=>by
  have ih:=zoG G λt ht=>h t (List.mem_cons_of_mem _ ht)
  have hs:=List.length_pos_iff.2 (h s (List.mem_cons_self ..))
  rw [List.flatten_cons,List.length_append,List.length_cons]
  refine ⟨by omega,λk t ht=> ?_⟩
  rcases List.mem_cons.1 ht with rfl|ht
  .omega
  .exact ih.2 (by omega) t ht
theorem zv6 {ll:D}:∀n,(∀i,i<n->∃x:Nat,el ll i=iD [x])->zas ll n=hdL ll n
 |0,_=>rfl
 |n+1,h=>by
  obtain ⟨x,hx⟩:=h n (Nat.lt_succ_self n)
  rw [zfh,zna,zv6 n λi hi=>h i (by omega),hx];rfl
theorem zwz {c g:D} (h:okO c g):lnD c (plD g)=sgD (roD c g):=by
 rw [zky h]
 obtain ⟨G,e,hG⟩:=zhW h
 have eo:orD c g=grD c (plD g):=by unfold orD;rw [if_pos h]
 rw [eo] at e⊢
 unfold lnD sgD
 rw [e]
 have hp:(plD g).len=g.len:=zc6 g g.len
 have hn:=hG.perm.length_eq
 rw [List.length_range] at hn
 have hg:=zoG G hG.ne
 have hel:∀i (hi:i<G.length),el (zba (G.map iD)) i=iD G[i]:=λi hi=>by
  rw [zn9 (by rw [List.length_map];exact hi),List.getElem_map]
 rw [zdl,List.length_map,hp]
 by_cases q:G.length<g.len
 .rw [if_pos q,if_neg]
  intro k
  have:=zmm G λs hs=>by
   obtain ⟨i,hi,rfl⟩:=List.getElem_of_mem hs
   have:=k.out i hi
   rw [hel i hi,zaQ] at this;exact this
  omega
 .rw [if_neg q,if_pos]
  .unfold zhx
   rw [zdl,List.length_map]
   congr 2
   refine zv6 _ λi hi=> ?_
   have h1:=hg.2 (by omega) _ (List.getElem_mem hi)
   obtain ⟨x,hx⟩:=List.length_eq_one_iff.1 h1
   exact ⟨x,by rw [hel i hi,hx]⟩
  .exact ⟨λi hi=>by rw [hel i hi,zaQ];exact hg.2 (by omega) _ (List.getElem_mem hi)⟩
theorem zcC (g:D):(cgD g).len=g.len:=by unfold cgD;rw [zdl];unfold cgL;rw [List.length_map,List.length_range]
theorem zkU {g:D} {x:Nat} (h:x<g.len):gAt (el (cgD g) x)=zcq (gAt (el g x)):=by
 unfold cgD
 rw [zn9 (by unfold cgL;rw [List.length_map,List.length_range];exact h)]
 unfold cgL;rw [List.getElem_map,List.getElem_range];rfl
theorem zh5 {f f':Nat->Int}:∀{n:Nat},(∀k,k<n->f k=f' k)->zhC f n=zhC f' n
 |0,_=>rfl
 |n+1,h=>by unfold zhC;rw [zh5 λk hk=>h k (by omega),h n (Nat.lt_succ_self n)]
theorem zuC {c g:D} {x y:Nat} (hx:x<g.len) (hy:y<g.len):rkZ (zar c) (cgD g) x y=rkZ c g x y:=by
 unfold rkZ zwl
 rw [zkU hx,zkU hy,zbB]
 exact zh5 λk hk=>zmP c _ _ _ _ hk
theorem zpn {α:Type} {f f':α->α->Int} {p:α->Int} {xs:List α} {G:List (List α)} (he:∀x y,x∈xs->y∈xs->f x y=f' x y) (h:zou f p xs G):zou f' p xs G:=by
 have hm:∀s,s∈G->∀x,x∈s->x∈xs:=λs hs x hx=>h.perm.mem_iff.1 (List.mem_flatten.2 ⟨s,hs,hx⟩)
 refine ⟨h.perm,h.ne,h.inc,λs hs x y hx hy=> ?_,h.bef.imp_of_mem λ{a b} ha hb hab x y hx hy=> ?_⟩
 .rw [<-he x y (hm s hs x hx) (hm s hs y hy)];exact h.tie s hs x y hx hy
 .rw [<-he x y (hm a ha x hx) (hm b hb y hy)];exact hab x y hx hy
theorem zdu {c g:D}:okO (zar c) (cgD g)↔okO c g:=⟨λh=>⟨by have:=h.out;rw [zcC,zt8] at this;exact this⟩,λh=>⟨by rw [zcC,zt8];exact h.out⟩⟩
theorem zlz (c g:D):orD (zar c) (cgD g)=orD c g:=by
 by_cases h:okO c g
 .obtain ⟨G,e,hG⟩:=zhW h
  obtain ⟨G',e',hG'⟩:=zhW (zdu.2 h)
  rw [zcC] at hG'
  have:=zpn (f':=rkZ c g) (λx y hx hy=>zuC (List.mem_range.1 hx) (List.mem_range.1 hy)) hG'
  rw [e,e',zid (zt6 h.out.2 g) (ztx h) hG this]
 .unfold orD;rw [if_neg h,if_neg λk=>h (zdu.1 k)]
theorem zwK (c g:D):liD (zar c) (cgD g)=lrD c g:=by
 unfold liD lrD
 rw [zt8,zcC]
 by_cases hb:(zaK c).2≠0
 .rw [if_pos hb,if_pos hb]
 .rw [if_neg hb,if_neg hb]
  by_cases hl:64<g.len
  .rw [if_pos hl,if_pos hl]
  .rw [if_neg hl,if_neg hl]
   have h:okO c g:=⟨by omega,by omega⟩
   rw [zwz (zdu.2 h),zky (zdu.2 h),zlz,zky h]
theorem zq8 {c g:D} {a b:Nat} (ha:a<g.len) (hb:b<g.len):sxZ (zar c) (cgD g) a b=sxZ c g a b:=by
 unfold sxZ
 rw [zkU ha,zkU hb,zbB]
 exact congrArg Prod.fst (zes (λk hk=>zmP c _ _ _ _ hk) _ _ (by omega))
theorem zr1 {c g:D} {k:Nat}:zmS (zar c) (cgD g) k↔zmS c g k:=
 ⟨λh=>by obtain ⟨a,b,ha,hb,e⟩:=h.out;rw [zcC] at ha hb;exact ⟨a,b,ha,hb,by rw [<-zq8 ha hb];exact e⟩,
 λh=>by obtain ⟨a,b,ha,hb,e⟩:=h.out;exact ⟨a,b,by rw [zcC];exact ha,by rw [zcC];exact hb,by rw [zq8 ha hb];exact e⟩⟩
theorem zj6 (c g:D):∀n,zbZ (zar c) (cgD g) n=zbZ c g n
 |0=>rfl
 |n+1=>by unfold zbZ;rw [zj6 c g n,propext (zr1 (c:=c) (g:=g) (k:=n))]
theorem zvw (c g:D):deD (zar c) (cgD g)=deD c g:=by
 unfold deD
 rw [propext (zdu (c:=c) (g:=g)),zj6,zbB]
theorem zkX {R R':List D} {i:Nat} (hl:R.length=R'.length) (k:Int) (s:D):∀j,(R[i]? =R'[i]? \/∃t,t<j/\(el s t).asInt.toNat=i)->(ziR R k s j)[i]? =(ziR R' k s j)[i]?
 |0,h=>h.elim id λ⟨t,ht,_⟩=>absurd ht (Nat.not_lt_zero t)
 |j+1,h=>by
  unfold ziR
  rw [List.getElem?_set,List.getElem?_set,zep,zep,hl]
  by_cases q:(el s j).asInt.toNat=i
  .rw [if_pos q,if_pos q]
  .rw [if_neg q,if_neg q]
   refine zkX hl k s j (h.imp id λ⟨t,ht,e⟩=>⟨t, ?_,e⟩)
   have:t≠j:=λe'=>q (e'▸e)
   omega
theorem zri {R R':List D} {i:Nat} (hl:R.length=R'.length) (ll:D):∀m,(R[i]? =R'[i]? \/∃k,k<m/\∃t,t<(el ll k).len/\(el (el ll k) t).asInt.toNat=i)->(zey R ll m)[i]? =(zey R' ll m)[i]?
 |0,h=>h.elim id λ⟨t,ht,_⟩=>absurd ht (Nat.not_lt_zero t)
 |m+1,h=>by
  unfold zey
  by_cases q:∃t,t<(el ll m).len/\(el (el ll m) t).asInt.toNat=i
  .exact zkX (by rw [zbg,zbg,hl]) _ _ _ (.inr q)
  .refine zkX (by rw [zbg,zbg,hl]) _ _ _ (.inl (zri hl ll m (h.imp id λ⟨k,hk,e⟩=>⟨k, ?_,e⟩)))
   have:k≠m:=λe'=>q (e'▸e)
   omega
theorem zu6 {c g:D} (h:okO c g):zey (List.replicate g.len (.int 0)) (orD c g) (orD c g).len=zey (rgL g.len) (orD c g) (orD c g).len:=by
 have hl:(List.replicate g.len (D.int 0)).length=(rgL g.len).length:=by rw [List.length_replicate,zcp]
 refine List.ext_getElem? λi=> ?_
 by_cases hi:i<g.len
 .refine zri hl _ _ (.inr ?_)
  obtain ⟨G,e,hG⟩:=zhW h
  obtain ⟨s,hs,his⟩:=List.mem_flatten.1 (hG.perm.mem_iff.2 (List.mem_range.2 hi))
  obtain ⟨k,hk,rfl⟩:=List.getElem_of_mem hs
  obtain ⟨t,ht,rfl⟩:=List.getElem_of_mem his
  have e1:el (orD c g) k=iD G[k]:=by rw [e,zn9 (by rw [List.length_map];exact hk),List.getElem_map]
  refine ⟨k,by rw [e,zdl,List.length_map];exact hk,t,by rw [e1,zaQ];exact ht, ?_⟩
  rw [e1,zvJ ht];rfl
 .rw [List.getElem?_eq_none (by rw [zbg,List.length_replicate];omega),List.getElem?_eq_none (by rw [zbg,zcp];omega)]
theorem zfu (d:D):eqN d d:=⟨rfl,λ_ _=>rfl⟩
theorem zjX (d:D):znF d d:=⟨rfl,λ_ _=>zfu _⟩
theorem zxJ {c g:D} (h:okO c g):eqN (clD (zar c) (cgD g)) (crD (roD c g) g.len):=by
 rw [zky h]
 unfold clD crD
 rw [if_pos (zdu.2 h),zlz,zcC,zu6 h]
 refine ⟨by rw [zdl];rfl,λi _=> ?_⟩
 unfold el;rw [zcV];rfl
theorem zwE (c g:D):(clD c g).len<=g.len:=by
 unfold clD;split
 .show (zey _ _ _).length<=_;rw [zbg,List.length_replicate];exact Nat.le_refl _
 .exact Nat.zero_le _
theorem zwH (c g:D):(deD c g).len<=c.len:=by
 unfold deD;split
 .rw [zdl];exact zui c g _
 .exact Nat.zero_le _
theorem zk6 (g:D):zeC (cgD g) g:=⟨zcC g,λi hi=>by rw [zcC] at hi;rw [zkU hi];exact znq _⟩
theorem zsl {g:D} (h:tgB g):tgB (cgD g):=⟨by rw [zcC];exact h.out.1,λi hi=>by rw [zcC] at hi;rw [zkU hi];show (zeb _).len<=_;rw [zec];exact h.out.2 i hi⟩
theorem zwt {c g:D} (hc:zkH c) (hB:tgB g) (hg:g.len<=64->zfQ g 12):zgb c g:=by
 refine ⟨zqY hc, ?_⟩
 rcases Nat.lt_or_ge 64 g.len with h|h
 .exact .inr ⟨h,hB.out.1⟩
 .have k:=(hg h).out
  exact .inl ⟨by omega,⟨λi hi=>by have t:(gAt (el g i)).tg.len<=10:=(k.2 i hi).out.2.1;omega⟩⟩
theorem zsd {c g:D} (h:zgb c g):zgb (zar c) (cgD g):=by
 refine ⟨zlO h.out.1, ?_⟩
 rw [zcC]
 exact h.out.2.imp (λk=>⟨k.1,⟨λi hi=>by rw [zcC] at hi;rw [zkU hi];show (zeb _).len<=_;rw [zec];exact k.2.out i hi⟩⟩) id
theorem zr0 {c g:D} (h:zgb c g):zbJ (orD c g):=by
 by_cases k:okO c g
 .exact (zvF k (zhn h k.out.1).1).sh
 .unfold orD;rw [if_neg k];exact ⟨Nat.zero_le _,λi hi=>absurd hi (Nat.not_lt_zero _)⟩
theorem zq6 {c g:D} (h:zgb c g):(liD c g).1.len<=100:=by
 unfold liD
 by_cases hb:(zaK c).2≠0
 .rw [if_pos hb];exact Nat.zero_le _
 .rw [if_neg hb]
  by_cases hl:64<g.len
  .rw [if_pos hl];exact Nat.zero_le _
  .rw [if_neg hl]
   have k:okO c g:=⟨by omega,by omega⟩
   rw [zwz k,zky k]
   have:=(zr0 h).out.1
   unfold sgD
   split
   .rw [zdl,zfS];exact this
   .exact Nat.zero_le _
theorem s62 (c g:D) (h:zgb c g):zac (zbp os3 c g) 3 62 [.dat 22 c,.dat 23 g] (.tup [.dat 34 (lrD c g).1,.int .i64 (lrD c g).2]):=by
 rw [zAx]
 refine ⟨h.out.1,λhb=> ?_,λhb=>⟨λhl=> ?_,λhl=> ?_⟩⟩
 .unfold lrD;rw [if_pos hb];exact ⟨rfl,rfl,trivial⟩
 .unfold lrD;rw [if_neg hb,if_pos (by omega)];exact ⟨rfl,rfl,trivial⟩
 .have hl:¬(64:Int)<g.len:=hl
  have hp:=zhn h (by omega)
  have hb:=Classical.byContradiction hb
  have k:okO c g:=⟨by omega,hb⟩
  refine ⟨⟨⟨h.out.1,hb⟩,hp.2,hp.1⟩,by rw [zky k];exact zr0 h, ?_⟩
  unfold lrD;rw [if_neg (λq=>q hb),if_neg (by omega)];exact ⟨rfl,rfl,trivial⟩
theorem noH {p q:Prop} (h:p):(p->False)->q:=λk=>(k h).elim
end
end Go.Ev

end
