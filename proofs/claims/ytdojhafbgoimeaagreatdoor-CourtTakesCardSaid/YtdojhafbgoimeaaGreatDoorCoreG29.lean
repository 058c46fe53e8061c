/- Part of the proof. -/
import Derived.Test.YtdojhafbgoimeaaGreatDoorCoreG28
import Derived.Test.YtdojhafbgoimeaaGreatDoorCoreG24
import Derived.Test.YtdojhafbgoimeaaGreatDoorCoreG22

section
open Go.Proofs
namespace Go.Ev
set_option maxRecDepth 100000
set_option maxHeartbeats 4000000
def zkD (x_3:Nat):Prop:=
 (-9223372036854775808)<=(x_3:Int)+1/\(x_3:Int)+1<9223372036854775808
def zpg (x:Nat):Prop:=
 (-9223372036854775808)<=(x:Int)+1/\(x:Int)+1<9223372036854775808
def zuD (nm:D) (x:Nat) (ct:D) (g:D):Prop:=
 (zbG (nm.sub 0 x) (sAt nm x)->False)->(((zbm (el ct x)).snd=0->False)->D.nil=(alD ct nm g).fst/\(zbm (el ct x)).snd=(alD ct nm g).snd/\True)/\((((zbm (el ct x)).snd=0->False)->False)->0<=(x:Int)
 /\(x:Int)<(nm.len:Int)/\g.len<=100/\((zaE (el ct x)/\(zbm (el ct x)).snd=0)/\(ofL (sAt nm x) g g.len).length<=20/\tgP (D.list (ofL (sAt nm x) g g.len)))/\(((lnD (el ct x) (D.list (ofL (sAt nm x) g
 g.len))).snd=0->False)->D.nil=(alD ct nm g).fst/\(lnD (el ct x) (D.list (ofL (sAt nm x) g g.len))).snd=(alD ct nm g).snd/\True)/\((((lnD (el ct x) (D.list (ofL (sAt nm x) g g.len))).snd=0->False)->False)->
 0<=(x:Int)/\(x:Int)<(ct.len:Int)/\x<(alL ct nm g x++List.drop x (List.replicate ct.len D.nil)).length/\(zpg x)/\∃(y:Nat),(y<=ct.len/\zsm ct nm g y)/\ct.len-y<ct.len-x/\((x:Int)+1=
 (y:Int)/\True)/\(alL ct nm g x++List.drop x (List.replicate ct.len D.nil)).set x (lnD (el ct x) (D.list (ofL (sAt nm x) g g.len))).fst=alL ct nm g y++List.drop y (List.replicate ct.len D.nil)/\True))
def zkE (y:Nat) (ct:D) (nm:D) (g:D) (x_2:Nat):Prop:=
 y<=ct.len/\0<(ttL (alC ct nm g) x_2++tkR (alC ct nm g) x_2 y).length
def zuF (ct:D) (nm:D) (g:D) (x_2:Nat) (x_3:Nat):Prop:=
 ∃(y:Nat),(y<=ct.len/\ttL (alC ct nm g) x_2++tkR (alC ct nm g) x_2 y= [])/\ct.len-y<ct.len-x_3/\((x_3:Int)+1=(y:Int)/\False/\True)/\True
def zuE (x_2:Nat) (ct:D) (nm:D) (g:D) (x:Nat) (x_3:Nat):Prop:=
 (x_2:Int)<(↑(zad (alL ct nm g x++List.drop x (List.replicate ct.len D.nil)) x_3).len:Int)->0<=(x_2:Int)/\(x_2:Int)<(↑(zad (alL ct nm g x++List.drop x (List.replicate ct.len D.nil)) x_3).len:Int)/\
 0+1<= [D.int (el (zad (alL ct nm g x++List.drop x (List.replicate ct.len D.nil)) x_3) x_2).asInt].length/\(1:Nat)<=8796093022208/\(zkD x_3)/\((zuF ct nm g x_2 x_3)\/∃(y:Nat),(zkE y ct nm g x_2)/\
 ct.len-y<ct.len-x_3/\((x_3:Int)+1=(y:Int)/\((0:Nat)=0/\1=(ttL (alC ct nm g) x_2++tkR (alC ct nm g) x_2 y).length/\True)/\True)/\List.take 1 [D.int (el (zad (alL ct nm g x++List.drop x
 (List.replicate ct.len D.nil)) x_3) x_2).asInt]=ttL (alC ct nm g) x_2++tkR (alC ct nm g) x_2 y/\True)
def zpd (g:D) (ct:D) (nm:D) (x:Nat):Prop:=
 ∃(y:Nat),(y<=g.len/\zb4 ct nm g y= [])/\g.len-y<g.len-x/\((x:Int)+1=(y:Int)/\False/\True)/\True
def zuB (x:Nat) (g:D) (nm:D) (ct:D):Prop:=
 (x:Int)<(g.len:Int)->0<=(x:Int)/\(x:Int)<(g.len:Int)/\nm.len<=100/\((zbG nm ((el g x).fld 2).asStr->False)->0+1<= [D.int (x:Int)].length/\0+(zb4 ct nm g x).length<=(zb4 ct nm g x).length
 /\(zb4 ct nm g x).length+1<=8796093022208/\(zpg x)/\((zpd g ct nm x)\/∃(y:Nat),(y<=g.len/\0<(zb4 ct nm g y).length)/\g.len-y<g.len-x/\((x:Int)+1=(y:Int)/\((0:Nat)=0/\(zb4 ct nm
 g x).length+1=(zb4 ct nm g y).length/\True)/\True)/\List.take (zb4 ct nm g x).length (zb4 ct nm g x)++List.take 1 [D.int (x:Int)]=zb4 ct nm g y/\True))/\(((zbG nm ((el g x).fld 2).asStr->False)->
 False)->(zpg x)/\((zpd g ct nm x)\/∃(y:Nat),(y<=g.len/\0<(zb4 ct nm g y).length)/\g.len-y<g.len-x/\((x:Int)+1=(y:Int)/\((0:Nat)=0/\(zb4 ct nm g x).length=(zb4 ct nm g y).length
 /\True)/\True)/\zb4 ct nm g x=zb4 ct nm g y/\True))
def zuC (g:D) (ct:D) (nm:D):Prop:=
 ∀(x:Nat),x<=g.len/\zb4 ct nm g x= []->g.len-x<LIM/\((x:Int)<(g.len:Int)->0<=(x:Int)/\(x:Int)<(g.len:Int)/\nm.len<=100/\((zbG nm ((el g x).fld 2).asStr->False)->0+1<= [D.int (x:
 Int)].length/\(1:Nat)<=8796093022208/\(zpg x)/\((zpd g ct nm x)\/∃(y:Nat),(y<=g.len/\0<(zb4 ct nm g y).length)/\g.len-y<g.len-x/\((x:Int)+1=(y:Int)/\((0:Nat)=0/\1=(zb4 ct nm
 g y).length/\True)/\True)/\List.take 1 [D.int (x:Int)]=zb4 ct nm g y/\True))/\(((zbG nm ((el g x).fld 2).asStr->False)->False)->(zpg x)/\((∃(y:Nat),(y<=g.len/\zb4 ct nm g y= [])/\g.len-y<
 g.len-x/\((x:Int)+1=(y:Int)/\True/\True)/\True)\/∃(y:Nat),(y<=g.len/\0<(zb4 ct nm g y).length)/\g.len-y<g.len-x/\((x:Int)+1=(y:Int)/\False/\True)/\False/\True)))/\(((x:Int)
 <(g.len:Int)->False)->D.nil=(alD ct nm g).fst/\0=(alD ct nm g).snd/\True)
def zpe (x_2:Nat):Prop:=
 (-9223372036854775808)<=(x_2:Int)+1/\(x_2:Int)+1<9223372036854775808
def zwn (x_3:Nat) (ct:D) (x_2:Nat) (nm:D) (g:D):Prop:=
 ((x_3:Int)<(ct.len:Int)->False)->(zpe x_2)/\((∃(y:Nat),(y<=lgN (alC ct nm g) ct.len/\ttL (alC ct nm g) y= [])/\lgN (alC ct nm g) ct.len-y<lgN (alC ct nm g) ct.len-x_2/\((x_2:Int)+1=(y:
 Int)/\False/\True)/\True)\/∃(y:Nat),(y<=lgN (alC ct nm g) ct.len/\0<(ttL (alC ct nm g) y).length)/\lgN (alC ct nm g) ct.len-y<lgN (alC ct nm g) ct.len-x_2/\((x_2:Int)+1=(y:Int)/\((0:Nat)=
 0/\(ttL (alC ct nm g) x_2++tkR (alC ct nm g) x_2 x_3).length=(ttL (alC ct nm g) y).length/\True)/\True)/\ttL (alC ct nm g) x_2++tkR (alC ct nm g) x_2 x_3=ttL (alC ct nm g) y/\True)
def zjz (x_2:Nat) (ct:D) (nm:D) (g:D) (x:Nat) (x_3:Nat):Prop:=
 (x_2:Int)<(↑(zad (alL ct nm g x++List.drop x (List.replicate ct.len D.nil)) x_3).len:Int)->False
def zpf (x:Nat) (g:D) (ct:D) (nm:D):Prop:=
 ((x:Int)<(g.len:Int)->False)->(0+(zb4 ct nm g x).length<=(zb4 ct nm g x).length/\D.list (List.take (zb4 ct nm g x).length (zb4 ct nm g x))=(alD ct nm g).fst)/\0=(alD ct nm g).snd/\True
theorem zA8:∀(ct nm g:D),zag (zxn tv0 ct nm g) 4 (43:FuncId) [V.dat (28:TypeId) ct,V.dat (29:TypeId) nm,V.dat (23:TypeId) g] (V.tup [V.dat (34:TypeId) (alD ct nm g).fst,V.int IntKind.i64 (alD ct
nm g).snd])=(((16<(ct.len:Int)->False)->(64<(g.len:Int)->D.nil=(alD ct nm g).fst/\7=(alD ct nm g).snd/\True)/\((64<(g.len:Int)->False)->(((ct.len:Int)=(nm.len:Int)->False)->D.nil=(alD
ct nm g).fst/\2=(alD ct nm g).snd/\True)/\((((ct.len:Int)=(nm.len:Int)->False)->False)->0<=(ct.len:Int)/\(ct.len:Int)<=(ct.len:Int)/\(ct.len:Int)<=16777216/\(zkk (λ_=>none) D.nil
D.nil).P.types[34].bytes*ct.len<=281474976710656/\(∃(x:Nat),(x<=ct.len/\zsm ct nm g x)/\(0=(x:Int)/\True)/\List.replicate ct.len D.nil=alL ct nm g x++List.drop x (List.replicate ct.len D.nil)/\
True)/\∀(x:Nat),x<=ct.len/\zsm ct nm g x->ct.len-x<LIM/\((x:Int)<(ct.len:Int)->0<=(x:Int)/\(x:Int)<(ct.len:Int)/\zaE (el ct x)/\0<=(x:Int)/\(x:Int)<(nm.len:Int)/\((sAt nm x
= []->False)->0<=(x:Int)/\(x:Int)<(nm.len:Int)/\True/\((zaY (sAt nm x)->False)->D.nil=(alD ct nm g).fst/\4=(alD ct nm g).snd/\True)/\(((zaY (sAt nm x)->False)->False)->(0:Int)<=0/\0<=(x
:Int)/\(x:Int)<=(nm.len:Int)/\0<=(x:Int)/\(x:Int)<(nm.len:Int)/\(nm.sub 0 x).len<=100/\(zbG (nm.sub 0 x) (sAt nm x)->D.nil=(alD ct nm g).fst/\5=(alD ct nm g).snd/\True)/\(zuD nm x ct g)))
/\(((sAt nm x= []->False)->False)->(0:Int)<=0/\0<=(x:Int)/\(x:Int)<=(nm.len:Int)/\0<=(x:Int)/\(x:Int)<(nm.len:Int)/\(nm.sub 0 x).len<=100/\(zbG (nm.sub 0 x) (sAt nm x)->D.nil=(alD ct nm
g).fst/\5=(alD ct nm g).snd/\True)/\(zuD nm x ct g)))/\(((x:Int)<(ct.len:Int)->False)->(∃(x:Nat),x.le ct.len/\(0=(x:Int)/\0=(↑(lgN (alC ct nm g) x):Int)/\True)/\True)/\∀(x_1:Nat),
x_1.le ct.len->ct.len-x_1<LIM/\((x_1:Int)<(ct.len:Int)->0<=(x_1:Int)/\(x_1:Int)<(ct.len:Int)/\x_1<(alL ct nm g x++List.drop x (List.replicate ct.len D.nil)).length/\fits64 ((x_1:Int)+1)/\
∃(y:Nat),y.le ct.len/\ct.len-y<ct.len-x_1/\((x_1:Int)+1=(y:Int)/\max (↑(lgN (alC ct nm g) x_1):Int) (↑(zad (alL ct nm g x++List.drop x (List.replicate ct.len D.nil)) x_1).len:Int)=(↑(lgN
(alC ct nm g) y):Int)/\True)/\True)/\(((x_1:Int)<(ct.len:Int)->False)->((∃(x:Nat),(x<=lgN (alC ct nm g) ct.len/\ttL (alC ct nm g) x= [])/\(0=(x:Int)/\True/\True)/\True)\/∃(x:Nat),(x<=lgN
(alC ct nm g) ct.len/\0<(ttL (alC ct nm g) x).length)/\(0=(x:Int)/\False/\True)/\False/\True)/\(∀(x_2:Nat),x_2<=lgN (alC ct nm g) ct.len/\ttL (alC ct nm g) x_2= []->lgN (alC ct nm g) ct.len-x_2<
LIM/\((x_2:Int)<(↑(lgN (alC ct nm g) x_1):Int)->((∃(x:Nat),(x<=ct.len/\ttL (alC ct nm g) x_2++tkR (alC ct nm g) x_2 x= [])/\(0=(x:Int)/\True/\True)/\True)\/∃(x:Nat),(x<=ct.len/\0<(ttL
(alC ct nm g) x_2++tkR (alC ct nm g) x_2 x).length)/\(0=(x:Int)/\False/\True)/\False/\True)/\(∀(x_3:Nat),x_3<=ct.len/\ttL (alC ct nm g) x_2++tkR (alC ct nm g) x_2 x_3= []->ct.len-x_3<LIM/\((x_3
:Int)<(ct.len:Int)->0<=(x_3:Int)/\(x_3:Int)<(ct.len:Int)/\x_3<(alL ct nm g x++List.drop x (List.replicate ct.len D.nil)).length/\(zuE x_2 ct nm g x x_3)/\((zjz x_2 ct nm g x x_3)->(zkD x_3)
/\((∃(y:Nat),(y<=ct.len/\ttL (alC ct nm g) x_2++tkR (alC ct nm g) x_2 y= [])/\ct.len-y<ct.len-x_3/\((x_3:Int)+1=(y:Int)/\True/\True)/\True)\/∃(y:Nat),(zkE y ct nm g x_2)/\ct.len-y<
ct.len-x_3/\((x_3:Int)+1=(y:Int)/\False/\True)/\False/\True)))/\(((x_3:Int)<(ct.len:Int)->False)->(zpe x_2)/\((∃(y:Nat),(y<=lgN (alC ct nm g) ct.len/\ttL (alC ct nm g) y= [])/\lgN (alC
ct nm g) ct.len-y<lgN (alC ct nm g) ct.len-x_2/\((x_2:Int)+1=(y:Int)/\True/\True)/\True)\/∃(y:Nat),(y<=lgN (alC ct nm g) ct.len/\0<(ttL (alC ct nm g) y).length)/\lgN (alC ct nm g) ct.len-y<
lgN (alC ct nm g) ct.len-x_2/\((x_2:Int)+1=(y:Int)/\False/\True)/\False/\True)))/\∀(x_3:Nat),x_3<=ct.len/\0<(ttL (alC ct nm g) x_2++tkR (alC ct nm g) x_2 x_3).length->ct.len-x_3<LIM/\((x_3
:Int)<(ct.len:Int)->0<=(x_3:Int)/\(x_3:Int)<(ct.len:Int)/\x_3<(alL ct nm g x++List.drop x (List.replicate ct.len D.nil)).length/\((x_2:Int)<(↑(zad (alL ct nm g x++List.drop x (List.replicate
ct.len D.nil)) x_3).len:Int)->0<=(x_2:Int)/\(x_2:Int)<(↑(zad (alL ct nm g x++List.drop x (List.replicate ct.len D.nil)) x_3).len:Int)/\0+1<= [D.int (el (zad (alL ct nm g x++List.drop x
(List.replicate ct.len D.nil)) x_3) x_2).asInt].length/\0+(ttL (alC ct nm g) x_2++tkR (alC ct nm g) x_2 x_3).length<=(ttL (alC ct nm g) x_2++tkR (alC ct nm g) x_2 x_3).length/\(ttL (alC ct nm g) x_2++tkR (alC
ct nm g) x_2 x_3).length+1<=8796093022208/\(zkD x_3)/\((zuF ct nm g x_2 x_3)\/∃(y:Nat),(zkE y ct nm g x_2)/\ct.len-y<ct.len-x_3/\((x_3:Int)+1=(y:Int)/\((0:Nat)=0/\(ttL (alC ct nm g)
x_2++tkR (alC ct nm g) x_2 x_3).length+1=(ttL (alC ct nm g) x_2++tkR (alC ct nm g) x_2 y).length/\True)/\True)/\List.take (ttL (alC ct nm g) x_2++tkR (alC ct nm g) x_2 x_3).length (ttL (alC ct nm g) x_2++
tkR (alC ct nm g) x_2 x_3)++List.take 1 [D.int (el (zad (alL ct nm g x++List.drop x (List.replicate ct.len D.nil)) x_3) x_2).asInt]=ttL (alC ct nm g) x_2++tkR (alC ct nm g) x_2 y/\True))/\((zjz x_2 ct nm g
x x_3)->(zkD x_3)/\((zuF ct nm g x_2 x_3)\/∃(y:Nat),(zkE y ct nm g x_2)/\ct.len-y<ct.len-x_3/\((x_3:Int)+1=(y:Int)/\((0:Nat)=0/\(ttL (alC ct nm g) x_2++tkR (alC ct nm g) x_2
x_3).length=(ttL (alC ct nm g) x_2++tkR (alC ct nm g) x_2 y).length/\True)/\True)/\ttL (alC ct nm g) x_2++tkR (alC ct nm g) x_2 x_3=ttL (alC ct nm g) x_2++tkR (alC ct nm g) x_2 y/\True)))/\(zwn x_3 ct
x_2 nm g))/\(((x_2:Int)<(↑(lgN (alC ct nm g) x_1):Int)->False)->((∃(x:Nat),(x<=g.len/\zb4 ct nm g x= [])/\(0=(x:Int)/\True/\True)/\True)\/∃(x:Nat),(x<=g.len/\0<(zb4 ct nm g x).length)/\
(0=(x:Int)/\False/\True)/\False/\True)/\(zuC g ct nm)/\∀(x:Nat),x<=g.len/\0<(zb4 ct nm g x).length->g.len-x<LIM/\(zuB x g nm ct)/\(zpf x g ct nm)))/\∀(x_2:Nat),x_2<=lgN (alC ct nm
g) ct.len/\0<(ttL (alC ct nm g) x_2).length->lgN (alC ct nm g) ct.len-x_2<LIM/\((x_2:Int)<(↑(lgN (alC ct nm g) x_1):Int)->((∃(x:Nat),(x<=ct.len/\ttL (alC ct nm g) x_2++tkR (alC ct nm g) x_2 x=
[])/\(0=(x:Int)/\False/\True)/\True)\/∃(x:Nat),(x<=ct.len/\0<(ttL (alC ct nm g) x_2++tkR (alC ct nm g) x_2 x).length)/\(0=(x:Int)/\((0:Nat)=0/\(ttL (alC ct nm g) x_2).length=(ttL (alC ct
nm g) x_2++tkR (alC ct nm g) x_2 x).length/\True)/\True)/\ttL (alC ct nm g) x_2=ttL (alC ct nm g) x_2++tkR (alC ct nm g) x_2 x/\True)/\(∀(x_3:Nat),x_3<=ct.len/\ttL (alC ct nm g) x_2++tkR (alC ct nm g)
x_2 x_3= []->ct.len-x_3<LIM/\((x_3:Int)<(ct.len:Int)->0<=(x_3:Int)/\(x_3:Int)<(ct.len:Int)/\x_3<(alL ct nm g x++List.drop x (List.replicate ct.len D.nil)).length/\(zuE x_2 ct nm g x x_3)/\
((zjz x_2 ct nm g x x_3)->(zkD x_3)/\((∃(y:Nat),(y<=ct.len/\ttL (alC ct nm g) x_2++tkR (alC ct nm g) x_2 y= [])/\ct.len-y<ct.len-x_3/\((x_3:Int)+1=(y:Int)/\True/\True)/\True)\/∃(y:
Nat),(zkE y ct nm g x_2)/\ct.len-y<ct.len-x_3/\((x_3:Int)+1=(y:Int)/\False/\True)/\ttL (alC ct nm g) x_2=ttL (alC ct nm g) x_2++tkR (alC ct nm g) x_2 y/\True)))/\(((x_3:Int)<(ct.len:Int)
->False)->(zpe x_2)/\((∃(y:Nat),(y<=lgN (alC ct nm g) ct.len/\ttL (alC ct nm g) y= [])/\lgN (alC ct nm g) ct.len-y<lgN (alC ct nm g) ct.len-x_2/\((x_2:Int)+1=(y:Int)/\True/\True)/\True)\/∃
(y:Nat),(y<=lgN (alC ct nm g) ct.len/\0<(ttL (alC ct nm g) y).length)/\lgN (alC ct nm g) ct.len-y<lgN (alC ct nm g) ct.len-x_2/\((x_2:Int)+1=(y:Int)/\False/\True)/\ttL (alC ct nm g) x_2=ttL
(alC ct nm g) y/\True)))/\∀(x_3:Nat),x_3<=ct.len/\0<(ttL (alC ct nm g) x_2++tkR (alC ct nm g) x_2 x_3).length->ct.len-x_3<LIM/\((x_3:Int)<(ct.len:Int)->0<=(x_3:Int)/\(x_3:Int)<(ct.len:
Int)/\x_3<(alL ct nm g x++List.drop x (List.replicate ct.len D.nil)).length/\((x_2:Int)<(↑(zad (alL ct nm g x++List.drop x (List.replicate ct.len D.nil)) x_3).len:Int)->0<=(x_2:Int)/\(x_2:Int)<
(↑(zad (alL ct nm g x++List.drop x (List.replicate ct.len D.nil)) x_3).len:Int)/\0+1<= [D.int (el (zad (alL ct nm g x++List.drop x (List.replicate ct.len D.nil)) x_3) x_2).asInt].length/\0+(ttL (alC ct nm
g) x_2++tkR (alC ct nm g) x_2 x_3).length<=(ttL (alC ct nm g) x_2++tkR (alC ct nm g) x_2 x_3).length/\(ttL (alC ct nm g) x_2++tkR (alC ct nm g) x_2 x_3).length+1<=8796093022208/\(zkD x_3)/\((∃(y:Nat),
(y<=ct.len/\ttL (alC ct nm g) x_2++tkR (alC ct nm g) x_2 y= [])/\ct.len-y<ct.len-x_3/\False)\/∃(y:Nat),(zkE y ct nm g x_2)/\ct.len-y<ct.len-x_3/\((x_3:Int)+1=(y:Int)/\((0:Nat)=0/\
(ttL (alC ct nm g) x_2++tkR (alC ct nm g) x_2 x_3).length+1=(ttL (alC ct nm g) x_2++tkR (alC ct nm g) x_2 y).length/\True)/\True)/\List.take (ttL (alC ct nm g) x_2++tkR (alC ct nm g) x_2 x_3).length (ttL
(alC ct nm g) x_2++tkR (alC ct nm g) x_2 x_3)++List.take 1 [D.int (el (zad (alL ct nm g x++List.drop x (List.replicate ct.len D.nil)) x_3) x_2).asInt]=ttL (alC ct nm g) x_2++tkR (alC ct nm g) x_2 y/\True))/\
((zjz x_2 ct nm g x x_3)->(zkD x_3)/\((∃(y:Nat),(y<=ct.len/\ttL (alC ct nm g) x_2++tkR (alC ct nm g) x_2 y= [])/\ct.len-y<ct.len-x_3/\False)\/∃(y:Nat),(zkE y ct nm g x_2)/\ct.len-y<
ct.len-x_3/\((x_3:Int)+1=(y:Int)/\((0:Nat)=0/\(ttL (alC ct nm g) x_2++tkR (alC ct nm g) x_2 x_3).length=(ttL (alC ct nm g) x_2++tkR (alC ct nm g) x_2 y).length/\True)/\True)/\ttL (alC ct nm g)
x_2++tkR (alC ct nm g) x_2 x_3=ttL (alC ct nm g) x_2++tkR (alC ct nm g) x_2 y/\True)))/\(zwn x_3 ct x_2 nm g))/\(((x_2:Int)<(↑(lgN (alC ct nm g) x_1):Int)->False)->((∃(x:Nat),(x<=g.len/\zb4 ct
nm g x= [])/\(0=(x:Int)/\False/\True)/\True)\/∃(x:Nat),(x<=g.len/\0<(zb4 ct nm g x).length)/\(0=(x:Int)/\((0:Nat)=0/\(ttL (alC ct nm g) x_2).length=(zb4 ct nm g x).length/\True)/\True)
/\ttL (alC ct nm g) x_2=zb4 ct nm g x/\True)/\(zuC g ct nm)/\∀(x:Nat),x<=g.len/\0<(zb4 ct nm g x).length->g.len-x<LIM/\(zuB x g nm ct)/\(zpf x g ct nm)))))))/\(16<(ct.len:Int)->D.nil=
(alD ct nm g).fst/\7=(alD ct nm g).snd/\True)):=by intros;kernel_rfl
theorem zs9 {f:Nat->Int}:∀(m i x:Nat),i<=x->x<i+m->(∀k,i<=k->k<x->f k=0)->f x≠0->zgu f m i=f x
 |0,i,x,h1,h2,_,_=>by omega
 |m+1,i,x,h1,h2,h3,h4=>by
  unfold zgu
  by_cases e:i=x
  .subst e;rw [if_pos h4]
  .rw [if_neg (λk=>k (h3 i (Nat.le_refl _) (by omega)))]
   exact zs9 m (i+1) x (by omega) (by omega) (λk a b=>h3 k (by omega) b) h4
theorem zwe {f:Nat->Int}:∀(m i:Nat),(∀k,i<=k->k<i+m->f k=0)->zgu f m i=0
 |0,_,_=>rfl
 |m+1,i,h=>by
  unfold zgu
  rw [if_neg (λk=>k (h i (Nat.le_refl _) (by omega)))]
  exact zwe m (i+1) λk a b=>h k (by omega) (by omega)
theorem zi5 {ct nm g:D} {x:Nat} {v:Int} (h1:ct.len<=16) (h2:g.len<=64) (h3:ct.len=nm.len) (hx:x<ct.len) (hk:zsm ct nm g x) (e:alK ct nm g x=v) (hv:v≠0):D.nil=(alD ct nm g).1/\v=(alD ct nm g).2/\True:=by
 have q:=zs9 (f:=alK ct nm g) ct.len 0 x (Nat.zero_le _) (by omega) (λk _ h=>hk.out k h) (by rw [e];exact hv)
 unfold alD
 rw [if_neg (by omega),if_neg (λk=>k h3),if_pos (by rw [q,e];exact hv),q,e];exact ⟨rfl,rfl,trivial⟩
theorem ztX {ct nm g:D} (h1:ct.len<=16) (h2:g.len<=64) (h3:ct.len=nm.len) (hk:zsm ct nm g ct.len):alD ct nm g=(zbC (zb4 ct nm g g.len),0):=by
 have q:=zwe (f:=alK ct nm g) ct.len 0 (λk _ h=>hk.out k (by omega))
 unfold alD
 rw [if_neg (by omega),if_neg (λk=>k h3),if_neg (λk=>k q)]
theorem zdk (ct nm g:D) (n:Nat):(alL ct nm g n).length=n:=by unfold alL;rw [List.length_map,List.length_range]
theorem zrk (ct nm g:D) (n:Nat):alL ct nm g (n+1)=alL ct nm g n++ [alR ct nm g n]:=by unfold alL;rw [List.range_succ,List.map_append];rfl
theorem zhM (ct nm g:D):(alC ct nm g).len=ct.len:=zdk ct nm g ct.len
theorem zsZ {ct nm g:D} {k:Nat} (h:k<ct.len):el (alC ct nm g) k=alR ct nm g k:=by
 show zad (alL ct nm g ct.len) k=_
 unfold alL zad;rw [List.getElem?_map,List.getElem?_range h];rfl
theorem zkT {s:List UInt8} {g:D} {n x:Nat} (h:x∈ofC s g n):x<n:=List.mem_range.1 (List.mem_filter.1 h).1
theorem zpV (s:List UInt8) (g:D) (n:Nat):(ofC s g n).Pairwise (· < ·):=List.pairwise_lt_range.sublist List.filter_sublist
theorem zky (G:List (List Nat)):∀n,n<=G.length->zao (zbC (G.map iD)) n=iL (G.take n).flatten
 |0,_=>rfl
 |n+1,h=>by
  have e:el (zbC (G.map iD)) n=iD G[n]:=by rw [zwu (by rw [List.length_map];omega),List.getElem_map]
  have e2:(iD G[n]).asList=iL G[n]:=by unfold iD;rw [zdL]
  rw [zeI,zky G n (by omega),e,e2,List.take_succ_eq_append_getElem (by omega:n<G.length),List.flatten_append,zjB]
  simp
theorem zwB {c g:D} (hv:(zbm c).2=0) {xs:List Nat} (hlt:∀x,x∈xs->x<64) (hinc:xs.Pairwise (· < ·)):(lnD c (.list (xs.map (plG g)))).1.len<=xs.length:=by
 obtain ⟨G,e,hG⟩:=ztf (g:=g) hv hlt hinc
 unfold lnD
 split
 .exact Nat.zero_le _
 .show (zff _).len<=_
  unfold zff
  rw [e,zfG,zfG,List.length_map,zky G _ (Nat.le_refl _),List.take_length,zwp,hG.perm.length_eq];exact Nat.le_refl _
theorem zxL {ct nm g:D} (h1:ct.len<=16) (h2:g.len<=64) (hv:∀k,k<ct.len->(zbm (el ct k)).2=0):zdx (alC ct nm g):=⟨by rw [zhM];omega,λi hi=>by
 rw [zhM] at hi
 rw [zsZ hi]
 have a:=zwB (g:=g) (hv i hi) (xs:=ofC (sAt nm i) g g.len) (λx hx=>by have:=zkT hx;omega) (zpV _ _ _)
 have b:=zem (sAt nm i) g g.len
 exact Nat.le_trans a (by omega)⟩
theorem zvZ {ct nm g:D} {k:Nat} (h:alK ct nm g k=0):(zbm (el ct k)).2=0:=by
 unfold alK at h
 split at h
 .omega
 .split at h
  .omega
  .split at h
   .exact h
   .exact Classical.byContradiction (by assumption)
open Classical in
theorem zzA {nm g:D} {x:Nat} (h:¬zbG nm (gAt (el g x)).ct):rsN nm g (x+1)=rsN nm g x++ [.int (x:Nat)]:=by show (if _ then _ else _)=_;rw [if_neg h]
open Classical in
theorem zzz {nm g:D} {x:Nat} (h:zbG nm (gAt (el g x)).ct):rsN nm g (x+1)=rsN nm g x:=by show (if _ then _ else _)=_;rw [if_pos h]
open Classical in
theorem ztz (nm g:D):∀x,(rsN nm g x).length<=x
 |0=>Nat.le_refl _
 |x+1=>by
  have:=ztz nm g x
  show (if _ then _ else _:List D).length<=_
  split
  .omega
  .rw [List.length_append,List.length_singleton];omega
theorem zvP {ct nm g:D} {x:Nat} (h:¬zbG nm (gAt (el g x)).ct):zb4 ct nm g (x+1)=zb4 ct nm g x++ [.int (x:Nat)]:=by unfold zb4;rw [zzA h,List.append_assoc]
theorem zxw {ct nm g:D} {x:Nat} (h:zbG nm (gAt (el g x)).ct):zb4 ct nm g (x+1)=zb4 ct nm g x:=by unfold zb4;rw [zzz h]
theorem zxv (ct nm g:D):zb4 ct nm g 0=ttL (alC ct nm g) (lgN (alC ct nm g) ct.len):=by unfold zb4;rw [show rsN nm g 0= [] from rfl,List.append_nil]
structure zwN (ct nm g:D):Prop where
 out:ct.len<=16/\g.len<=20/\tgG g/\ct.len=nm.len/\ztD ct
theorem gb3 {ct nm g:D} {x:Nat} (hp:zwN ct nm g) (hx:x<ct.len) (hk:zsm ct nm g x) (hn:¬(sAt nm x≠ []/\¬zaY (sAt nm x))):zuD nm x ct g:=by
 obtain ⟨h1,h2,ht,h3,hs⟩:=hp.out
 have T:True:=trivial
 intro hh
 have e0:∀v,(if (zbm (el ct x)).2≠0 then (zbm (el ct x)).2 else (lnD (el ct x) (.list (ofL (sAt nm x) g g.len))).2)=v->alK ct nm g x=v:=λv hv=>by unfold alK;rw [if_neg hn,if_neg hh];exact hv
 refine ⟨λhb=>zi5 h1 (by omega) h3 hx hk (e0 _ (if_pos hb)) hb,λhb=> ?_⟩
 have hb:=Classical.byContradiction hb
 refine ⟨by omega,by omega,by omega,⟨⟨hs.out.2 x hx,hb⟩,by rw [zcI];have:=zem (sAt nm x) g g.len;omega,zw8 ht λy hy=>zkT hy⟩,λhl=>zi5 h1 (by omega) h3 hx hk (e0 _ (if_neg (λk=>k hb))) hl,λhl=>⟨by omega,by omega,by rw [List.length_append,zdk,List.length_drop,List.length_replicate];omega,⟨by omega,by omega⟩,x+1,⟨by omega,⟨λk hkk=> ?_⟩⟩,by omega,⟨by omega,T⟩, ?_,T⟩⟩
 .rcases Nat.lt_or_ge k x with w|w
  .exact hk.out k w
  .have:k=x:=by omega
   subst this
   exact (e0 _ (if_neg (λq=>q hb))).trans (Classical.byContradiction hl)
 .rw [zio (B:= []) (zdk ct nm g x) (by omega),zrk];rfl
theorem zwm {ct nm g:D} {x:Nat} (hp:zwN ct nm g) (hb:(zb4 ct nm g x).length<=30000) (hx:x<=g.len/\0<(zb4 ct nm g x).length):zuB x g nm ct:=by
 obtain ⟨h1,h2,ht,h3,hs⟩:=hp.out
 have T:True:=trivial
 intro hlt
 refine ⟨by omega,hlt,by omega,λk=> ?_,λk=> ?_⟩
 .have k:¬zbG nm (gAt (el g x)).ct:=k
  exact ⟨Nat.le_refl _,by omega,by omega,⟨by omega,by omega⟩,.inr ⟨x+1,⟨by omega,by rw [zvP k,List.length_append];exact Nat.succ_pos _⟩,by omega,⟨by omega,⟨rfl,by rw [zvP k];simp only [List.length_append,List.length_singleton],T⟩,T⟩,by rw [zvP k,List.take_of_length_le (Nat.le_refl _)];rfl,T⟩⟩
 .have k:zbG nm (gAt (el g x)).ct:=Classical.byContradiction k
  exact ⟨⟨by omega,by omega⟩,.inr ⟨x+1,⟨by omega,by rw [zxw k];exact hx.2⟩,by omega,⟨by omega,⟨rfl,by rw [zxw k],T⟩,T⟩,by rw [zxw k],T⟩⟩
theorem zyj {ct nm g:D} (hp:zwN ct nm g) (hk:zsm ct nm g ct.len):zuC g ct nm:=by
 obtain ⟨h1,h2,ht,h3,hs⟩:=hp.out
 have T:True:=trivial
 refine λx hx=>⟨zfU (by omega),λhlt=>⟨by omega,hlt,by omega,λk=> ?_,λk=> ?_⟩,λhge=> ?_⟩
 .have k:¬zbG nm (gAt (el g x)).ct:=k
  exact ⟨Nat.le_refl _,by omega,⟨by omega,by omega⟩,.inr ⟨x+1,⟨by omega,by rw [zvP k,List.length_append];exact Nat.succ_pos _⟩,by omega,⟨by omega,⟨rfl,by rw [zvP k,hx.2];rfl,T⟩,T⟩,by rw [zvP k,hx.2];rfl,T⟩⟩
 .have k:zbG nm (gAt (el g x)).ct:=Classical.byContradiction k
  exact ⟨⟨by omega,by omega⟩,.inl ⟨x+1,⟨by omega,by rw [zxw k];exact hx.2⟩,by omega,⟨by omega,T,T⟩,T⟩⟩
 .have e:=zcc hx.1 hge
  subst e
  rw [ztX h1 (by omega) h3 hk,hx.2];exact ⟨rfl,rfl,T⟩
theorem ztc {ct nm g:D} {x:Nat} (hp:zwN ct nm g) (hk:zsm ct nm g ct.len) (hx:x<=g.len/\0<(zb4 ct nm g x).length):zpf x g ct nm:=by
 obtain ⟨h1,h2,ht,h3,hs⟩:=hp.out
 intro hge
 have e:=zcc hx.1 hge
 subst e
 rw [ztX h1 (by omega) h3 hk]
 exact ⟨⟨by omega,by rw [List.take_of_length_le (Nat.le_refl _)];exact zej hx.2⟩,rfl,trivial⟩
theorem s43 (ct nm g:D) (h:zu8 ct nm g):zag (zxn tv0 ct nm g) 4 43 [.dat 28 ct,.dat 29 nm,.dat 23 g] (.tup [.dat 34 (alD ct nm g).1,.int .i64 (alD ct nm g).2]):=by
 have hb24:(zkk (λ_=>none) D.nil D.nil).P.types[(34:Nat)].bytes=24:=by kernel_rfl
 rw [zA8,hb24];unfold zuE zjz
 have T:True:=trivial
 obtain ⟨hs,hn,hg,hsm⟩:=h.out
 have hs0:=hs.out.1
 refine ⟨λh1=>⟨λh64=> ?_,λh64=>⟨λhne=> ?_,λheq=> ?_⟩⟩,λh1=> ?_⟩
 .unfold alD;rw [if_pos (.inr (by omega))];exact ⟨rfl,rfl,T⟩
 .have h1:¬(16:Int)<ct.len:=h1
  have h64:¬(64:Int)<g.len:=h64
  unfold alD;rw [if_neg (by omega),if_pos (λe=>hne (by rw [e]))];exact ⟨rfl,rfl,T⟩
 .have h1:¬(16:Int)<ct.len:=h1
  have h64:¬(64:Int)<g.len:=h64
  have p:ct.len=nm.len:=by have:=Classical.byContradiction heq;omega
  have h20:=hsm (by omega)
  have hp:zwN ct nm g:=⟨by omega,h20.1,h20.2,p,hs⟩
  refine ⟨by omega,by omega,by omega,by omega,⟨0,⟨Nat.zero_le _,⟨λk hk=>absurd hk (Nat.not_lt_zero k)⟩⟩,⟨rfl,T⟩,rfl,T⟩,λx hx=>⟨zfU (by omega),λhlt=>⟨by omega,hlt,hs.out.2 x (by omega),by omega,by omega,λhne=>⟨by omega,by omega,T,λhna=> ?_,λhna=>⟨by omega,by omega,by omega,by omega,by omega,by rw [zbZ _ _ (by omega)];omega,λhh=> ?_,gb3 hp (by omega) hx.2 λq=>hna q.2⟩⟩,λhem=>⟨by omega,by omega,by omega,by omega,by omega,by rw [zbZ _ _ (by omega)];omega,λhh=> ?_,gb3 hp (by omega) hx.2 λq=>hem q.1⟩⟩,λhge=> ?_⟩⟩
  .exact zi5 (by omega) (by omega) p (by omega) hx.2 (by unfold alK;rw [if_pos ⟨hne,hna⟩]) (by omega)
  .exact zi5 (by omega) (by omega) p (by omega) hx.2 (by unfold alK;rw [if_neg (λq=>hna q.2),if_pos hh]) (by omega)
  .exact zi5 (by omega) (by omega) p (by omega) hx.2 (by unfold alK;rw [if_neg (λq=>hem q.1),if_pos hh]) (by omega)
  have e:=zcc hx.1 hge
  subst e
  have hk:=hx.2
  have er:alL ct nm g ct.len++List.drop ct.len (List.replicate ct.len D.nil)=alL ct nm g ct.len:=by rw [List.drop_of_length_le (by rw [List.length_replicate];exact Nat.le_refl _),List.append_nil]
  rw [er]
  have hC:=zhM ct nm g
  have shs:=zxL (ct:=ct) (nm:=nm) (g:=g) (by omega) (by omega) λk q=>zvZ (hk.out k q)
  have hl:=zwA shs ct.len (by omega)
  refine ⟨⟨0,Nat.zero_le _,⟨rfl,rfl,T⟩,T⟩,λa ha=> ?_⟩
  have ha:a<=ct.len:=ha
  refine ⟨zfU (by omega),λhlt=>⟨by omega,hlt,by rw [zdk];omega,⟨by omega,by omega⟩,a+1,(by show a+1<=ct.len;omega),by omega,⟨by omega,(by show max ((lgN (alC ct nm g) a:Nat):Int) ((el (alC ct nm g) a).len:Nat)=((max (lgN (alC ct nm g) a) (el (alC ct nm g) a).len:Nat):Int);omega),T⟩,T⟩,λhge=> ?_⟩
  have e:=zcc ha hge
  subst e
  have bnd:∀r k,r<=100->k<=ct.len->(ttL (alC ct nm g) r++tkR (alC ct nm g) r k).length<=20000:=λr k hr hk=>by
   have a:=zq2 shs r
   have b:=zq0 (alC ct nm g) r k
   rw [List.length_append];omega
  have bou:∀x,x<=g.len->(zb4 ct nm g x).length<=30000:=λx hx=>by
   have a:=zq2 shs (lgN (alC ct nm g) ct.len)
   have b:=ztz nm g x
   unfold zb4;rw [List.length_append];omega
  have ky:∀{r k:Nat},(r:Int)<(zad (alL ct nm g ct.len) k).len->ttL (alC ct nm g) r++tkR (alC ct nm g) r (k+1)=(ttL (alC ct nm g) r++tkR (alC ct nm g) r k)++ [.int (el (zad (alL ct nm g ct.len) k) r).asInt]:=λh=>zAA (ll:=alC ct nm g) h
  have kn:∀{r k:Nat},((r:Int)<(zad (alL ct nm g ct.len) k).len->False)->ttL (alC ct nm g) r++tkR (alC ct nm g) r (k+1)=ttL (alC ct nm g) r++tkR (alC ct nm g) r k:=λh=>zAz (ll:=alC ct nm g) h
  have kr:∀{r:Nat},ttL (alC ct nm g) (r+1)=ttL (alC ct nm g) r++tkR (alC ct nm g) r ct.len:=λ{r}=>by show ttL _ r++tkR _ r (alC ct nm g).len=_;rw [hC]
  have k0:∀r,tkR (alC ct nm g) r 0= []:=λ_=>rfl
  have G2:=zyj hp hk
  refine ⟨.inl ⟨0,⟨Nat.zero_le _,rfl⟩,⟨rfl,T,T⟩,T⟩,λr hr=>⟨zfU (by omega),λhlt=>⟨.inl ⟨0,⟨Nat.zero_le _,by rw [hr.2];rfl⟩,⟨rfl,T,T⟩,T⟩,λx hx=> ?_,λx hx=> ?_⟩,λhge=> ?_⟩,λr hr=>⟨zfU (by omega),λhlt=>⟨.inr ⟨0,⟨Nat.zero_le _,by rw [k0,List.append_nil];exact hr.2⟩,⟨rfl,⟨rfl,by rw [k0,List.append_nil],T⟩,T⟩,by rw [k0,List.append_nil],T⟩,λx hx=> ?_,λx hx=> ?_⟩,λhge=> ?_⟩⟩
  .refine ⟨zfU (by omega),λhlt=>⟨by omega,hlt,by rw [zdk];omega,λk=>⟨by omega,k,Nat.le_refl _,by omega,⟨by omega,by omega⟩,.inr ⟨x+1,⟨by omega,by rw [ky k,List.length_append];exact Nat.succ_pos _⟩,by omega,⟨by omega,⟨rfl,by rw [ky k,hx.2];rfl,T⟩,T⟩,by rw [ky k,hx.2];rfl,T⟩⟩,λk=>⟨⟨by omega,by omega⟩,.inl ⟨x+1,⟨by omega,by rw [kn k];exact hx.2⟩,by omega,⟨by omega,T,T⟩,T⟩⟩⟩,λhge=> ?_⟩
   have e:=zcc hx.1 hge
   subst e
   exact ⟨⟨by omega,by omega⟩,.inl ⟨r+1,⟨by omega,kr.trans hx.2⟩,by omega,⟨by omega,T,T⟩,T⟩⟩
  .have hb:=bnd r x (by omega) hx.1
   refine ⟨zfU (by omega),λhlt=>⟨by omega,hlt,by rw [zdk];omega,λk=>⟨by omega,k,Nat.le_refl _,by omega,by omega,⟨by omega,by omega⟩,.inr ⟨x+1,⟨by omega,by rw [ky k,List.length_append];exact Nat.succ_pos _⟩,by omega,⟨by omega,⟨rfl,by rw [ky k];simp only [List.length_append,List.length_singleton],T⟩,T⟩,by rw [ky k,List.take_of_length_le (Nat.le_refl _)];rfl,T⟩⟩,λk=>⟨⟨by omega,by omega⟩,.inr ⟨x+1,⟨by omega,by rw [kn k];exact hx.2⟩,by omega,⟨by omega,⟨rfl,by rw [kn k],T⟩,T⟩,by rw [kn k],T⟩⟩⟩,λhge=> ?_⟩
   have e:=zcc hx.1 hge
   subst e
   exact ⟨⟨by omega,by omega⟩,.inr ⟨r+1,⟨by omega,by rw [kr];exact hx.2⟩,by omega,⟨by omega,⟨rfl,by rw [kr],T⟩,T⟩,by rw [kr],T⟩⟩
  .have e:r=lgN (alC ct nm g) ct.len:=by have hge:¬(r:Int)<lgN (alC ct nm g) ct.len:=hge;omega
   exact ⟨.inl ⟨0,⟨Nat.zero_le _,by rw [zxv,<-e,hr.2]⟩,⟨rfl,T,T⟩,T⟩,G2,λx hx=>⟨zfU (by omega),zwm hp (bou x hx.1) hx,ztc hp hk hx⟩⟩
  .refine ⟨zfU (by omega),λhlt=>⟨by omega,hlt,by rw [zdk];omega,λk=>⟨by omega,k,Nat.le_refl _,by omega,⟨by omega,by omega⟩,.inr ⟨x+1,⟨by omega,by rw [ky k,List.length_append];exact Nat.succ_pos _⟩,by omega,⟨by omega,⟨rfl,by rw [ky k,hx.2];rfl,T⟩,T⟩,by rw [ky k,hx.2];rfl,T⟩⟩,λk=>⟨⟨by omega,by omega⟩,.inl ⟨x+1,⟨by omega,by rw [kn k];exact hx.2⟩,by omega,⟨by omega,T,T⟩,T⟩⟩⟩,λhge=> ?_⟩
   have e:=zcc hx.1 hge
   subst e
   exact ⟨⟨by omega,by omega⟩,.inl ⟨r+1,⟨by omega,kr.trans hx.2⟩,by omega,⟨by omega,T,T⟩,T⟩⟩
  .have hb:=bnd r x (by omega) hx.1
   refine ⟨zfU (by omega),λhlt=>⟨by omega,hlt,by rw [zdk];omega,λk=>⟨by omega,k,Nat.le_refl _,by omega,by omega,⟨by omega,by omega⟩,.inr ⟨x+1,⟨by omega,by rw [ky k,List.length_append];exact Nat.succ_pos _⟩,by omega,⟨by omega,⟨rfl,by rw [ky k];simp only [List.length_append,List.length_singleton],T⟩,T⟩,by rw [ky k,List.take_of_length_le (Nat.le_refl _)];rfl,T⟩⟩,λk=>⟨⟨by omega,by omega⟩,.inr ⟨x+1,⟨by omega,by rw [kn k];exact hx.2⟩,by omega,⟨by omega,⟨rfl,by rw [kn k],T⟩,T⟩,by rw [kn k],T⟩⟩⟩,λhge=> ?_⟩
   have e:=zcc hx.1 hge
   subst e
   exact ⟨⟨by omega,by omega⟩,.inr ⟨r+1,⟨by omega,by rw [kr];exact hx.2⟩,by omega,⟨by omega,⟨rfl,by rw [kr],T⟩,T⟩,by rw [kr],T⟩⟩
  .have e:r=lgN (alC ct nm g) ct.len:=by have hge:¬(r:Int)<lgN (alC ct nm g) ct.len:=hge;omega
   exact ⟨.inr ⟨0,⟨Nat.zero_le _,by rw [zxv,<-e];exact hr.2⟩,⟨rfl,⟨rfl,by rw [zxv,<-e],T⟩,T⟩,by rw [zxv,<-e],T⟩,G2,λx hx=>⟨zfU (by omega),zwm hp (bou x hx.1) hx,ztc hp hk hx⟩⟩
 .unfold alD;rw [if_pos (.inl (by omega))];exact ⟨rfl,rfl,T⟩
end Go.Ev

end

section
open Go.Proofs
namespace Go.Ev
set_option maxRecDepth 100000
theorem zmw {c:D}:∀(f i:Nat),(∀k,i<=k->k<i+f->zhT c k=0)->zbM c f i=(0,0)
 |0,_,_=>rfl
 |f+1,i,h=>by
  unfold zbM
  rw [if_neg (λk=>k (h i (Nat.le_refl _) (by omega)))]
  exact zmw f (i+1) λk h1 h2=>h k (by omega) (by omega)
theorem zt2 {c:D} (hl:c.len<=32) (h:∀i,i<c.len->zhT c i=0):(zbm c).2=0:=by
 unfold zbm
 rw [if_neg (by omega),zmw _ _ λk _ h2=>h k (by omega)]
theorem zlT {c:D} {i:Nat} {k:Int} {a:List UInt8} {la:Prop} {nm:D} {n:Int}:
  zcH c i k a la nm n=0↔zbq k a la nm.len n/\¬zfP nm/\¬(a≠ []/\¬zaY a)/\¬zbi nm/\¬(a≠ []/\¬zaP c i a):=by
 unfold zcH
 by_cases h1:zbq k a la nm.len n
 .rw [if_neg (λq=>q h1)]
  by_cases h2:zfP nm\/(a≠ []/\¬zaY a)
  .rw [if_pos h2];exact ⟨λq=>by omega,λq=>(h2.elim (λw=>q.2.1 w) (λw=>q.2.2.1 w)).elim⟩
  .rw [if_neg h2]
   by_cases h3:zbi nm
   .rw [if_pos h3];exact ⟨λq=>by omega,λq=>(q.2.2.2.1 h3).elim⟩
   .rw [if_neg h3]
    by_cases h4:a≠ []/\¬zaP c i a
    .rw [if_pos h4];exact ⟨λq=>by omega,λq=>(q.2.2.2.2 h4).elim⟩
    .rw [if_neg h4];exact ⟨λ_=>⟨h1,λw=>h2 (.inl w),λw=>h2 (.inr w),h3,h4⟩,λ_=>rfl⟩
 .rw [if_pos h1];exact ⟨λq=>by omega,λq=>(h1 q.1).elim⟩
theorem zeL (l:List D):(zbC l).asList=l:=by cases l<;>rfl
end Go.Ev

end

section
open Go.Proofs
namespace Go.Ev
set_option maxRecDepth 100000
set_option maxHeartbeats 4000000
theorem zBa:∀(pa pb:Int) (nm:List UInt8),zag (zrg (λ_=>none) zil) 3 (90:FuncId) [V.agg [V.int IntKind.u8 pa,V.int IntKind.u8 pb],V.str nm] (gV (pG pa pb nm))=(((3:Int)=0->False)/\0<=pa/\
(0:Int)<=64/\(0<=pa/\pa<256)/\((0:Int)<=64/\(64:Int)<256)/\((4:Int)=0->False)/\fits64 (10*IntKind.i64.wrap (pb.tmod 4))/\0<=pb/\(0:Int)<=128/\(0<=pb/\pb<256)/\((0:Int)<=128/\(128
:Int)<256)/\(0<=pa/\(0:Int)<=4/\(0<=pa/\pa<256)/\((0:Int)<=4/\(4:Int)<256)/\((zae pa 4=0->False)->(0:Int)<=3/\0<=zbI IntKind.u8 pa 3/\(0:Int)<=3/\(0<=zbI IntKind.u8 pa 3/\zbI
IntKind.u8 pa 3<256)/\((0:Int)<=3/\(3:Int)<256)/\0<=zae (zbI IntKind.u8 pa 3) 3/\zae (zbI IntKind.u8 pa 3) 3<=(zaS.length:Int)/\(zaS.length:Int)<=(zaS.length:Int)/\(0:Int)<=0/\(0:
Int)<=1/\1<=(↑(List.take (zaS.length-(zae (zbI IntKind.u8 pa 3) 3).toNat) (List.drop (zae (zbI IntKind.u8 pa 3) 3).toNat zaS)).length:Int)/\∃(x:Unit),True/\True/\(nm=nm/\zes (zae (zbI
IntKind.u8 pa 3) 3)=pRk pa/\([]:List UInt8)= []/\10*IntKind.i64.wrap (pb.tmod 4)=10*IntKind.i64.wrap (pb.tmod 4)/\IntKind.i64.wrap (pa.tmod 3)=IntKind.i64.wrap (pa.tmod 3)/\([]:List UInt8)= []/\
(zae pa 64=0->False↔zae pa 64=0->False)/\(zae pb 128=0->False↔zae pb 128=0->False)/\True/\True)/\True)/\(((zae pa 4=0->False)->False)->∃(x:Unit),True/\True/\(nm=nm/\ []=pRk
pa/\([]:List UInt8)= []/\10*IntKind.i64.wrap (pb.tmod 4)=10*IntKind.i64.wrap (pb.tmod 4)/\IntKind.i64.wrap (pa.tmod 3)=IntKind.i64.wrap (pa.tmod 3)/\([]:List UInt8)= []/\(zae pa 64=0->False↔
zae pa 64=0->False)/\(zae pb 128=0->False↔zae pb 128=0->False)/\True/\True)/\True))/\∀(x:Unit),True->(0<=pb/\(0:Int)<=4/\(0<=pb/\pb<256)/\((0:Int)<=4/\(4:Int)<256)/\((zae
pb 4=0->False)->(0:Int)<=3/\0<=zbI IntKind.u8 pb 3/\(0:Int)<=3/\(0<=zbI IntKind.u8 pb 3/\zbI IntKind.u8 pb 3<256)/\((0:Int)<=3/\(3:Int)<256)/\0<=zae (zbI IntKind.u8 pb 3) 3/\zae
(zbI IntKind.u8 pb 3) 3<=(zaS.length:Int)/\(zaS.length:Int)<=(zaS.length:Int)/\(0:Int)<=0/\(0:Int)<=1/\1<=(↑(List.take (zaS.length-(zae (zbI IntKind.u8 pb 3) 3).toNat) (List.drop (zae (zbI
IntKind.u8 pb 3) 3).toNat zaS)).length:Int)/\∃(x:Unit),True/\True/\(nm=nm/\pRk pa=pRk pa/\zes (zae (zbI IntKind.u8 pb 3) 3)=pCt pb/\10*IntKind.i64.wrap (pb.tmod 4)=10*IntKind.i64.wrap
(pb.tmod 4)/\IntKind.i64.wrap (pa.tmod 3)=IntKind.i64.wrap (pa.tmod 3)/\([]:List UInt8)= []/\(zae pa 64=0->False↔zae pa 64=0->False)/\(zae pb 128=0->False↔zae pb 128=0->False)/\True/\
True)/\True)/\(((zae pb 4=0->False)->False)->∃(x:Unit),True/\True/\(nm=nm/\pRk pa=pRk pa/\ []=pCt pb/\10*IntKind.i64.wrap (pb.tmod 4)=10*IntKind.i64.wrap (pb.tmod 4)/\IntKind.i64.wrap
(pa.tmod 3)=IntKind.i64.wrap (pa.tmod 3)/\([]:List UInt8)= []/\(zae pa 64=0->False↔zae pa 64=0->False)/\(zae pb 128=0->False↔zae pb 128=0->False)/\True/\True)/\True))/\∀(x:Unit),
True->(0<=pb/\(0:Int)<=64/\(0<=pb/\pb<256)/\((0:Int)<=64/\(64:Int)<256)/\((zae pb 64=0->False)->(0:Int)<=4/\0<=zbI IntKind.u8 pa 4/\(0:Int)<=3/\(0<=zbI IntKind.u8 pa 4/\zbI
IntKind.u8 pa 4<256)/\((0:Int)<=3/\(3:Int)<256)/\0<=zae (zbI IntKind.u8 pa 4) 3/\zae (zbI IntKind.u8 pa 4) 3<=(zaS.length:Int)/\(zaS.length:Int)<=(zaS.length:Int)/\(0:Int)<=0/\(0:
Int)<=1/\1<=(↑(List.take (zaS.length-(zae (zbI IntKind.u8 pa 4) 3).toNat) (List.drop (zae (zbI IntKind.u8 pa 4) 3).toNat zaS)).length:Int)/\0+1<= [D.str (zes (zae (zbI IntKind.u8 pa 4) 3))].length/\
((∃(x:Unit),zae pb 64=0/\True/\(nm=nm/\pRk pa=pRk pa/\pCt pb=pCt pb/\10*IntKind.i64.wrap (pb.tmod 4)=10*IntKind.i64.wrap (pb.tmod 4)/\IntKind.i64.wrap (pa.tmod 3)=IntKind.i64.wrap (pa.tmod 3)
/\([]:List UInt8)= []/\(zae pa 64=0->False↔zae pa 64=0->False)/\(zae pb 128=0->False↔zae pb 128=0->False)/\False/\True)/\True)\/∃(x:Unit),(zae pb 64=0->False)/\True/\(nm=nm/\
pRk pa=pRk pa/\pCt pb=pCt pb/\10*IntKind.i64.wrap (pb.tmod 4)=10*IntKind.i64.wrap (pb.tmod 4)/\IntKind.i64.wrap (pa.tmod 3)=IntKind.i64.wrap (pa.tmod 3)/\([]:List UInt8)= []/\(zae pa 64=0->False
↔zae pa 64=0->False)/\(zae pb 128=0->False↔zae pb 128=0->False)/\D.list (List.take 1 [D.str (zes (zae (zbI IntKind.u8 pa 4) 3))])=D.list [D.str (zes (znN pa 4))]/\True)/\True))/\(((zae pb
64=0->False)->False)->(∃(x:Unit),zae pb 64=0/\True/\(nm=nm/\pRk pa=pRk pa/\pCt pb=pCt pb/\10*IntKind.i64.wrap (pb.tmod 4)=10*IntKind.i64.wrap (pb.tmod 4)/\IntKind.i64.wrap (pa.tmod 3)=
IntKind.i64.wrap (pa.tmod 3)/\([]:List UInt8)= []/\(zae pa 64=0->False↔zae pa 64=0->False)/\(zae pb 128=0->False↔zae pb 128=0->False)/\True/\True)/\True)\/∃(x:Unit),(zae pb 64=0
->False)/\True/\(nm=nm/\pRk pa=pRk pa/\pCt pb=pCt pb/\10*IntKind.i64.wrap (pb.tmod 4)=10*IntKind.i64.wrap (pb.tmod 4)/\IntKind.i64.wrap (pa.tmod 3)=IntKind.i64.wrap (pa.tmod 3)/\([]:List UInt8)=
[]/\(zae pa 64=0->False↔zae pa 64=0->False)/\(zae pb 128=0->False↔zae pb 128=0->False)/\False/\True)/\True))/\(∀(x:Unit),zae pb 64=0->(0<=pa/\(0:Int)<=128/\(0<=pa/\pa<256)
/\((0:Int)<=128/\(128:Int)<256)/\((zae pa 128=0->False)->(0:Int)<=4/\0<=zbI IntKind.u8 pb 4/\(0:Int)<=3/\(0<=zbI IntKind.u8 pb 4/\zbI IntKind.u8 pb 4<256)/\((0:Int)<=3/\(3:Int)<
256)/\0<=zae (zbI IntKind.u8 pb 4) 3/\zae (zbI IntKind.u8 pb 4) 3<=(zaS.length:Int)/\(zaS.length:Int)<=(zaS.length:Int)/\(0:Int)<=0/\(0:Int)<=1/\1<=(↑(List.take (zaS.length-(zae (zbI
IntKind.u8 pb 4) 3).toNat) (List.drop (zae (zbI IntKind.u8 pb 4) 3).toNat zaS)).length:Int)/\∃(x:Unit),True/\True/\(nm=nm/\pRk pa=pRk pa/\pCt pb=pCt pb/\10*IntKind.i64.wrap (pb.tmod 4)=10*
IntKind.i64.wrap (pb.tmod 4)/\IntKind.i64.wrap (pa.tmod 3)=IntKind.i64.wrap (pa.tmod 3)/\zes (zae (zbI IntKind.u8 pb 4) 3)=pDi pa pb/\(zae pa 64=0->False↔zae pa 64=0->False)/\(zae pb 128=0->
False↔zae pb 128=0->False)/\True/\True)/\True)/\(((zae pa 128=0->False)->False)->∃(x:Unit),True/\True/\(nm=nm/\pRk pa=pRk pa/\pCt pb=pCt pb/\10*IntKind.i64.wrap (pb.tmod 4)=10*
IntKind.i64.wrap (pb.tmod 4)/\IntKind.i64.wrap (pa.tmod 3)=IntKind.i64.wrap (pa.tmod 3)/\ []=pDi pa pb/\(zae pa 64=0->False↔zae pa 64=0->False)/\(zae pb 128=0->False↔zae pb 128=0->False)/\
True/\True)/\True))/\∀(x:Unit),True->nm=(pG pa pb nm).nm/\pRk pa=(pG pa pb nm).rk/\pCt pb=(pG pa pb nm).ct/\10*IntKind.i64.wrap (pb.tmod 4)=(pG pa pb nm).si/\IntKind.i64.wrap (pa.tmod 3)=(pG pa pb
nm).sd/\pDi pa pb=(pG pa pb nm).di/\(zae pa 64=0->False↔zae pa 64=0->False)/\(zae pb 128=0->False↔zae pb 128=0->False)/\D.nil=(pG pa pb nm).tg/\True)/\∀(x:Unit),(zae pb 64=0->
False)->(0<=pa/\(0:Int)<=128/\(0<=pa/\pa<256)/\((0:Int)<=128/\(128:Int)<256)/\((zae pa 128=0->False)->(0:Int)<=4/\0<=zbI IntKind.u8 pb 4/\(0:Int)<=3/\(0<=zbI IntKind.u8 pb 4/\zbI
IntKind.u8 pb 4<256)/\((0:Int)<=3/\(3:Int)<256)/\0<=zae (zbI IntKind.u8 pb 4) 3/\zae (zbI IntKind.u8 pb 4) 3<=(zaS.length:Int)/\(zaS.length:Int)<=(zaS.length:Int)/\(0:Int)<=0/\(0:
Int)<=1/\1<=(↑(List.take (zaS.length-(zae (zbI IntKind.u8 pb 4) 3).toNat) (List.drop (zae (zbI IntKind.u8 pb 4) 3).toNat zaS)).length:Int)/\∃(x:Unit),True/\True/\(nm=nm/\pRk pa=pRk pa/\pCt pb
=pCt pb/\10*IntKind.i64.wrap (pb.tmod 4)=10*IntKind.i64.wrap (pb.tmod 4)/\IntKind.i64.wrap (pa.tmod 3)=IntKind.i64.wrap (pa.tmod 3)/\zes (zae (zbI IntKind.u8 pb 4) 3)=pDi pa pb/\(zae pa 64=0->
False↔zae pa 64=0->False)/\(zae pb 128=0->False↔zae pb 128=0->False)/\D.list [D.str (zes (znN pa 4))]=D.list [D.str (zes (znN pa 4))]/\True)/\True)/\(((zae pa 128=0->False)->False)->∃
(x:Unit),True/\True/\(nm=nm/\pRk pa=pRk pa/\pCt pb=pCt pb/\10*IntKind.i64.wrap (pb.tmod 4)=10*IntKind.i64.wrap (pb.tmod 4)/\IntKind.i64.wrap (pa.tmod 3)=IntKind.i64.wrap (pa.tmod 3)/\ []=pDi pa
pb/\(zae pa 64=0->False↔zae pa 64=0->False)/\(zae pb 128=0->False↔zae pb 128=0->False)/\D.list [D.str (zes (znN pa 4))]=D.list [D.str (zes (znN pa 4))]/\True)/\True))/\∀(x:Unit),
True->nm=(pG pa pb nm).nm/\pRk pa=(pG pa pb nm).rk/\pCt pb=(pG pa pb nm).ct/\10*IntKind.i64.wrap (pb.tmod 4)=(pG pa pb nm).si/\IntKind.i64.wrap (pa.tmod 3)=(pG pa pb nm).sd/\pDi pa pb=(pG pa pb nm).di
/\(zae pa 64=0->False↔zae pa 64=0->False)/\(zae pb 128=0->False↔zae pb 128=0->False)/\D.list [D.str (zes (znN pa 4))]=(pG pa pb nm).tg/\True):=by intros;kernel_rfl
theorem zrt (a:Int):0<=zae a 3/\zae a 3<=3:=by
 unfold zae
 have:a.toNat&&&(3:Int).toNat<=3:=Nat.and_le_right
 omega
theorem zmA {a:Int} (h:0<=a/\a<256) (n:Int):0<=zbI .u8 a n/\zbI .u8 a n<256:=by
 unfold zbI
 generalize min n.toNat IntKind.u8.bits=m
 have h2:(0:Int)<2^m:=Int.pow_pos (by decide)
 rw [Int.fdiv_eq_ediv_of_nonneg _ (Int.le_of_lt h2)]
 exact ⟨Int.ediv_nonneg h.1 (Int.le_of_lt h2),Int.lt_of_le_of_lt (Int.ediv_le_self _ h.1) h.2⟩
theorem zlE:zaS.length=4:=rfl
theorem zuP {k:Int} (h:0<=k/\k<=3):(1:Int)<=((List.take (zaS.length-k.toNat) (List.drop k.toNat zaS)).length:Int):=by
 rw [List.length_take,List.length_drop,zlE];omega
theorem zpF {k:Int} (h:0<=k/\k<=3):k<=(zaS.length:Int):=by rw [zlE];omega
theorem zzY {pa:Int} (h:zae pa 4=0->False):zes (zae (zbI IntKind.u8 pa 3) 3)=pRk pa:=by unfold pRk;rw [if_neg h];rfl
theorem zzX {pa:Int} (h:(zae pa 4=0->False)->False): []=pRk pa:=by unfold pRk;rw [if_pos (Classical.byContradiction h)]
theorem zzN {pa pb:Int} (h:zae pa 128=0->False):zes (zae (zbI IntKind.u8 pb 4) 3)=pDi pa pb:=by unfold pDi;rw [if_neg h];rfl
theorem zzM {pa pb:Int} (h:(zae pa 128=0->False)->False): []=pDi pa pb:=by unfold pDi;rw [if_pos (Classical.byContradiction h)]
theorem zAy {pa pb:Int} {nm:List UInt8} (h:zae pb 64=0->False):D.list [D.str (zes (znN pa 4))]=(pG pa pb nm).tg:=by show _=pTg pa pb;unfold pTg;rw [if_neg h]
theorem zAx {pa pb:Int} {nm:List UInt8} (h:zae pb 64=0):D.nil=(pG pa pb nm).tg:=by show _=pTg pa pb;unfold pTg;rw [if_pos h]
theorem zlx {p:Int} (h:0<=p/\p<256) (m:Int) (hm:0<m/\m<=100):IntKind.i64.wrap (p.tmod m)=p.tmod m/\0<=p.tmod m/\p.tmod m<m:=by
 have h1:0<=p.tmod m:=Int.tmod_nonneg _ h.1
 have h2:p.tmod m<m:=Int.tmod_lt_of_pos _ hm.1
 exact ⟨IntWalk.i64_in _ ⟨by omega,by omega⟩,h1,h2⟩
theorem s90 (pa pb:Int) (nm:List UInt8) (ha:0<=pa/\pa<256) (hb:0<=pb/\pb<256):zag (zrg (λ_=>none) zil) 3 90 [.agg [.int .u8 pa,.int .u8 pb],.str nm] (gV (pG pa pb nm)):=by
 rw [zBa]
 have w4:=zlx hb 4 (by omega)
 have a3:=zmA ha 3
 have a4:=zmA ha 4
 have b3:=zmA hb 3
 have b4:=zmA hb 4
 have x3:=zrt (zbI IntKind.u8 pa 3)
 have x4:=zrt (zbI IntKind.u8 pa 4)
 have y3:=zrt (zbI IntKind.u8 pb 3)
 have y4:=zrt (zbI IntKind.u8 pb 4)
 repeat' (first|apply And.intro|intro _|refine Or.inl (Exists.intro () (And.intro (Classical.byContradiction ‹(zae pb 64=0->False)->False›) ?_))|refine Or.inr (Exists.intro () (And.intro ‹zae pb 64=0->False› ?_))|refine Exists.intro () ?_)
 all_goals first
  |with_reducible rfl
  |trivial
  |exact zzY ‹_›
  |exact zzX ‹_›
  |exact ct_y ‹_›
  |exact ct_n ‹_›
  |exact zzN ‹_›
  |exact zzM ‹_›
  |exact zAy ‹_›
  |exact zAx ‹_›
  |exact zuP ‹_›
  |exact zpF ‹_›
  |exact Nat.le_refl 1
  |rfl
  |omega
end Go.Ev

end

section
open Go.Proofs
namespace Go.Ev
set_option maxRecDepth 100000
set_option maxHeartbeats 4000000
theorem zmc (l:D) (k:Nat):(min (l.len:Int) (k:Int)).toNat<=l.len/\(min (l.len:Int) (k:Int)).toNat<=k:=by omega
theorem zjI (l:D):(m8 l).len<=l.len/\(m8 l).len<=8:=by
 have h:=zmc l 8
 have e:(m8 l).len=(min (l.len:Int) ((8:Nat):Int)).toNat:=zbZ l _ h.1
 rw [e];exact h
theorem zwC {l:D} {x:Nat} (hx:x<(m8 l).len):el (m8 l) x=el l x:=by
 have h:=zmc l 8
 have e:(m8 l).len=(min (l.len:Int) ((8:Nat):Int)).toNat:=zbZ l _ h.1
 exact zgU l _ x (by omega)
theorem zd2 (l:D) (n:Nat):(mL l n).length=n:=by unfold mL;rw [List.length_map,List.length_range]
theorem zuV (l:D) (x:Nat):mL l (x+1)=mL l x++ [mC (el l x) (mR l x)]:=by unfold mL;rw [List.range_succ,List.map_append];rfl
theorem ztm {l:D} {x:Nat} {e:D} (h:e=mC (el l x) (mR l x)):List.take x (mL l x)++List.take 1 [e]=mL l (x+1):=by
 subst h;rw [zuV,List.take_of_length_le (by rw [zd2];exact Nat.le_refl _)];rfl
theorem zys {l:D} {x:Nat} (h:mK (el l x)=1):nm1 (el l x)=mR l (x+1):=by show _=if _ then _ else _;rw [if_pos h]
theorem zsi {l:D} {x:Nat} (h:mK (el l x)=1->False):mR l x=mR l (x+1):=by show _=if _ then _ else _;rw [if_neg h]
theorem zlG {d:D} {r:List UInt8} (h:(d.fld 4).asProp) (h1:mK d=1->False):r=mAm d r:=by unfold mAm;rw [if_pos ⟨h,h1⟩]
theorem zex {d:D} {r:List UInt8} (h:(d.fld 4).asProp->False): []=mAm d r:=by unfold mAm;rw [if_neg λk=>h k.1]
theorem zea {d:D} {r:List UInt8} (h:(mK d=1->False)->False): []=mAm d r:=by unfold mAm;rw [if_neg λk=>h k.2]
theorem zvN {d:D} (h:zae (d.fld 2).asInt 4=0):List.take 1 [D.str (nm1 d)]=mNm d:=by unfold mNm;rw [if_pos h];rfl
theorem zvO {d:D} (h:zae (d.fld 2).asInt 4=0->False):List.take 2 ([D.str (nm1 d)]++ [D.str (nm2 d)])=mNm d:=by unfold mNm;rw [if_neg h];rfl
theorem mC1 {d:D} {r a:List UInt8} {n:List D} (h:mK d=1) (ha:a=mAm d r) (hn:n=mNm d):D.sct [.int (mK d),.str a,.bool (false=true),.list n,.int 0]=mC d r:=by unfold mC;rw [if_pos h,ha,hn]
theorem mC4 {d:D} {r a:List UInt8} (h:mK d=4) (ha:a=mAm d r):D.sct [.int (mK d),.str a,.bool (d.fld 3).asProp,.nil,.int (1+IntKind.i64.wrap (((d.fld 1).asInt).tmod 2))]=mC d r:=by unfold mC;rw [if_neg (by omega),if_pos h,ha]
theorem mC5 {d:D} {r a:List UInt8} (h:mK d=5) (ha:a=mAm d r):D.sct [.int (mK d),.str a,.bool (d.fld 3).asProp,.nil,.int 0]=mC d r:=by unfold mC;rw [if_neg (by omega),if_neg (by omega),if_pos h,ha]
theorem mC6 {d:D} {r a:List UInt8} {n:List D} (h:mK d=6) (ha:a=mAm d r) (hn:n=mNm d):D.sct [.int (mK d),.str a,.bool (d.fld 3).asProp,.list n,.int 0]=mC d r:=by unfold mC;rw [if_neg (by omega),if_neg (by omega),if_neg (by omega),if_pos (.inl h),ha,hn]
theorem mC7 {d:D} {r a:List UInt8} {n:List D} (h:mK d=7) (ha:a=mAm d r) (hn:n=mNm d):D.sct [.int (mK d),.str a,.bool (d.fld 3).asProp,.list n,.int 0]=mC d r:=by unfold mC;rw [if_neg (by omega),if_neg (by omega),if_neg (by omega),if_pos (.inr h),ha,hn]
theorem zyr {d:D} {r a:List UInt8} (h:mK d=10) (ha:a=mAm d r):D.sct [.int (mK d),.str a,.bool (false=true),.nil,.int (IntKind.i64.wrap (((d.fld 1).asInt).tmod 64))]=mC d r:=by unfold mC;rw [if_neg (by omega),if_neg (by omega),if_neg (by omega),if_neg (by omega),if_pos h,ha]
theorem mC0 {d:D} {r a:List UInt8} (h1:mK d=1->False) (h4:mK d=4->False) (h5:mK d=5->False) (h6:mK d=6->False) (h7:mK d=7->False) (h10:mK d=10->False) (ha:a=mAm d r):
  D.sct [.int (mK d),.str a,.bool (false=true),.nil,.int 0]=mC d r:=by unfold mC;rw [if_neg h1,if_neg h4,if_neg h5,if_neg (λk=>k.elim h6 h7),if_neg h10,ha]
theorem zuX {l:D} {x:Nat} {e:D} {r:List UInt8} (hx:(x:Int)<l.len) (he:e=mC (el l x) (mR l x)) (hr:r=mR l (x+1)):
  (∃y:Nat,y=0/\l.len-y<l.len-x/\((x:Int)+1=0/\False/\r= []/\True)/\True)\/
  ∃y:Nat,(0<y/\y<=l.len)/\l.len-y<l.len-x/\((x:Int)+1=(y:Int)/\((0:Nat)=0/\x+1=y/\True)/\r=mR l y/\True)/\List.take x (mL l x)++List.take 1 [e]=mL l y/\True:=
 .inr ⟨x+1,⟨by omega,by omega⟩,by omega,⟨by omega,⟨rfl,rfl,trivial⟩,hr,trivial⟩,ztm he,trivial⟩
theorem zkP {l:D} {e:D} {r:List UInt8} (hx:(0:Int)<l.len) (he:e=mC (el l 0) []) (hr:r=mR l 1):
  (∃y:Nat,y=0/\l.len-y<l.len-0/\((0:Int)+1=0/\False/\r= []/\True)/\True)\/
  ∃y:Nat,(0<y/\y<=l.len)/\l.len-y<l.len-0/\((0:Int)+1=(y:Int)/\((0:Nat)=0/\1=y/\True)/\r=mR l y/\True)/\List.take 1 [e]=mL l y/\True:=
 .inr ⟨1,⟨by omega,by omega⟩,by omega,⟨rfl,⟨rfl,rfl,trivial⟩,hr,trivial⟩,ztm (x:=0) he,trivial⟩
theorem zng {l:D} (h:mK (el l 0)=1->False): []=mR l 1:=zsi h
theorem ztp {c:Int} (h:0<=c):0<=c.tmod 4/\c.tmod 4<=3:=by rw [Int.tmod_eq_emod_of_nonneg h];omega
theorem zxE (n:Int):0<=IntKind.u8.wrap n/\IntKind.u8.wrap n<256:=by
 show 0<=n.emod 256/\n.emod 256<256
 exact ⟨Int.emod_nonneg _ (by decide),Int.emod_lt_of_pos _ (by decide)⟩
theorem zgF {l:List D} (h:0<l.length):D.list l=zbC l:=by
 cases l with
 |nil=>cases h
 |cons a l=>rfl
end Go.Ev

end

section
open Go.Proofs
namespace Go.Ev
set_option maxRecDepth 100000
set_option maxHeartbeats 4000000
theorem zA5:∀(l:D) (n:Int),zag (zrg (λ(x:FuncId)=>match x with|90=>some zm0|_=>none) zil) 3 (30:FuncId) [V.dat (48:TypeId) l,V.int IntKind.i64 n] (V.dat (23:TypeId) (gsD n l))=((0
:Int)<=0/\0<=min (l.len:Int) n/\min (l.len:Int) n<=(l.len:Int)/\((∃(x:Nat),x=0/\((0:Int)=0/\True/\True)/\True)\/∃(x:Nat),(0<x/\x<=(mG n l).len)/\(0=(x:Int)/\False/\True)/\False
/\True)/\(∀(x:Nat),x=0->(mG n l).len-x<LIM/\(0<(↑(mG n l).len:Int)->(0:Int)<=0/\0<(↑(mG n l).len:Int)/\((26:Int)=0->False)/\fits64 (Int.tdiv 0 26)/\fits64 (97+Int.tdiv 0 26)/\((26:
Int)=0->False)/\fits64 (97+Int.tmod 0 26)/\0+2<=(gbs 0).length/\zn2 (List.take 2 (gbs 0))/\ [(103:UInt8)].length+(zfD (List.take 2 (gbs 0))).length<9223372036854775808/\((0<=cK (el (mG n l) 0)/\
cK (el (mG n l) 0)<256)/\0<=((el (mG n l) 0).fld 1).asInt/\((el (mG n l) 0).fld 1).asInt<256)/\0+1<= [gD (pG (cK (el (mG n l) 0)) ((el (mG n l) 0).fld 1).asInt (zjA 0))].length/\(1:Nat)<=16777216/\fits64
(0+1)/\((∃(y:Nat),y=0/\(mG n l).len-y<(mG n l).len-x/\((0:Int)+1=0/\False/\True)/\True)\/∃(y:Nat),(0<y/\y<=(mG n l).len)/\(mG n l).len-y<(mG n l).len-x/\(0+1=(y:Int)/\((0
:Nat)=0/\1=y/\True)/\True)/\List.take 1 [gD (pG (cK (el (mG n l) 0)) ((el (mG n l) 0).fld 1).asInt (zjA 0))]=gL (mG n l) y/\True))/\((0<(↑(mG n l).len:Int)->False)->D.nil=gsD n l))/\∀(x:Nat),0
<x/\x<=(mG n l).len->(mG n l).len-x<LIM/\((x:Int)<(↑(mG n l).len:Int)->0<=(x:Int)/\(x:Int)<(↑(mG n l).len:Int)/\((26:Int)=0->False)/\fits64 ((x:Int).tdiv 26)/\fits64 (97+(x:
Int).tdiv 26)/\((26:Int)=0->False)/\fits64 (97+(x:Int).tmod 26)/\0+2<=(gbs (x:Int)).length/\zn2 (List.take 2 (gbs (x:Int)))/\ [(103:UInt8)].length+(zfD (List.take 2 (gbs (x:Int)))).length<
9223372036854775808/\((0<=cK (el (mG n l) x)/\cK (el (mG n l) x)<256)/\0<=((el (mG n l) x).fld 1).asInt/\((el (mG n l) x).fld 1).asInt<256)/\0+1<= [gD (pG (cK (el (mG n l) x)) ((el (mG n l) x).fld 1).asInt
(zjA (x:Int)))].length/\0+x<=(gL (mG n l) x).length/\x+1<=16777216/\fits64 ((x:Int)+1)/\((∃(y:Nat),y=0/\(mG n l).len-y<(mG n l).len-x/\((x:Int)+1=0/\False/\True)/\True)\/∃(y:
Nat),(0<y/\y<=(mG n l).len)/\(mG n l).len-y<(mG n l).len-x/\((x:Int)+1=(y:Int)/\((0:Nat)=0/\x+1=y/\True)/\True)/\List.take x (gL (mG n l) x)++List.take 1 [gD (pG (cK (el (mG n l) x))
((el (mG n l) x).fld 1).asInt (zjA (x:Int)))]=gL (mG n l) y/\True))/\(((x:Int)<(↑(mG n l).len:Int)->False)->0+x<=(gL (mG n l) x).length/\D.list (List.take x (gL (mG n l) x))=gsD n l)):=by intros;kernel_rfl
theorem zpK {n:Int} (h0:0<=n) (l:D):(mG n l).len<=l.len/\(mG n l).len<=n:=by
 have h:(min (l.len:Int) n).toNat<=l.len:=by omega
 have e:(mG n l).len=(min (l.len:Int) n).toNat:=zbZ l _ h
 rw [e];omega
theorem zwD {n:Int} {l:D} {x:Nat} (hx:x<(mG n l).len):el (mG n l) x=el l x:=by
 have h:(min (l.len:Int) n).toNat<=l.len:=by omega
 have e:(mG n l).len=(min (l.len:Int) n).toNat:=zbZ l _ h
 exact zgU l _ x (by omega)
theorem zhn (l:D) (n:Nat):(gL l n).length=n:=by unfold gL;rw [List.length_map,List.length_range]
theorem zuG (l:D) (x:Nat):gL l (x+1)=gL l x++ [gE l x]:=by unfold gL;rw [List.range_succ,List.map_append];rfl
theorem ztd {l:D} {x:Nat} {e:D} (h:e=gE l x):List.take x (gL l x)++List.take 1 [e]=gL l (x+1):=by
 subst h;rw [zuG,List.take_of_length_le (by rw [zhn];exact Nat.le_refl _)];rfl
theorem u8w (n:Int):0<=IntKind.u8.wrap n/\IntKind.u8.wrap n<256:=by
 show 0<=n.emod 256/\n.emod 256<256
 exact ⟨Int.emod_nonneg _ (by decide),Int.emod_lt_of_pos _ (by decide)⟩
theorem u8n (n:Int):(IntKind.u8.wrap n).toNat<256/\IntKind.u8.wrap n=((IntKind.u8.wrap n).toNat:Int):=by
 have:=u8w n
 omega
theorem zl3 (i:Int):zn2 (List.take 2 (gbs i)):=⟨λd hd=>by
 have hd:d∈gbs i:=hd
 unfold gbs at hd
 rcases List.mem_cons.1 hd with h|h
 .subst h;exact ⟨_,(u8n _).1,congrArg D.int (u8n _).2⟩
 .rcases List.mem_cons.1 h with h|h
  .subst h;exact ⟨_,(u8n _).1,congrArg D.int (u8n _).2⟩
  .cases h⟩
theorem znf {l:List D} (h:0<l.length):D.list l=zbC l:=by
 cases l with
 |nil=>cases h
 |cons a l=>rfl
theorem ztM {x:Int} (h:0<=x):0<=x.tdiv 26/\x.tdiv 26<=x/\0<=x.tmod 26/\x.tmod 26<26:=by
 rw [Int.tdiv_eq_ediv_of_nonneg h,Int.tmod_eq_emod_of_nonneg h];omega
theorem s30 (l:D) (n:Int) (hu:zvB l) (h0:0<=n) (h64:n<=64):zag (zrg (λ|90=>some zm0|_=>none) zil) 3 30 [.dat 48 l,.int .i64 n] (.dat 23 (gsD n l)):=by
 rw [zA5]
 have hl:=zpK h0 l
 have hp:∀x,x<(mG n l).len->u8P (el (mG n l) x):=λx h=>by rw [zwD h];exact hu.out x (by omega)
 have t0:=ztM (Int.le_refl 0)
 refine ⟨Int.le_refl _,by omega,by omega,Or.inl ⟨0,rfl,⟨rfl,trivial,trivial⟩,trivial⟩,λx hx=>⟨zia (by omega),λh=> ?_,λh=> ?_⟩,λx hx=>⟨zia (by omega),λh=> ?_,λh=>⟨by rw [zhn];omega, ?_⟩⟩⟩
 .have hq:=(hp 0 (by omega)).out
  subst hx
  refine ⟨Int.le_refl _,h,λh=>absurd h (by decide),by omega,by omega,λh=>absurd h (by decide),by omega, ?_,zl3 _, ?_,hq,Nat.le_refl _,by omega,by omega,Or.inr ⟨1,⟨by omega,by omega⟩,by omega,⟨rfl,⟨rfl,rfl,trivial⟩,trivial⟩, ?_,trivial⟩⟩
  .exact Nat.le_refl 2
  .show 1+2<9223372036854775808;omega
  .exact ztd (x:=0) rfl
 .have e:(mG n l).len=0:=by have h:¬(0:Int)<((mG n l).len:Int):=h;omega
  show D.nil=zbC (gL (mG n l) (mG n l).len)
  rw [e];rfl
 .have hq:=(hp x (by omega)).out
  have t:=ztM (x:=(x:Int)) (by omega)
  refine ⟨by omega,h,λh=>absurd h (by decide),by omega,by omega,λh=>absurd h (by decide),by omega, ?_,zl3 _, ?_,hq,Nat.le_refl _,by rw [zhn];omega,by omega,by omega,Or.inr ⟨x+1,⟨by omega,by omega⟩,by omega,⟨by omega,⟨rfl,rfl,trivial⟩,trivial⟩,ztd rfl,trivial⟩⟩
  .exact Nat.le_refl 2
  .show 1+2<9223372036854775808;omega
 .have e:=zcc hx.2 h
  subst e
  rw [List.take_of_length_le (by rw [zhn];exact Nat.le_refl _)]
  exact znf (by rw [zhn];exact hx.1)
end Go.Ev

end
