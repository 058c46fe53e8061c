/- Part of the proof. -/
import Derived.Test.YtdojhafbgoimeaaGreatDoorCoreKit
import Derived.Test.YtdojhafbgoimeaaGreatDoorProg
import Derived.Test.YtdojhafbgoimeaaGreatDoorCoreG0
import Derived.Test.YtdojhafbgoimeaaGreatDoorCoreSeC

section
open Go.Proofs
namespace Go.Ev
noncomputable section
def el (l:D) (i:Nat):D:=zai l.asList i
def sAt (l:D) (i:Nat):List UInt8:=(zai l.asList i).asStr
def cK (d:D):Int:=(d.fld 0).asInt
def cA (d:D):List UInt8:=(d.fld 1).asStr
def cL (d:D):Prop:=(d.fld 2).asProp
def cNm (d:D):D:=d.fld 3
def cN (d:D):Int:=(d.fld 4).asInt
structure zaI (s:List UInt8):Prop where
 out:1<=s.length/\s.length<=12/\∀i,i<s.length->97<=zal s i/\zal s i<=122
structure zbk (l:D) (s:List UInt8):Prop where
 out:∃i,i<l.len/\sAt l i=s
structure zhE (l:D):Prop where
 out:∃i,i<l.len/\¬zaI (sAt l i)
structure zbD (l:D):Prop where
 out:∃i k,k<i/\i<l.len/\sAt l k=sAt l i
structure zaO (c:D) (n:Nat) (s:List UInt8):Prop where
 out:∃k,k<n/\cK (el c k)=1/\zbk (cNm (el c k)) s
structure eqS (a b:D):Prop where
 out:a.len=b.len/\∀i,i<a.len->sAt a i=sAt b i
structure zay (k:Int) (a:List UInt8) (la:Prop) (m:Nat) (n:Int):Prop where
 out:(k=1/\1<=m/\m<=16/\n=0/\¬la/\a= [])\/((k=2\/k=3\/k=8\/k=9)/\m=0/\n=0/\¬la)\/
  (k=4/\m=0/\1<=n/\n<=2)\/(k=5/\m=0/\n=0)\/((k=6\/k=7)/\1<=m/\m<=16/\n=0)\/(k=10/\m=0/\0<=n/\n<=63/\¬la)
open Classical in
def zcH (c:D) (i:Nat) (k:Int) (a:List UInt8) (la:Prop) (nm:D) (n:Int):Int:=
 if¬zay k a la nm.len n then 30 else if zhE nm\/(a≠ []/\¬zaI a) then 4 else if zbD nm then 5 else if a≠ []/\¬zaO c i a then 31 else 0
def zdI (c:D) (i:Nat):Int:=zcH c i (cK (el c i)) (cA (el c i)) (cL (el c i)) (cNm (el c i)) (cN (el c i))
open Classical in
def zbr (l:D):Nat->Nat->Int×Int
 |0,_=>(0,0)
 |f+1,i=>if zdI l i≠0 then ((i:Nat),zdI l i) else zbr l f (i+1)
open Classical in
def zaK (l:D):Int×Int:=if 32<l.len then (0,7) else zbr l l.len 0
structure zan (c:D):Prop where
 out:c.len<=100/\∀i,i<c.len->(cNm (el c i)).len<=100
structure zvK (d:D):Prop where
 out:(cA d).length<=40/\(cNm d).len<=20/\∀i,i<(cNm d).len->(sAt (cNm d) i).length<=40
structure zkH (c:D):Prop where
 out:c.len<=40/\∀i,i<c.len->zvK (el c i)
def zba (l:List D):D:=match l with| []=> .nil|l=> .list l
def zpi (d:D):D:= .sct [.int (cK d),.str (cA d),.bool (cL d),.list (cNm d).asList,.int (cN d)]
def zbf (l:D) (n:Nat):List D:=(List.range n).map λi=>zpi (el l i)
def zar (l:D):D:=zba (zbf l l.len)
structure zpQ (a b:D):Prop where
 out:cK a=cK b/\cA a=cA b/\(cL a↔cL b)/\cN a=cN b/\eqS (cNm a) (cNm b)
structure zcc (a b:D):Prop where
 out:a.len=b.len/\∀i,i<a.len->zpQ (el a i) (el b i)
def zeI (x:Nat):List D:=(List.range 256).map λk=>D.bool (97<=k/\k<97+x)
def zlJ:List UInt8:= [97,98,99,100,101,102,103,104,105,106,107,108,109,110,111,112,113,114,115,116,117,118,119,120,121,122]
def zck:List D:= [.sct [.str [],.int 0,.int 0,.bool (false=true),.bool (false=true),.bool (false=true)],
 .sct [.str [114,97,110,107],.int 0,.int 0,.bool (false=true),.bool (true=true),.bool (true=true)],
 .sct [.str [101,108,100,101,114],.int 0,.int 0,.bool (false=true),.bool (false=true),.bool (false=true)],
 .sct [.str [121,111,117,116,104],.int 0,.int 0,.bool (false=true),.bool (false=true),.bool (false=true)],
 .sct [.str [115,105,100,101],.int 1,.int 2,.bool (true=true),.bool (false=true),.bool (false=true)],
 .sct [.str [104,111,115,116],.int 0,.int 0,.bool (true=true),.bool (false=true),.bool (false=true)],
 .sct [.str [116,111,110,103,117,101],.int 0,.int 0,.bool (true=true),.bool (true=true),.bool (false=true)],
 .sct [.str [99,111,117,114,116],.int 0,.int 0,.bool (true=true),.bool (true=true),.bool (false=true)],
 .sct [.str [110,97,109,101],.int 0,.int 0,.bool (false=true),.bool (false=true),.bool (false=true)],
 .sct [.str [108,105,115,116],.int 0,.int 0,.bool (false=true),.bool (false=true),.bool (false=true)],
 .sct [.str [108,111,116],.int 0,.int 63,.bool (false=true),.bool (false=true),.bool (false=true)]]
def zhb:Con:=λ| [.dat 29 l,.str s]=>some (l.len<=100,.prop (zbk l s))|_=>none
def zh1:Con:=λ| [.str s]=>some (True,.prop (zaI s))|_=>none
def zvC:Con:=λ| [.dat 29 a,.dat 29 b]=>some (a.len<=100,.prop (eqS a b))|_=>none
def zhT:Con:=λ| [.agg [.int .u8 k,.str a,.prop la,.dat 29 nm,.int .i64 n]]=>some (True,.prop (zay k a la nm.len n))|_=>none
def zqL:Con:=λ| [.dat 29 l]=>some (l.len<=100,.prop (zbD l))|_=>none
def zo0:Con:=λ| [.dat 22 c,.str s]=>some (zan c,.prop (zaO c c.len s))|_=>none
def zp5:Con:=λ| [.dat 22 b,.agg [.int .u8 k,.str a,.prop la,.dat 29 nm,.int .i64 n]]=>some (zan b/\nm.len<=100,.int .i64 (zcH b b.len k a la nm n))|_=>none
def zpm:Con:=λ| [.dat 22 c,.int .i64 i]=>some ((0<=i/\i<c.len)/\zan c,.int .i64 (zdI c i.toNat))|_=>none
def zjI:Con:=λ| [.dat 22 c]=>some (zan c,.tup [.int .i64 (zaK c).1,.int .i64 (zaK c).2])|_=>none
def zqk:Con:=fun
 | [.agg [.int .u8 k,.str a,.prop la,.dat 29 nm,.int .i64 n],.agg [.int .u8 k',.str a',.prop la',.dat 29 nm',.int .i64 n']]=>some (nm.len<=100,.prop (k=k'/\a=a'/\(la↔la')/\n=n'/\eqS nm nm'))
 |_=>none
def zrO:Con:=λ| [.dat 22 a,.dat 22 b]=>some (zan a,.prop (zcc a b))|_=>none
def zrE:Con:=λ| [.dat 22 c]=>some (zan c,.dat 22 (zar c))|_=>none
def zso:Con:=λ| [.dat 22 c]=>some (True,.prop (zkH c))|_=>none
def cc1:FuncId->Option Con
 |103=>some zhb
 |137=>some zhb
 |136=>some zh1
 |102=>some zh1
 |81=>some zvC
 |201=>some zhT
 |168=>some zhT
 |_=>none
def zxm:Con:=λ| [_,_]=>some (False,.str [])|_=>none
def cc0:FuncId->Option Con
 |198=>some zxm
 |199=>some zxm
 |_=>none
def cc2:FuncId->Option Con
 |169=>some zqL
 |170=>some zo0
 |124=>some zqk
 |g=>cc1 g
def cc3:FuncId->Option Con
 |130=>some zp5
 |154=>some zpm
 |69=>some zrO
 |60=>some zrE
 |15=>some zso
 |g=>cc2 g
def cc4:FuncId->Option Con
 |98=>some zjI
 |117=>some zjI
 |g=>cc3 g
def zaY:FuncId->Nat->Option Ann
 |45,2=>some {τ:=Nat,slots:=λ_ _ x=> [(8,.int .i64 x)],blks:=λ_ _ _=> [],inv:=λS _ x=>x<=(slD S 0).len/\∀i,i<x->sAt (slD S 0) i≠slS S 1,meas:=λS _ x=>(slD S 0).len-x}
 |137,2=>some {τ:=Nat,slots:=λ_ _ x=> [(5,.int .i64 x)],blks:=λ_ _ _=> [],inv:=λS _ x=>x<=(slD S 0).len/\∀i,i<x->sAt (slD S 0) i≠slS S 1,meas:=λS _ x=>(slD S 0).len-x}
 |136,4=>some {τ:=Nat,slots:=λ_ _ x=> [(3,.int .i64 x)],blks:=λ_ _ _=> [],inv:=λS _ x=>x<=(slS S 0).length/\∀i,i<x->97<=zal (slS S 0) i/\zal (slS S 0) i<=122,meas:=λS _ x=>(slS S 0).length-x}
 |81,4=>some {τ:=Nat,slots:=λ_ _ x=> [(13,.int .i64 x)],blks:=λ_ _ _=> [],inv:=λS _ x=>x<=(slD S 0).len/\∀i,i<x->sAt (slD S 0) i=sAt (slD S 1) i,meas:=λS _ x=>(slD S 0).len-x}
 |169,2=>some {τ:=Nat,slots:=λ_ _ x=> [(7,.int .i64 x)],blks:=λ_ _ _=> [],inv:=λS _ x=>x<=(slD S 0).len/\∀i k,k<i->i<x->sAt (slD S 0) k≠sAt (slD S 0) i,meas:=λS _ x=>(slD S 0).len-x}
 |76,2=>some {τ:=Nat,slots:=λ_ _ x=> [(8,.int .i64 x)],blks:=λ_ _ _=> [],inv:=λS _ x=>x<=(slD S 0).len/\∀i,i<x->zaI (sAt (slD S 0) i),meas:=λS _ x=>(slD S 0).len-x}
 |154,6=>some {τ:=Nat,slots:=λ_ _ x=> [(5,.int .i64 x)],blks:=λ_ _ _=> [],inv:=λS _ x=>x<=(cNm (el (slD S 0) (slI S 1).toNat)).len/\∀i,i<x->zaI (sAt (cNm (el (slD S 0) (slI S 1).toNat)) i),meas:=λS _ x=>(cNm (el (slD S 0) (slI S 1).toNat)).len-x}
 |154,11=>some {τ:=Nat,slots:=λ_ _ x=> [(6,.int .i64 x)],blks:=λ_ _ _=> [],inv:=λS _ x=>x<=(cNm (el (slD S 0) (slI S 1).toNat)).len/\∀i k,k<i->i<x->sAt (cNm (el (slD S 0) (slI S 1).toNat)) k≠sAt (cNm (el (slD S 0) (slI S 1).toNat)) i,meas:=λS _ x=>(cNm (el (slD S 0) (slI S 1).toNat)).len-x}
 |154,18=>some {τ:=Nat,slots:=λ_ _ x=> [(7,.int .i64 x)],blks:=λ_ _ _=> [],inv:=λS _ x=>x<=(slI S 1).toNat/\∀k,k<x->¬(cK (el (slD S 0) k)=1/\zbk (cNm (el (slD S 0) k)) (cA (el (slD S 0) (slI S 1).toNat))),meas:=λS _ x=>(slI S 1).toNat-x}
 |98,4=>some {τ:=Nat,slots:=λ_ _ x=> [(12,.int .i64 x)],blks:=λ_ _ _=> [],inv:=λS _ x=>x<=(slD S 0).len/\zbr (slD S 0) ((slD S 0).len-x) x=zbr (slD S 0) (slD S 0).len 0,meas:=λS _ x=>(slD S 0).len-x}
 |117,4=>some {τ:=Nat,slots:=λ_ _ x=> [(4,.int .i64 x)],blks:=λ_ _ _=> [],inv:=λS _ x=>x<=(slD S 0).len/\zbr (slD S 0) ((slD S 0).len-x) x=zbr (slD S 0) (slD S 0).len 0,meas:=λS _ x=>(slD S 0).len-x}
 |123,4=>some {τ:=Nat,slots:=λ_ _ x=> [(17,.int .i64 x)],blks:=λ_ _ _=> [],inv:=λS _ x=>x<=(slD S 0).len/\∀i,i<x->zpQ (el (slD S 0) i) (el (slD S 1) i),meas:=λS _ x=>(slD S 0).len-x}
 |60,3=>some {hs:=2,τ:=Nat,slots:=λ_ i x=>match i with|0=> [(8,.int .i64 0),(3,.val (.slice none 0 0))]|_=> [(8,.int .i64 x),(3,.slc 60 (.lit 0) (.sym x) none)],blks:=λS i x=>match i with|0=> []|_=> [(60,.arr 69 (zbf (slD S 0) x))],inv:=λS i x=>match i with|0=>x=0|_=>0<x/\x<=(slD S 0).len,meas:=λS _ x=>(slD S 0).len-x}
 |195,2=>some {τ:=Nat,slots:=λ_ _ x=> [(4,.int .i64 x)],blks:=λ_ _ x=> [(0,.grd 214 4 (zeI x))],inv:=λ_ _ x=>x<=26,meas:=λ_ _ x=>26-x}
 |197,1=>some {τ:=Nat,slots:=λS _ x=> [(0,.str ((slS S 0).take x))],blks:=λ_ _ _=> [(1,.grd 214 4 (zeI 26))],inv:=λS _ x=>x<=(slS S 0).length/\∀i,x<=i->i<(slS S 0).length->97<=zal (slS S 0) i/\zal (slS S 0) i<=122,meas:=λ_ _ x=>x}
 |196,1=>some {τ:=Nat,slots:=λS _ x=> [(0,.str ((slS S 0).drop x))],blks:=λ_ _ _=> [(1,.grd 214 4 (zeI 26))],inv:=λS _ x=>x<=(slS S 0).length/\∀i,i<x->97<=zal (slS S 0) i/\zal (slS S 0) i<=122,meas:=λS _ x=>(slS S 0).length-x}
 |_,_=>none
def zpq:FuncId->Nat->Option Ann
 |76,2=>some {τ:=Nat,slots:=λ_ _ x=> [(8,.int .i64 x)],blks:=λ_ _ _=> [],inv:=λS _ x=>x<=(slD S 0).len/\∀i,i<x->(sAt (slD S 0) i).length<=40,meas:=λS _ x=>(slD S 0).len-x}
 |101,2=>some {τ:=Nat,slots:=λ_ _ x=> [(8,.int .i64 x)],blks:=λ_ _ _=> [],inv:=λS _ x=>x<=(slD S 0).len/\∀i,i<x->zvK (el (slD S 0) i),meas:=λS _ x=>(slD S 0).len-x}
 |_,_=>none
def zow (s:List UInt8):FuncId->Nat->Option Ann
 |101,2=>some {τ:=Nat,slots:=λ_ _ x=> [(8,.int .i64 x)],blks:=λ_ _ _=> [],inv:=λS _ x=>x<=(slD S 0).len/\∀k,k<x->¬(cK (el (slD S 0) k)=1/\zbk (cNm (el (slD S 0) k)) s),meas:=λS _ x=>(slD S 0).len-x}
 |_,_=>none
def ctx (con:FuncId->Option Con) (ann:FuncId->Nat->Option Ann):Ctx:={P:=Tryz.prog,con:=con,ora:=λg=>cond (Nat.beq g 18) (some (.bool true)) none,bits:=65185151242703554760590262029100101153646988597309960020356494379340201592426774597868716031,ann:=ann}
instance (con:FuncId->Option Con) (ann:FuncId->Nat->Option Ann):Nonempty (NoF (ctx con ann)):=⟨⟨λ_ _ h=>zd9 h⟩⟩
end
end Go.Ev

end

section
open Go.Proofs
namespace Go.Ev
noncomputable section
structure GD where
 nm:List UInt8
 rk:List UInt8
 ct:List UInt8
 si:Int
 sd:Int
 di:List UInt8
 ho:Prop
 ac:Prop
 tg:D
def gV (g:GD):V:= .agg [.str g.nm,.str g.rk,.str g.ct,.int .i64 g.si,.int .i64 g.sd,.str g.di,.prop g.ho,.prop g.ac,.dat 29 g.tg]
def pV (g:GD) (p:Int):V:= .agg [.str g.nm,.str g.rk,.str g.ct,.int .i64 g.si,.int .i64 g.sd,.str g.di,.prop g.ho,.prop g.ac,.dat 29 g.tg,.int .i64 p]
def gOf:V->Option GD
 | .agg [.str nm,.str rk,.str ct,.int .i64 si,.int .i64 sd,.str di,.prop ho,.prop ac,.dat 29 tg]=>some ⟨nm,rk,ct,si,sd,di,ho,ac,tg⟩
 |_=>none
def pOf:V->Option (GD×Int)
 | .agg [.str nm,.str rk,.str ct,.int .i64 si,.int .i64 sd,.str di,.prop ho,.prop ac,.dat 29 tg,.int .i64 p]=>some (⟨nm,rk,ct,si,sd,di,ho,ac,tg⟩,p)
 |_=>none
def zdN (x y:Int):Int:=if x<y then-1 else if y<x then 1 else 0
open Classical in
def zhL (x y:List UInt8):Int:=if sLt x y then-1 else if sLt y x then 1 else 0
open Classical in
def zbU (l:D) (s:List UInt8):Nat->Nat->Nat
 |0,i=>i
 |f+1,i=>if sAt l i=s then i else zbU l s f (i+1)
def idx (l:D) (s:List UInt8):Nat:=zbU l s l.len 0
def znB (l:D) (s:List UInt8):Int:=if idx l s<l.len then idx l s else-1
structure zok (tg nm:D):Prop where
 out:∃i,i<tg.len/\zbk nm (sAt tg i)
open Classical in
def zk5 (p q la:Prop):Int:=if (p↔q) then 0 else if¬(p↔la) then-1 else 1
def orZ (x y:Int):Int:=if x≠0 then x else y
structure inB (p:Int):Prop where
 out:0<=p/\p<64
def idD:D->Nat| .fn g _ _=>g|_=>0
def zkK (d:D) (i:Nat):D:=match d with| .fn _ _ ds=>zai ds i|_=> .nil
structure okR (d:D):Prop where
 out:∃nm:D,d= .fn 215 [29] [nm]/\nm.len<=100
structure okN (d:D):Prop where
 out:(∃x:D,d= .fn 179 [69] [x])\/d= .fn 180 [] []\/(∃x:D,d= .fn 181 [69] [x]/\(cNm x).len<=100)\/(∃x:D,d= .fn 183 [69] [x]/\(cNm x).len<=100)\/d= .fn 217 [] []
structure okC (d:D):Prop where
 out:d= .fn 114 [] []\/d= .fn 177 [] []
structure okK (d:D):Prop where
 out:d= .fn 187 [] []\/∃x:D,d= .fn 188 [69] [x]/\0<=cN x/\cN x<=63
structure ztN (d:D):Prop where
 out:(∃r:D,d= .fn 216 [227] [r]/\okR r)\/(∃(n:D) (la:Prop),d= .fn 220 [184,4] [n,.bool la]/\okN n)\/d= .fn 184 [] []\/(∃k:D,d= .fn 223 [181,80] [.fn 222 [] [],k]/\okK k)
structure zug (d:D):Prop where
 out:ztN d\/∃(u c:D),d= .fn 218 [173,142] [u,c]/\ztN u/\okC c
structure okA (d:D):Prop where
 out:∃(s:List UInt8) (t:D),d= .fn 174 [9,173] [.str s,t]/\zug t
def zkZ (d:D) (g:GD):Int:=idx (zkK d 0) g.rk
structure zdK (d:D) (g:GD):Prop where
 out:(idD d=179/\g.sd=cN (zkK d 0))\/(idD d=180/\g.ho)\/(idD d=181/\zok g.tg (cNm (zkK d 0)))\/(idD d=183/\zbk (cNm (zkK d 0)) g.ct)\/(idD d=217/\g.si=0)
def zjr (d:D) (x y:Int):Int:=if idD d=114 then zdN x y else zdN y x
def znT (p n:Int):Int:=(p*(2*n+1)+n).tmod 64
def zoK (d:D) (p:Int):Int:=if idD d=187 then p else znT p (cN (zkK d 0))
open Classical in
def zby (d:D) (a b:GD) (i j:Int):Int:=
 if idD d=216 then zdN (zkZ (zkK d 0) a) (zkZ (zkK d 0) b)
 else if idD d=220 then zk5 (zdK (zkK d 0) a) (zdK (zkK d 0) b) (zkK d 1).asProp
 else if idD d=184 then zhL a.nm b.nm
 else if inB i/\inB j then zdN (zoK (zkK d 1) i) (zoK (zkK d 1) j) else 0
def zdh (d:D) (a b:GD) (i j:Int):Int:=
 if idD d=218 then orZ (zby (zkK d 0) a b i j) (zjr (zkK d 1) a.si b.si) else zby d a b i j
open Classical in
def zmX (s:List UInt8) (t:D) (a b:GD) (i j:Int):Int:=if s≠ []/\(a.rk≠s\/b.rk≠s) then 0 else zdh t a b i j
def zoj (d:D) (a b:GD) (i j:Int):Int:=zmX (zkK d 0).asStr (zkK d 1) a b i j
def zlc (la:Prop) (n:D):D:= .fn 220 [184,4] [n,.bool la]
def zw0 (c:D):D:= .fn 218 [173,142] [zlc (true=true) (.fn 217 [] []),c]
def ztR (k:D):D:= .fn 223 [181,80] [.fn 222 [] [],k]
def xD (k:Int) (a:List UInt8) (la:Prop) (nm:D) (n:Int):D:= .sct [.int k,.str a,.bool la,nm,.int n]
def zbY (k:Int) (a:List UInt8) (la:Prop) (nm:D) (n:Int):D:=
 if k=1 then .fn 216 [227] [.fn 215 [29] [nm]] else if k=2 then zw0 (.fn 114 [] []) else if k=3 then zw0 (.fn 177 [] []) else if k=4 then zlc la (.fn 179 [69] [xD k a la nm n])
 else if k=5 then zlc la (.fn 180 [] []) else if k=6 then zlc la (.fn 181 [69] [xD k a la nm n]) else if k=7 then zlc la (.fn 183 [69] [xD k a la nm n]) else if k=8 then .fn 184 [] []
 else if k=9 then ztR (.fn 187 [] []) else ztR (.fn 188 [69] [xD k a la nm n])
def zh8 (s:List UInt8) (t:D):D:= .fn 174 [9,173] [.str s,t]
def zlo (c:D) (i:Nat):D:=zh8 (cA (el c i)) (zbY (cK (el c i)) (cA (el c i)) (cL (el c i)) (cNm (el c i)) (cN (el c i)))
def zaG (c:D) (n:Nat):List D:=(List.range n).map λi=>zlo c i
open Classical in
def zaM (f:Nat->Int):Nat->Nat->Int×Int
 |0,_=>(-1,0)
 |m+1,i=>if f i≠0 then ((i:Nat),f i) else zaM f m (i+1)
def zm4:Con:=λ| [.int .i64 x,.int .i64 y]=>some (True,.int .i64 (zdN x y))|_=>none
def zoY:Con:=λ| [.int .i64 x,.int .i64 y]=>some (True,.int .i64 (zdN y x))|_=>none
def zpE:Con:=λ| [.str x,.str y]=>some (True,.int .i64 (zhL x y))|_=>none
def zuh:Con:=λ| [.dat 29 l,.str s]=>some (l.len<=100,.int .i64 (znB l s))|_=>none
def zq3:Con:=λ| [.dat 29 l,.str s]=>some (l.len<=100,.int .i64 (idx l s))|_=>none
def zqA:Con:=λ| [p,.dpt 29 nm]=>(match pOf p with|some (g,_)=>some (nm.len<=100,.int .i64 (idx nm g.rk))|none=>none)|_=>none
def zov:Con:=λ| [p,.dpt 69 x]=>(match pOf p with|some (g,_)=>some (True,.prop (g.sd=cN x))|none=>none)|_=>none
def zqu:Con:=λ| [p]=>(match pOf p with|some (g,_)=>some (True,.prop g.ho)|none=>none)|_=>none
def zq5:Con:=λ| [p]=>(match pOf p with|some (g,_)=>some (True,.prop (g.si=0))|none=>none)|_=>none
def zjF:Con:=λ| [p,.dpt 69 x]=>(match pOf p with|some (g,_)=>some (g.tg.len<=100/\(cNm x).len<=100,.prop (zok g.tg (cNm x)))|none=>none)|_=>none
def zpB:Con:=λ| [p,.dpt 69 x]=>(match pOf p with|some (g,_)=>some ((cNm x).len<=100,.prop (zbk (cNm x) g.ct))|none=>none)|_=>none
def zqv:Con:=λ| [.int .i64 p]=>some (True,.int .i64 p)|_=>none
def zq7:Con:=λ| [.int .i64 p,.dpt 69 x]=>some (inB p/\0<=cN x/\cN x<=63,.int .i64 (znT p (cN x)))|_=>none
def zre:Con:=λ| [.int .i64 p]=>some (True,.prop (inB p))|_=>none
def zyO:D->Con:=λd=>λ| [p]=>(match pOf p with|some (g,_)=>some (okR d,.int .i64 (zkZ d g))|none=>none)|_=>none
def zux:D->Con:=λd=>λ| [p]=>(match pOf p with|some (g,_)=>some (okN d/\g.tg.len<=100,.prop (zdK d g))|none=>none)|_=>none
def zyL:D->Con:=λd=>λ| [.int .i64 x,.int .i64 y]=>some (okC d,.int .i64 (zjr d x y))|_=>none
def zyM:D->Con:=λd=>λ| [.int .i64 p]=>some (okK d/\inB p,.int .i64 (zoK d p))|_=>none
def zxC:D->Con:=λd=>λ| [.int .i64 p]=>some (d= .fn 222 [] [],.prop (inB p))|_=>none
def zrr:Con:=λ| [p,q,.dpt 227 r]=>(match pOf p,pOf q with|some (a,_),some (b,_)=>some (okR r,.int .i64 (zdN (zkZ r a) (zkZ r b)))|_,_=>none)|_=>none
def zq2:Con:=λ| [p,q,.dpt 184 n,.dpt 4 la]=>(match pOf p,pOf q with|some (a,_),some (b,_)=>some (okN n/\a.tg.len<=100/\b.tg.len<=100,.int .i64 (zk5 (zdK n a) (zdK n b) la.asProp))|_,_=>none)|_=>none
def zqE:Con:=λ| [p,q]=>(match pOf p,pOf q with|some (a,_),some (b,_)=>some (True,.int .i64 (zhL a.nm b.nm))|_,_=>none)|_=>none
open Classical in
def zqD:Con:=λ| [p,q,.dpt 181 e,.dpt 80 k]=>(match pOf p,pOf q with|some (_,i),some (_,j)=>some (e= .fn 222 [] []/\okK k,.int .i64 (if inB i/\inB j then zdN (zoK k i) (zoK k j) else 0))|_,_=>none)|_=>none
def zuA:D->Con:=λd=>λ| [p,q]=>(match pOf p,pOf q with|some (a,i),some (b,j)=>some (ztN d/\a.tg.len<=100/\b.tg.len<=100,.int .i64 (zby d a b i j))|_,_=>none)|_=>none
def zpl:Con:=λ| [p,q,.dpt 173 u,.dpt 142 c]=>(match pOf p,pOf q with|some (a,i),some (b,j)=>some (ztN u/\okC c/\a.tg.len<=100/\b.tg.len<=100,.int .i64 (orZ (zby u a b i j) (zjr c a.si b.si)))|_,_=>none)|_=>none
def zuN:D->Con:=λd=>λ| [p,q]=>(match pOf p,pOf q with|some (a,i),some (b,j)=>some (zug d/\a.tg.len<=100/\b.tg.len<=100,.int .i64 (zdh d a b i j))|_,_=>none)|_=>none
def zqG:Con:=λ| [p,q,.dpt 9 s,.dpt 173 t]=>(match pOf p,pOf q with|some (a,i),some (b,j)=>some (zug t/\a.tg.len<=100/\b.tg.len<=100,.int .i64 (zmX s.asStr t a b i j))|_,_=>none)|_=>none
def zyf:D->Con:=λd=>λ| [p,q]=>(match pOf p,pOf q with|some (a,i),some (b,j)=>some (okA d/\a.tg.len<=100/\b.tg.len<=100,.int .i64 (zoj d a b i j))|_,_=>none)|_=>none
def zmc:Con:=λ| [.agg [.int .u8 k,.str a,.prop la,.dat 29 nm,.int .i64 n]]=>some (True,.fnd 173 (zbY k a la nm n))|_=>none
def zmk:Con:=λ| [.str s,.fnd 173 t]=>some (True,.fnd 173 (zh8 s t))|_=>none
def zpX:Con:=λ| [.dat 22 c]=>some (c.len<=100,.dat 127 (.list (zaG c c.len)))|_=>none
def zpd:Con:=fun
 | [.dat 127 ts,p,q]=>(match pOf p,pOf q with
  |some (a,i),some (b,j)=>some ((ts.len<=100/\∀k,k<ts.len->okA (el ts k))/\a.tg.len<=100/\b.tg.len<=100,.tup [.int .i64 (zaM (λk=>zoj (el ts k) a b i j) ts.len 0).1,.int .i64 (zaM (λk=>zoj (el ts k) a b i j) ts.len 0).2])
  |_,_=>none)
 |_=>none
def cm0:FuncId->Option Con
 |103=>some zhb
 |114=>some zm4
 |185=>some zpE
 |45=>some zuh
 |_=>none
def cF1:TypeId->Option (D->Con)
 |227=>some zyO
 |184=>some zux
 |142=>some zyL
 |80=>some zyM
 |181=>some zxC
 |_=>none
def cF2:TypeId->Option (D->Con)
 |173=>some zuA
 |t=>cF1 t
def cF3:TypeId->Option (D->Con)
 |173=>some zuN
 |_=>none
def cF4:TypeId->Option (D->Con)
 |173=>some zyf
 |_=>none
def zvl (nm:D):FuncId->Nat->Option Ann
 |76,2=>some {τ:=Nat,slots:=λ_ _ x=> [(8,.int .i64 x)],blks:=λ_ _ _=> [],inv:=λS _ x=>x<=(slD S 0).len/\∀i,i<x->¬zbk nm (sAt (slD S 0) i),meas:=λS _ x=>(slD S 0).len-x}
 |_,_=>none
def zaC:FuncId->Nat->Option Ann
 |45,2=>some {τ:=Nat,slots:=λ_ _ x=> [(8,.int .i64 x)],blks:=λ_ _ _=> [],inv:=λS _ x=>x<=(slD S 0).len/\zbU (slD S 0) (slS S 1) ((slD S 0).len-x) x=idx (slD S 0) (slS S 1),meas:=λS _ x=>(slD S 0).len-x}
 |202,2=>some {τ:=Nat,slots:=λ_ _ x=> [(5,.int .i64 x)],blks:=λ_ _ _=> [],inv:=λS _ x=>x<=(slD S 0).len/\zbU (slD S 0) (slS S 1) ((slD S 0).len-x) x=idx (slD S 0) (slS S 1),meas:=λS _ x=>(slD S 0).len-x}
 |_,_=>none
def zbs (con:FuncId->Option Con) (cf:TypeId->Option (D->Con)) (ann:FuncId->Nat->Option Ann):Ctx:={ctx con ann with conF:=cf}
end
end Go.Ev

end

section
open Go.Proofs
namespace Go.Ev
noncomputable section
structure naP (k:Int) (nm:D) (n:Int) (g:GD):Prop where
 out:(k=4/\g.sd=n)\/(k=5/\g.ho)\/(k=7/\zbk nm g.ct)\/((k≠4/\k≠5/\k≠7)/\zok g.tg nm)
structure zb5 (k:Int) (la:Prop) (nm:D) (n:Int) (a b:GD) (i j:Int):Prop where
 out:(k=1/\idx nm a.rk<idx nm b.rk)\/(k=2/\a.si≠0/\(b.si=0\/a.si<b.si))\/(k=3/\a.si≠0/\(b.si=0\/b.si<a.si))\/(k=8/\sLt a.nm b.nm)\/(k=9/\inB i/\inB j/\i<j)\/
  (k=10/\inB i/\inB j/\znT i n<znT j n)\/((k≠1/\k≠2/\k≠3/\k≠8/\k≠9/\k≠10)/\((la/\¬naP k nm n a/\naP k nm n b)\/(¬la/\naP k nm n a/\¬naP k nm n b)))
open Classical in
def clZ (k:Int) (s:List UInt8) (la:Prop) (nm:D) (n:Int) (a b:GD) (i j:Int):Int:=
 if s≠ []/\(a.rk≠s\/b.rk≠s) then 0 else if zb5 k la nm n a b i j then-1 else if zb5 k la nm n b a j i then 1 else 0
def clE (c:D) (a b:GD) (i j:Int) (x:Nat):Int:=clZ (cK (el c x)) (cA (el c x)) (cL (el c x)) (cNm (el c x)) (cN (el c x)) a b i j
def zcJ (l:D) (n:Nat):List D:=(List.range n).map λi=> .str (sAt l i)
def zeb (l:D):D:=zba (zcJ l l.len)
def zcq (g:GD):GD:={g with tg:=zeb g.tg}
structure zdg (a b:GD):Prop where
 out:a.nm=b.nm/\a.rk=b.rk/\a.ct=b.ct/\a.si=b.si/\a.sd=b.sd/\a.di=b.di/\(a.ho↔b.ho)/\(a.ac↔b.ac)/\eqS a.tg b.tg
structure zwP (l:D):Prop where
 out:∀i,i<l.len->(sAt l i).length<=40
structure znf (d:D):Prop where
 out:max (max ((d.fld 0).asStr.length:Int) (d.fld 1).asStr.length) (d.fld 2).asStr.length<=40/\(d.fld 8).len<=10/\zwP (d.fld 8)
structure zfQ (l:D) (n:Int):Prop where
 out:(l.len:Int)<=n/\∀i,i<l.len->znf (el l i)
def gD (g:GD):D:= .sct [.str g.nm,.str g.rk,.str g.ct,.int g.si,.int g.sd,.str g.di,.bool g.ho,.bool g.ac,g.tg]
def zjJ:Con:=λ| [.dat 22 c]=>some (zan c,.prop ((zaK c).2=0))|_=>none
def zkh:Con:=fun
 | [.agg [.int .u8 k,.str _,.prop _,.dat 29 nm,.int .i64 n],q]=>(match gOf q with|some g=>some (nm.len<=100/\g.tg.len<=100,.prop (naP k nm n g))|none=>none)
 |_=>none
def zoR:Con:=fun
 | [.agg [.int .u8 k,.str _,.prop la,.dat 29 nm,.int .i64 n],p,q,.int .i64 i,.int .i64 j]=>(match gOf p,gOf q with
  |some a,some b=>some (nm.len<=100/\a.tg.len<=100/\b.tg.len<=100/\(k=10->0<=n/\n<=63),.prop (zb5 k la nm n a b i j))
  |_,_=>none)
 |_=>none
def zjG:Con:=fun
 | [.dat 22 c,p,q,.int .i64 i,.int .i64 j]=>(match gOf p,gOf q with
  |some a,some b=>some ((zan c/\(zaK c).2=0)/\a.tg.len<=100/\b.tg.len<=100,.tup [.int .i64 (zaM (clE c a b i j) c.len 0).1,.int .i64 (zaM (clE c a b i j) c.len 0).2])
  |_,_=>none)
 |_=>none
def zql:Con:=λ| [.dat 29 l]=>some (l.len<=8796093022208,.dat 29 (zeb l))|_=>none
def zmi:Con:=λ| [p]=>(match gOf p with|some g=>some (g.tg.len<=8796093022208,gV (zcq g))|none=>none)|_=>none
def zrk:Con:=λ| [.dat 29 a,.dat 29 b]=>some (a.len<=8796093022208,.prop (eqS a b))|_=>none
def zmn:Con:=λ| [p,q]=>(match gOf p,gOf q with|some a,some b=>some (a.tg.len<=8796093022208,.prop (zdg a b))|_,_=>none)|_=>none
def zvo:Con:=fun
 | [.agg [.str nm,.str rk,.str ct,.int .i64 si,.int .i64 sd,.str di,.prop ho,.prop ac,.dat 29 tg]]=>some (True,.prop (¬znf (.sct [.str nm,.str rk,.str ct,.int si,.int sd,.str di,.bool ho,.bool ac,tg])))
 |_=>none
def cn0:FuncId->Option Con
 |143=>some zmc
 |142=>some zmk
 |g=>cc4 g
def cn1:FuncId->Option Con
 |143=>some zmc
 |142=>some zmk
 |93=>some zpX
 |92=>some zpd
 |91=>some zjJ
 |63=>some zjJ
 |202=>some zq3
 |153=>some zql
 |157=>some zrk
 |205=>some zkh
 |g=>cc4 g
def cn2:FuncId->Option Con
 |156=>some zoR
 |116=>some zmi
 |125=>some zmn
 |58=>some zvo
 |g=>cn1 g
def zb0:FuncId->Nat->Option Ann
 |93,3=>some {τ:=Nat,slots:=λ_ _ x=> [(11,.int .i64 x)],blks:=λS _ x=> [(0,.arr 173 (zaG (slD S 0) x++List.replicate ((slD S 0).len-x) .nil))],inv:=λS _ x=>x<=(slD S 0).len,meas:=λS _ x=>(slD S 0).len-x}
 |157,4=>some {τ:=Nat,slots:=λ_ _ x=> [(5,.int .i64 x)],blks:=λ_ _ _=> [],inv:=λS _ x=>x<=(slD S 0).len/\∀i,i<x->sAt (slD S 0) i=sAt (slD S 1) i,meas:=λS _ x=>(slD S 0).len-x}
 |153,3=>some {hs:=2,τ:=Nat,slots:=λ_ i x=>match i with|0=> [(4,.int .i64 0),(3,.val (.slice none 0 0))]|_=> [(4,.int .i64 x),(3,.slc 60 (.lit 0) (.sym x) none)],blks:=λS i x=>match i with|0=> []|_=> [(60,.arr 9 (zcJ (slD S 0) x))],inv:=λS i x=>match i with|0=>x=0|_=>0<x/\x<=(slD S 0).len,meas:=λS _ x=>(slD S 0).len-x}
 |41,2=>some {τ:=Nat,slots:=λ_ _ x=> [(8,.int .i64 x)],blks:=λ_ _ _=> [],inv:=λS _ x=>x<=(slD S 0).len/\∀i,i<x->znf (el (slD S 0) i),meas:=λS _ x=>(slD S 0).len-x}
 |76,2=>some {τ:=Nat,slots:=λ_ _ x=> [(8,.int .i64 x)],blks:=λ_ _ _=> [],inv:=λS _ x=>x<=(slD S 0).len/\∀i,i<x->(sAt (slD S 0) i).length<=40,meas:=λS _ x=>(slD S 0).len-x}
 |_,_=>none
def zh0 (f:Nat->Int):FuncId->Nat->Option Ann
 |92,2=>some {τ:=Nat,slots:=λ_ _ x=> [(13,.int .i64 x)],blks:=λ_ _ _=> [],inv:=λS _ x=>x<=(slD S 0).len/\zaM f ((slD S 0).len-x) x=zaM f (slD S 0).len 0,meas:=λS _ x=>(slD S 0).len-x}
 |121,2=>some {τ:=Nat,slots:=λ_ _ x=> [(12,.int .i64 x)],blks:=λ_ _ _=> [],inv:=λS _ x=>x<=(slD S 0).len/\zaM f ((slD S 0).len-x) x=zaM f (slD S 0).len 0,meas:=λS _ x=>(slD S 0).len-x}
 |_,_=>none
def zoV (nm tg:D):FuncId->Nat->Option Ann
 |205,9=>some {τ:=Nat,slots:=λ_ _ x=> [(5,.int .i64 x)],blks:=λ_ _ _=> [],inv:=λ_ _ x=>x<=tg.len/\∀i,i<x->¬zbk nm (sAt tg i),meas:=λ_ _ x=>tg.len-x}
 |_,_=>none
end
end Go.Ev

end

section
open Go.Proofs
namespace Go.Ev
noncomputable section
def zy9:List UInt8:= [97,98,99,100]
def zv2 (k:Int):List UInt8:=List.take (Int.toNat (1:Int)-0) (List.drop 0 (List.take (zy9.length-k.toNat) (List.drop k.toNat zy9)))
def zxe (a k:Int):Int:=zhp (zsM .u8 a k) 3
open Classical in
def pRk (pa:Int):List UInt8:=if zhp pa 4=0 then [] else zv2 (zxe pa 3)
open Classical in
def pCt (pb:Int):List UInt8:=if zhp pb 4=0 then [] else zv2 (zxe pb 3)
open Classical in
def pDi (pa pb:Int):List UInt8:=if zhp pa 128=0 then [] else zv2 (zxe pb 4)
def nrm:V->V
 | .val (.int k n)=> .int k n
 | .val (.bool b)=> .prop (zh4 b)
 | .val (.string b)=> .str b.data.toList
 |v=>v
def bxs (S:SS) (b:Nat):List V:=match S.hp.get b with|some (.box _ l)=>l.map nrm|_=> []
def zyq:FuncId->Nat->List (Tmp×Nat×TypeId)
 |90,7=> [(5,8,29)]
 |_,_=> []
def slB (S:SS) (t:Tmp):Nat:=match S.fr.get t with|some (.ptr b _)=>b|_=>0
def zdS (S:SS) (t:Tmp):List D:=match S.fr.get t with|some (.slc b _ _ _)=>bkL S b|_=> []
def zrw (S:SS) (t:Tmp):Nat:=match S.fr.get t with|some (.slc b _ _ _)=>b|_=>0
def gAt (d:D):GD:=⟨(d.fld 0).asStr,cA d,(d.fld 2).asStr,(cNm d).asInt,cN d,(d.fld 5).asStr,(d.fld 6).asProp,(d.fld (Nat.succ 6)).asProp,d.fld (Nat.succ 6).succ⟩
def zwN:FuncId->Nat->Option Ann
 |90,4=>some {τ:=Unit,slots:=λ_ _ _=> [],blks:=λS _ _=> [(2,.box 53 ((bxs S 2).set 1 (.str (pRk (bkI S 0 0)))))],inv:=λ_ _ _=>True,meas:=λ_ _ _=>0}
 |90,6=>some {τ:=Unit,slots:=λ_ _ _=> [],blks:=λS _ _=> [(2,.box 53 ((bxs S 2).set 2 (.str (pCt (bkI S 0 1)))))],inv:=λ_ _ _=>True,meas:=λ_ _ _=>0}
 |90,8=>some {hs:=2,τ:=Unit,slots:=λ_ _ _=> [],blks:=λS i _=>match i with|0=> [(2,.box 53 ((bxs S 2).set 8 (.val (.slice none 0 0))))]|_=> [(2,.box 53 ((bxs S 2).set 8 (.dat 29 (.list [.str (zv2 (zxe (bkI S 0 0) 4))]))))],inv:=λS i _=>match i with|0=>zhp (bkI S 0 1) 64=0|_=>zhp (bkI S 0 1) 64≠0,meas:=λ_ _ _=>0}
 |90,10=>some {τ:=Unit,slots:=λ_ _ _=> [],blks:=λS _ _=> [(2,.box 53 ((bxs S 2).set 5 (.str (pDi (bkI S 0 0) (bkI S 0 1)))))],inv:=λ_ _ _=>True,meas:=λ_ _ _=>0}
 |29,10=>some {hs:=2,τ:=Unit,slots:=λS i _=>match i with|0=> [(8,.slc (zrw S 8) (.lit 0) (.lit 1) (some (.lit 1)))]|_=> [(8,.slc 70 (.lit 0) (.lit 2) none)],blks:=λS i _=>match i with|0=> [(zrw S 8,.arr 9 (zdS S 8))]|_=> [(70,.arr 9 (zdS S 8++ [.str (zv2 ((IntKind.u8.wrap (bkI S (slB S 6) 2+1)).tmod 4))]))],inv:=λS i _=>match i with|0=>zhp (bkI S (slB S 6) 2) 4=0|_=>zhp (bkI S (slB S 6) 2) 4≠0,meas:=λ_ _ _=>0}
 |_,_=>none
def zAp (con:FuncId->Option Con) (ann:FuncId->Nat->Option Ann):Ctx:={ctx con ann with join:=zwN,frz:=zyq}
instance (con:FuncId->Option Con) (ann:FuncId->Nat->Option Ann):Nonempty (NoF (zAp con ann)):=⟨⟨λ_ _ h=>zd9 h⟩⟩
end
end Go.Ev

end

section
namespace Go.Ev
noncomputable section
structure wkP {α:Type} (A:α->Prop) (f:α->α->Int):Prop where
 rng:∀a b,f a b= -1\/f a b=0\/f a b=1
 anti:∀a b,A a->A b->f b a= -f a b
 tri:∀a b c,A a->A b->A c->f a b<=0->f b c<=0->f a c=min (f a b) (f b c)
open Classical in
def zew {α:Type} (r:α->α->Prop) (a b:α):Int:=if r a b then-1 else if r b a then 1 else 0
theorem ztz {α:Type} {A:α->Prop} {r:α->α->Prop} (has:∀a b,A a->A b->r a b->¬r b a) (hct:∀a b c,A a->A b->A c->r a b->r a c\/r c b):wkP A (zew r):=by
 have key:∀a b,A a->A b->(zew r a b= -1↔r a b)/\(zew r a b=1↔r b a):=λa b ha hb=>by
  unfold zew
  by_cases h:r a b
  .rw [if_pos h];exact ⟨⟨λ_=>h,λ_=>rfl⟩,⟨λh'=>by omega,λh'=>absurd h' (has a b ha hb h)⟩⟩
  .rw [if_neg h]
   by_cases h':r b a
   .rw [if_pos h'];exact ⟨⟨λk=>by omega,λk=>absurd k h⟩,⟨λ_=>h',λ_=>rfl⟩⟩
   .rw [if_neg h'];exact ⟨⟨λk=>by omega,λk=>absurd k h⟩,⟨λk=>by omega,λk=>absurd k h'⟩⟩
 have rng:∀a b,zew r a b= -1\/zew r a b=0\/zew r a b=1:=λa b=>by
  unfold zew
  by_cases h:r a b
  .rw [if_pos h];exact .inl rfl
  .rw [if_neg h]
   by_cases h':r b a
   .rw [if_pos h'];exact .inr (.inr rfl)
   .rw [if_neg h'];exact .inr (.inl rfl)
 refine ⟨rng,λa b ha hb=> ?_,λa b c ha hb hc h1 h2=> ?_⟩
 .have k1:=key a b ha hb
  have k2:=key b a hb ha
  rcases rng a b with h|h|h
  .rw [h,k2.2.2 (k1.1.1 h)];rfl
  .rcases rng b a with h'|h'|h'
   .have:=k1.2.2 (k2.1.1 h');omega
   .omega
   .have:=k1.1.2 (k2.2.1 h');omega
  .rw [h,k2.1.2 (k1.2.1 h)]
 .have k1:=key a b ha hb
  have k2:=key b c hb hc
  have k3:=key a c ha hc
  have n1:¬r b a:=λh=>by have:=k1.2.2 h;omega
  have n2:¬r c b:=λh=>by have:=k2.2.2 h;omega
  have n3:¬r c a:=λh=>(hct c a b hc ha hb h).elim n2 n1
  have e3:zew r a c≠1:=λh=>n3 (k3.2.1 h)
  have r1:=rng a b
  have r2:=rng b c
  have r3:=rng a c
  by_cases p:r a b
  .have x1:=k1.1.2 p
   have:r a c:=(hct a b c ha hb hc p).elim id λh=>absurd h n2
   have:=k3.1.2 this;omega
  .by_cases q:r b c
   .have x2:=k2.1.2 q
    have:r a c:=(hct b c a hb hc ha q).elim (λh=>absurd h n1) id
    have:=k3.1.2 this;omega
   .have x1:zew r a b≠ -1:=λh=>p (k1.1.1 h)
    have x2:zew r b c≠ -1:=λh=>q (k2.1.1 h)
    have x3:zew r a c≠ -1:=λh=>(hct a c b ha hc hb (k3.1.1 h)).elim p q
    omega
def zhC (f:Nat->Int):Nat->Int
 |0=>0
 |n+1=>if zhC f n≠0 then zhC f n else f n
theorem zpc (f:Nat->Int):∀m,(zaM f m 0).2=zhC f m:=by
 have step:∀m i,(zaM f (m+1) i).2=if (zaM f m i).2≠0 then (zaM f m i).2 else f (i+m):=by
  intro m
  induction m with
  |zero=>
   intro i
   unfold zaM
   by_cases h:f i≠0
   .rw [if_pos h];simp [zaM]
   .rw [if_neg h];simp only [zaM,ne_eq,not_true_eq_false,if_false,Nat.add_zero];omega
  |succ m ih=>
   intro i
   have e:zaM f (m+1+1) i=if f i≠0 then (((i:Nat):Int),f i) else zaM f (m+1) (i+1):=rfl
   have e':zaM f (m+1) i=if f i≠0 then (((i:Nat):Int),f i) else zaM f m (i+1):=rfl
   rw [e,e']
   by_cases h:f i≠0
   .rw [if_pos h,if_pos h];simp only [if_pos h]
   .rw [if_neg h,if_neg h,ih (i+1),show i+1+m=i+(m+1) by omega]
 intro m
 induction m with
 |zero=>rfl
 |succ m ih=>rw [step m 0,ih,Nat.zero_add];rfl
theorem zmd {f:Nat->Int}:∀{n:Nat},zhC f n=0->∀k,k<n->f k=0
 |0,_,k,hk=>absurd hk (Nat.not_lt_zero _)
 |n+1,h,k,hk=>by
  unfold zhC at h
  by_cases h0:zhC f n≠0
  .rw [if_pos h0] at h;exact absurd h h0
  .rw [if_neg h0] at h
   have h0:zhC f n=0:=by omega
   by_cases e:k=n
   .subst e;exact h
   .exact zmd h0 k (by omega)
theorem zw1 {α:Type} {A:α->Prop} {f:α->α->Nat->Int} {n:Nat} (hr:∀k,k<n->∀a b,f a b k= -1\/f a b k=0\/f a b k=1) (ha:∀k,k<n->∀a b,A a->A b->f b a k= -f a b k)
  (ht:∀k,k<n->∀a b c,A a->A b->A c->zhC (f a b) k=0->zhC (f b c) k=0->f a b k<=0->f b c k<=0->f a c k=min (f a b k) (f b c k)):wkP A (λa b=>zhC (f a b) n):=by
 induction n with
 |zero=>exact ⟨λ_ _=> .inr (.inl rfl),λ_ _ _ _=>rfl,λ_ _ _ _ _ _ _ _=>rfl⟩
 |succ n ih=>
  have ih:=ih (λk hk=>hr k (by omega)) (λk hk=>ha k (by omega)) (λk hk=>ht k (by omega))
  have e:∀a b,zhC (f a b) (n+1)=if zhC (f a b) n≠0 then zhC (f a b) n else f a b n:=λ_ _=>rfl
  refine ⟨λa b=> ?_,λa b h1 h2=> ?_,λa b c h1 h2 h3 h4 h5=> ?_⟩
  .rw [e];split
   .exact ih.rng a b
   .exact hr n (by omega) a b
  .have:=ih.anti a b h1 h2
   have:=ha n (by omega) a b h1 h2
   simp only [e]
   split<;>split<;>omega
  .have t:=ih.tri a b c h1 h2 h3
   have:=ih.rng a b
   have:=ih.rng b c
   have:=hr n (by omega) a b
   have:=hr n (by omega) b c
   have:=hr n (by omega) a c
   simp only [e] at h4 h5⊢
   by_cases p:zhC (f a b) n=0
   .by_cases q:zhC (f b c) n=0
    .rw [if_neg (by omega)] at h4 h5
     have t:=t (by omega) (by omega)
     rw [p,q] at t
     have t:zhC (f a c) n=0:=t
     rw [if_neg (by omega),if_neg (by omega),if_neg (by omega)]
     exact ht n (by omega) a b c h1 h2 h3 p q h4 h5
    .rw [if_neg (by omega)] at h4
     rw [if_pos q] at h5
     have t:=t (by omega) (by omega)
     rw [if_pos (by omega),if_neg (by omega),if_pos q];omega
   .rw [if_pos p] at h4
    by_cases q:zhC (f b c) n=0
    .rw [if_neg (by omega)] at h5
     have t:=t (by omega) (by omega)
     rw [if_pos (by omega),if_pos p,if_neg (by omega)];omega
    .rw [if_pos q] at h5
     have t:=t (by omega) (by omega)
     rw [if_pos (by omega),if_pos p,if_pos q];omega
end
end Go.Ev

end

section
namespace Go.Ev
noncomputable section
theorem zfP:∀(x y z:List UInt8),Op.bytesLess x y=true->Op.bytesLess y z=true->Op.bytesLess x z=true
 | [],[],_,h,_=>by simp [Op.bytesLess] at h
 |a::x,[],_,h,_=>by simp [Op.bytesLess] at h
 |_,b::y,[],_,h=>by simp [Op.bytesLess] at h
 | [],b::y,c::z,_,_=>rfl
 |a::x,b::y,c::z,h1,h2=>by
  unfold Op.bytesLess at h1 h2⊢
  simp only [Bool.or_eq_true,Bool.and_eq_true,decide_eq_true_eq,beq_iff_eq] at h1 h2⊢
  rcases h1 with h1| ⟨rfl,h1⟩
  .rcases h2 with h2| ⟨rfl,h2⟩
   .have h1:=UInt8.lt_iff_toNat_lt.1 h1
    have h2:=UInt8.lt_iff_toNat_lt.1 h2
    exact .inl (UInt8.lt_iff_toNat_lt.2 (by omega))
   .exact .inl h1
  .rcases h2 with h2| ⟨rfl,h2⟩
   .exact .inl h2
   .exact .inr ⟨rfl,zfP x y z h1 h2⟩
theorem zhQ:∀(x y:List UInt8),Op.bytesLess x y=true\/x=y\/Op.bytesLess y x=true
 | [],[]=> .inr (.inl rfl)
 | [],b::y=> .inl rfl
 |a::x,[]=> .inr (.inr rfl)
 |a::x,b::y=>by
  unfold Op.bytesLess
  simp only [Bool.or_eq_true,Bool.and_eq_true,decide_eq_true_eq,beq_iff_eq]
  by_cases e:a=b
  .subst e
   rcases zhQ x y with h|rfl|h
   .exact .inl (.inr ⟨rfl,h⟩)
   .exact .inr (.inl rfl)
   .exact .inr (.inr (.inr ⟨rfl,h⟩))
  .have h2:a.toNat≠b.toNat:=λk=>e (UInt8.toNat_inj.1 k)
   by_cases h:a.toNat<b.toNat
   .exact .inl (.inl (UInt8.lt_iff_toNat_lt.2 h))
   .exact .inr (.inr (.inl (UInt8.lt_iff_toNat_lt.2 (by omega))))
theorem zmV:∀(x:List UInt8),¬Op.bytesLess x x=true
 | [],h=>by simp [Op.bytesLess] at h
 |a::x,h=>by
  unfold Op.bytesLess at h
  simp only [Bool.or_eq_true,Bool.and_eq_true,decide_eq_true_eq,beq_iff_eq] at h
  rcases h with h| ⟨_,h⟩
  .have h:=UInt8.lt_iff_toNat_lt.1 h;omega
  .exact zmV x h
theorem zv3 {x y:List UInt8} (h:sLt x y):¬sLt y x:=λh'=>zmV x (zfP x y x h.out h'.out)
theorem zwd {x y:List UInt8} (z:List UInt8) (h:sLt x y):sLt x z\/sLt z y:=by
 rcases zhQ x z with h'|rfl|h'
 .exact .inl ⟨h'⟩
 .exact .inr h
 .exact .inr ⟨zfP z x y h' h.out⟩
theorem ztH {k:Int} {la:Prop} {nm:D} {n:Int} {a b:GD} {i j:Int} (h:zb5 k la nm n a b i j):¬zb5 k la nm n b a j i:=λh'=>by
 rcases h.out with h|h|h|h|h|h|h<;>rcases h'.out with g|g|g|g|g|g|g<;>try omega
 .exact zv3 h.2 g.2
 .rcases h.2 with h|h<;>rcases g.2 with g|g
  .exact h.2.1 g.2.2
  .exact g.1 h.1
  .exact h.1 g.1
  .exact h.2.2 g.2.1
theorem ztJ {k:Int} {la:Prop} {nm:D} {n:Int} {a b:GD} {i j:Int} (c:GD) {m:Int} (hm:inB m) (h:zb5 k la nm n a b i j):zb5 k la nm n a c i m\/zb5 k la nm n c b m j:=by
 rcases h.out with ⟨rfl,g⟩| ⟨rfl,g⟩| ⟨rfl,g⟩| ⟨rfl,g⟩| ⟨rfl,h1,h2,g⟩| ⟨rfl,h1,h2,g⟩| ⟨hk,g⟩
 .by_cases e:idx nm a.rk<idx nm c.rk
  .exact .inl ⟨.inl ⟨rfl,e⟩⟩
  .exact .inr ⟨.inl ⟨rfl,by omega⟩⟩
 .by_cases e:a.si≠0/\(c.si=0\/a.si<c.si)
  .exact .inl ⟨.inr (.inl ⟨rfl,e⟩)⟩
  .exact .inr ⟨.inr (.inl ⟨rfl,by omega⟩)⟩
 .by_cases e:a.si≠0/\(c.si=0\/c.si<a.si)
  .exact .inl ⟨.inr (.inr (.inl ⟨rfl,e⟩))⟩
  .exact .inr ⟨.inr (.inr (.inl ⟨rfl,by omega⟩))⟩
 .rcases zwd c.nm g with h|h
  .exact .inl ⟨.inr (.inr (.inr (.inl ⟨rfl,h⟩)))⟩
  .exact .inr ⟨.inr (.inr (.inr (.inl ⟨rfl,h⟩)))⟩
 .by_cases e:i<m
  .exact .inl ⟨.inr (.inr (.inr (.inr (.inl ⟨rfl,h1,hm,e⟩))))⟩
  .exact .inr ⟨.inr (.inr (.inr (.inr (.inl ⟨rfl,hm,h2,by omega⟩))))⟩
 .by_cases e:znT i n<znT m n
  .exact .inl ⟨.inr (.inr (.inr (.inr (.inr (.inl ⟨rfl,h1,hm,e⟩)))))⟩
  .exact .inr ⟨.inr (.inr (.inr (.inr (.inr (.inl ⟨rfl,hm,h2,by omega⟩)))))⟩
 .by_cases e:naP k nm n c
  .rcases g with ⟨hl,h⟩| ⟨hl,h⟩
   .exact .inl ⟨.inr (.inr (.inr (.inr (.inr (.inr ⟨hk,.inl ⟨hl,h.1,e⟩⟩)))))⟩
   .exact .inr ⟨.inr (.inr (.inr (.inr (.inr (.inr ⟨hk,.inr ⟨hl,e,h.2⟩⟩)))))⟩
  .rcases g with ⟨hl,h⟩| ⟨hl,h⟩
   .exact .inr ⟨.inr (.inr (.inr (.inr (.inr (.inr ⟨hk,.inl ⟨hl,e,h.2⟩⟩)))))⟩
   .exact .inl ⟨.inr (.inr (.inr (.inr (.inr (.inr ⟨hk,.inr ⟨hl,h.1,e⟩⟩)))))⟩
theorem zqC {l:D} {s t:List UInt8} (h:zbk l s) (e:idx l s=idx l t):t=s:=by
 have gen:∀(f i:Nat),i+f=l.len->(zbU l s f i<l.len->sAt l (zbU l s f i)=s):=by
  intro f
  induction f with
  |zero=>intro i hi h;unfold zbU at h;omega
  |succ f ih=>
   intro i hi h
   unfold zbU at h⊢
   by_cases c:sAt l i=s
   .rw [if_pos c];exact c
   .rw [if_neg c] at h⊢;exact ih (i+1) (by omega) h
 have gen':∀(f i:Nat),i+f=l.len->(zbU l t f i<l.len->sAt l (zbU l t f i)=t):=by
  intro f
  induction f with
  |zero=>intro i hi h;unfold zbU at h;omega
  |succ f ih=>
   intro i hi h
   unfold zbU at h⊢
   by_cases c:sAt l i=t
   .rw [if_pos c];exact c
   .rw [if_neg c] at h⊢;exact ih (i+1) (by omega) h
 have lt:∀(f i:Nat),i+f=l.len->(∃x,i<=x/\x<l.len/\sAt l x=s)->zbU l s f i<l.len:=by
  intro f
  induction f with
  |zero=>rintro i hi ⟨x,h1,h2,_⟩;omega
  |succ f ih=>
   rintro i hi ⟨x,h1,h2,h3⟩
   unfold zbU
   by_cases c:sAt l i=s
   .rw [if_pos c];omega
   .rw [if_neg c]
    refine ih (i+1) (by omega) ⟨x, ?_,h2,h3⟩
    by_cases e:x=i
    .exact absurd (e▸h3) c
    .omega
 obtain ⟨x,hx,hs⟩:=h.out
 have h1:=lt l.len 0 (Nat.zero_add _) ⟨x,Nat.zero_le _,hx,hs⟩
 have h2:=gen l.len 0 (Nat.zero_add _) h1
 have h3:=gen' l.len 0 (Nat.zero_add _) (by show idx l t<l.len;rw [<-e];exact h1)
 rw [<-h2,<-h3]
 show sAt l (idx l t)=sAt l (idx l s)
 rw [e]
theorem zfe {c:D} {a b:GD} {i j:Int} {x:Nat}:clE c a b i j x=if cA (el c x)≠ []/\(a.rk≠cA (el c x)\/b.rk≠cA (el c x)) then 0 else zew (λp q:GD×Int=>zb5 (cK (el c x)) (cL (el c x)) (cNm (el c x)) (cN (el c x)) p.1 q.1 p.2 q.2) (a,i) (b,j):=rfl
theorem zjB {c:D} (h:(zaK c).2=0):∀x,x<c.len->zdI c x=0:=by
 unfold zaK at h
 by_cases hl:32<c.len
 .rw [if_pos hl] at h;cases h
 .rw [if_neg hl] at h
  have gen:∀(f i:Nat),i+f=c.len->(zbr c f i).2=0->∀x,i<=x->x<c.len->zdI c x=0:=by
   intro f
   induction f with
   |zero=>intro i hi _ x h1 h2;omega
   |succ f ih=>
    intro i hi h x h1 h2
    unfold zbr at h
    by_cases e:zdI c i≠0
    .rw [if_pos e] at h;exact absurd h e
    .rw [if_neg e] at h
     by_cases k:x=i
     .subst k;exact Classical.byContradiction e
     .exact ih (i+1) (by omega) h x (by omega) h2
  exact λx hx=>gen c.len 0 (Nat.zero_add _) h x (Nat.zero_le _) hx
theorem zjP {c:D} {x:Nat} (h:zdI c x=0):zay (cK (el c x)) (cA (el c x)) (cL (el c x)) (cNm (el c x)).len (cN (el c x))/\(cA (el c x)= []\/zaO c x (cA (el c x))):=by
 unfold zdI zcH at h
 by_cases h1:zay (cK (el c x)) (cA (el c x)) (cL (el c x)) (cNm (el c x)).len (cN (el c x))
 .refine ⟨h1, ?_⟩
  rw [if_neg (λk=>k h1)] at h
  by_cases h2:zhE (cNm (el c x))\/(cA (el c x)≠ []/\¬zaI (cA (el c x)))
  .rw [if_pos h2] at h;cases h
  .rw [if_neg h2] at h
   by_cases h3:zbD (cNm (el c x))
   .rw [if_pos h3] at h;cases h
   .rw [if_neg h3] at h
    by_cases h4:cA (el c x)≠ []/\¬zaO c x (cA (el c x))
    .rw [if_pos h4] at h;cases h
    .by_cases e:cA (el c x)= []
     .exact .inl e
     .exact .inr (Classical.byContradiction λk=>h4 ⟨e,k⟩)
 .rw [if_pos h1] at h;cases h
theorem zmp {c:D} (hv:(zaK c).2=0) {x:Nat} (hx:x<c.len) (hne:cA (el c x)≠ []) {a b:GD} {i j:Int} (h:zhC (clE c a b i j) x=0):a.rk=cA (el c x)↔b.rk=cA (el c x):=by
 obtain ⟨k,hk,h1,h2⟩:=((zjP (zjB hv x hx)).2.resolve_left hne).out
 have hf:=(zjP (zjB hv k (by omega))).1
 have ha:cA (el c k)= []:=by rcases hf.out with f|f|f|f|f|f<;>first|exact f.2.2.2.2.2|omega
 have h0:=zmd h k hk
 rw [zfe,if_neg (λq=>q.1 ha)] at h0
 unfold zew at h0
 have n1:¬idx (cNm (el c k)) a.rk<idx (cNm (el c k)) b.rk:=λq=>by
  rw [if_pos ⟨.inl ⟨h1,q⟩⟩] at h0;cases h0
 have n2:¬idx (cNm (el c k)) b.rk<idx (cNm (el c k)) a.rk:=λq=>by
  rw [if_neg (λz=>n1 (by rcases z.out with z|z|z|z|z|z|z<;>first|exact z.2|omega)),if_pos ⟨.inl ⟨h1,q⟩⟩] at h0;cases h0
 have e:idx (cNm (el c k)) a.rk=idx (cNm (el c k)) b.rk:=by omega
 constructor
 .intro q;exact zqC h2 (by rw [<-q];exact e)
 .intro q;exact zqC h2 (by rw [<-q];exact e.symm)
def zwl (c:D) (p q:GD×Int):Int:=zhC (clE c p.1 q.1 p.2 q.2) c.len
theorem zne {c:D} (hv:(zaK c).2=0):wkP (λp:GD×Int=>inB p.2) (zwl c):=by
 have hb:∀x,wkP (λp:GD×Int=>inB p.2) (zew (λp q:GD×Int=>zb5 (cK (el c x)) (cL (el c x)) (cNm (el c x)) (cN (el c x)) p.1 q.1 p.2 q.2)):=λx=>
  ztz (λa b _ _ h=>ztH h) (λa b d _ _ hd h=>ztJ d.1 hd h)
 refine zw1 (f:=λ(p q:GD×Int)=>clE c p.1 q.1 p.2 q.2) (λk _ a b=> ?_) (λk _ a b h1 h2=> ?_) (λk hk a b d h1 h2 h3 t1 t2 l1 l2=> ?_)
 .rw [zfe];split
  .exact .inr (.inl rfl)
  .exact (hb k).rng _ _
 .rw [zfe,zfe]
  by_cases q:cA (el c k)≠ []/\(a.1.rk≠cA (el c k)\/b.1.rk≠cA (el c k))
  .rw [if_pos q,if_pos ⟨q.1,q.2.symm⟩];rfl
  .rw [if_neg q,if_neg (λz=>q ⟨z.1,z.2.symm⟩)];exact (hb k).anti _ _ h1 h2
 .rw [zfe] at l1 l2⊢
  rw [zfe,zfe]
  by_cases e:cA (el c k)= []
  .have n:∀p:Prop,¬(cA (el c k)≠ []/\p):=λ_ q=>q.1 e
   rw [if_neg (n _)] at l1 l2⊢
   rw [if_neg (n _),if_neg (n _)]
   exact (hb k).tri _ _ _ h1 h2 h3 l1 l2
  .have r1:=zmp hv hk e t1
   have r2:=zmp hv hk e t2
   by_cases q:a.1.rk=cA (el c k)
   .have q2:=r1.1 q
    have q3:=r2.1 q2
    rw [if_neg (λz=>z.2.elim (λz=>z q) (λz=>z q2))] at l1
    rw [if_neg (λz=>z.2.elim (λz=>z q2) (λz=>z q3))] at l2
    rw [if_neg (λz=>z.2.elim (λz=>z q) (λz=>z q3)),if_neg (λz=>z.2.elim (λz=>z q) (λz=>z q2)),if_neg (λz=>z.2.elim (λz=>z q2) (λz=>z q3))]
    exact (hb k).tri _ _ _ h1 h2 h3 l1 l2
   .have q2:b.1.rk≠cA (el c k):=λz=>q (r1.2 z)
    rw [if_pos ⟨e,.inl q⟩,if_pos ⟨e,.inl q⟩,if_pos ⟨e,.inl q2⟩];rfl
end
end Go.Ev

end
