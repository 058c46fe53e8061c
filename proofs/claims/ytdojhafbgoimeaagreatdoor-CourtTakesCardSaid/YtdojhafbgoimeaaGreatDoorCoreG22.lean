/- Part of the proof. -/
import Derived.Test.YtdojhafbgoimeaaGreatDoorCoreKit
import Derived.Test.YtdojhafbgoimeaaGreatDoorProg
import Derived.Test.YtdojhafbgoimeaaGreatDoorCoreG0
import Derived.Test.YtdojhafbgoimeaaGreatDoorCoreSeC

section
open Go.Proofs
namespace Go.Ev
noncomputable section
def el (l:D) (i:Nat):D:=zad l.asList i
def sAt (l:D) (i:Nat):List UInt8:=(zad l.asList i).asStr
def cK (d:D):Int:=(d.fld 0).asInt
def cA (d:D):List UInt8:=(d.fld 1).asStr
def cL (d:D):Prop:=(d.fld 2).asProp
def cNm (d:D):D:=d.fld 3
def cN (d:D):Int:=(d.fld 4).asInt
structure zaY (s:List UInt8):Prop where
 out:1<=s.length/\s.length<=12/\∀i,i<s.length->97<=zap s i/\zap s i<=122
structure zbG (l:D) (s:List UInt8):Prop where
 out:∃i,i<l.len/\sAt l i=s
structure zfP (l:D):Prop where
 out:∃i,i<l.len/\¬zaY (sAt l i)
structure zbi (l:D):Prop where
 out:∃i k,k<i/\i<l.len/\sAt l k=sAt l i
structure zaP (c:D) (n:Nat) (s:List UInt8):Prop where
 out:∃k,k<n/\cK (el c k)=1/\zbG (cNm (el c k)) s
structure eqS (a b:D):Prop where
 out:a.len=b.len/\∀i,i<a.len->sAt a i=sAt b i
structure zbq (k:Int) (a:List UInt8) (la:Prop) (m:Nat) (n:Int):Prop where
 out:(k=1/\1<=m/\m<=16/\n=0/\¬la/\a= [])\/((k=2\/k=3\/k=8\/k=9)/\m=0/\n=0/\¬la)\/
  (k=4/\m=0/\1<=n/\n<=2)\/(k=5/\m=0/\n=0)\/((k=6\/k=7)/\1<=m/\m<=16/\n=0)\/(k=10/\m=0/\0<=n/\n<=63/\¬la)
open Classical in
def zcH (c:D) (i:Nat) (k:Int) (a:List UInt8) (la:Prop) (nm:D) (n:Int):Int:=
 if ¬zbq k a la nm.len n then 30 else if zfP nm\/(a≠ []/\¬zaY a) then 4 else if zbi nm then 5 else if a≠ []/\¬zaP c i a then 31 else 0
def zhT (c:D) (i:Nat):Int:=zcH c i (cK (el c i)) (cA (el c i)) (cL (el c i)) (cNm (el c i)) (cN (el c i))
open Classical in
def zbM (l:D):Nat->Nat->Int×Int
 |0,_=>(0,0)
 |f+1,i=>if zhT l i≠0 then ((i:Nat),zhT l i) else zbM l f (i+1)
open Classical in
def zbm (l:D):Int×Int:=if 32<l.len then (0,7) else zbM l l.len 0
structure zaE (c:D):Prop where
 out:c.len<=100/\∀i,i<c.len->(cNm (el c i)).len<=100
structure zzO (d:D):Prop where
 out:(cA d).length<=40/\(cNm d).len<=20/\∀i,i<(cNm d).len->(sAt (cNm d) i).length<=40
structure zzP (c:D):Prop where
 out:c.len<=40/\∀i,i<c.len->zzO (el c i)
def zbC (l:List D):D:=match l with| []=> .nil|l=> .list l
def zxS (d:D):D:= .sct [.int (cK d),.str (cA d),.bool (cL d),.list (cNm d).asList,.int (cN d)]
def zv7 (l:D) (n:Nat):List D:=(List.range n).map λi=>zxS (el l i)
def zxT (l:D):D:=zbC (zv7 l l.len)
structure zwY (a b:D):Prop where
 out:cK a=cK b/\cA a=cA b/\(cL a↔cL b)/\cN a=cN b/\eqS (cNm a) (cNm b)
structure zvh (a b:D):Prop where
 out:a.len=b.len/\∀i,i<a.len->zwY (el a i) (el b i)
def zd8 (x:Nat):List D:=(List.range 256).map λk=>D.bool (97<=k/\k<97+x)
def zkM:List UInt8:= [97,98,99,100,101,102,103,104,105,106,107,108,109,110,111,112,113,114,115,116,117,118,119,120,121,122]
def zb8:List D:= [.sct [.str [],.int 0,.int 0,.bool (false=true),.bool (false=true),.bool (false=true)],
 .sct [.str [114,97,110,107],.int 0,.int 0,.bool (false=true),.bool (true=true),.bool (true=true)],
 .sct [.str [101,108,100,101,114],.int 0,.int 0,.bool (false=true),.bool (false=true),.bool (false=true)],
 .sct [.str [121,111,117,116,104],.int 0,.int 0,.bool (false=true),.bool (false=true),.bool (false=true)],
 .sct [.str [115,105,100,101],.int 1,.int 2,.bool (true=true),.bool (false=true),.bool (false=true)],
 .sct [.str [104,111,115,116],.int 0,.int 0,.bool (true=true),.bool (false=true),.bool (false=true)],
 .sct [.str [116,111,110,103,117,101],.int 0,.int 0,.bool (true=true),.bool (true=true),.bool (false=true)],
 .sct [.str [99,111,117,114,116],.int 0,.int 0,.bool (true=true),.bool (true=true),.bool (false=true)],
 .sct [.str [110,97,109,101],.int 0,.int 0,.bool (false=true),.bool (false=true),.bool (false=true)],
 .sct [.str [108,105,115,116],.int 0,.int 0,.bool (false=true),.bool (false=true),.bool (false=true)],
 .sct [.str [108,111,116],.int 0,.int 63,.bool (false=true),.bool (false=true),.bool (false=true)]]
def zjf:Con:=λ| [.dat 29 l,.str s]=>some (l.len<=100,.prop (zbG l s))|_=>none
def zlO:Con:=λ| [.str s]=>some (True,.prop (zaY s))|_=>none
def zot:Con:=λ| [.agg [.int .u8 k,.str a,.prop la,.dat 29 nm,.int .i64 n]]=>some (True,.prop (zbq k a la nm.len n))|_=>none
def zoi:Con:=λ| [.dat 29 l]=>some (l.len<=100,.prop (zbi l))|_=>none
def zoj:Con:=λ| [.dat 22 c,.str s]=>some (zaE c,.prop (zaP c c.len s))|_=>none
def zog:Con:=λ| [.dat 22 b,.agg [.int .u8 k,.str a,.prop la,.dat 29 nm,.int .i64 n]]=>some (zaE b/\nm.len<=100,.int .i64 (zcH b b.len k a la nm n))|_=>none
def zoJ:Con:=λ| [.dat 22 c]=>some (zaE c,.tup [.int .i64 (zbm c).1,.int .i64 (zbm c).2])|_=>none
def cc1:FuncId->Option Con
 |103=>some zjf
 |102=>some zlO
 |168=>some zot
 |_=>none
def zxk:Con:=λ| [_,_]=>some (False,.str [])|_=>none
def cc0:FuncId->Option Con
 |198=>some zxk
 |199=>some zxk
 |_=>none
def cc2:FuncId->Option Con
 |169=>some zoi
 |170=>some zoj
 |g=>cc1 g
def cc3:FuncId->Option Con
 |130=>some zog
 |g=>cc2 g
def cc4:FuncId->Option Con
 |98=>some zoJ
 |g=>cc3 g
def zdc:FuncId->Nat->Option Ann
 |45,2=>some {τ:=Nat,slots:=λ_ _ x=> [(8,.int .i64 x)],blks:=λ_ _ _=> [],inv:=λS _ x=>x<=(slD S 0).len/\∀i,i<x->sAt (slD S 0) i≠slS S 1,meas:=λS _ x=>(slD S 0).len-x}
 |137,2=>some {τ:=Nat,slots:=λ_ _ x=> [(5,.int .i64 x)],blks:=λ_ _ _=> [],inv:=λS _ x=>x<=(slD S 0).len/\∀i,i<x->sAt (slD S 0) i≠slS S 1,meas:=λS _ x=>(slD S 0).len-x}
 |136,4=>some {τ:=Nat,slots:=λ_ _ x=> [(3,.int .i64 x)],blks:=λ_ _ _=> [],inv:=λS _ x=>x<=(slS S 0).length/\∀i,i<x->97<=zap (slS S 0) i/\zap (slS S 0) i<=122,meas:=λS _ x=>(slS S 0).length-x}
 |81,4=>some {τ:=Nat,slots:=λ_ _ x=> [(13,.int .i64 x)],blks:=λ_ _ _=> [],inv:=λS _ x=>x<=(slD S 0).len/\∀i,i<x->sAt (slD S 0) i=sAt (slD S 1) i,meas:=λS _ x=>(slD S 0).len-x}
 |169,2=>some {τ:=Nat,slots:=λ_ _ x=> [(7,.int .i64 x)],blks:=λ_ _ _=> [],inv:=λS _ x=>x<=(slD S 0).len/\∀i k,k<i->i<x->sAt (slD S 0) k≠sAt (slD S 0) i,meas:=λS _ x=>(slD S 0).len-x}
 |76,2=>some {τ:=Nat,slots:=λ_ _ x=> [(8,.int .i64 x)],blks:=λ_ _ _=> [],inv:=λS _ x=>x<=(slD S 0).len/\∀i,i<x->zaY (sAt (slD S 0) i),meas:=λS _ x=>(slD S 0).len-x}
 |154,6=>some {τ:=Nat,slots:=λ_ _ x=> [(5,.int .i64 x)],blks:=λ_ _ _=> [],inv:=λS _ x=>x<=(cNm (el (slD S 0) (slI S 1).toNat)).len/\∀i,i<x->zaY (sAt (cNm (el (slD S 0) (slI S 1).toNat)) i),meas:=λS _ x=>(cNm (el (slD S 0) (slI S 1).toNat)).len-x}
 |154,11=>some {τ:=Nat,slots:=λ_ _ x=> [(6,.int .i64 x)],blks:=λ_ _ _=> [],inv:=λS _ x=>x<=(cNm (el (slD S 0) (slI S 1).toNat)).len/\∀i k,k<i->i<x->sAt (cNm (el (slD S 0) (slI S 1).toNat)) k≠sAt (cNm (el (slD S 0) (slI S 1).toNat)) i,meas:=λS _ x=>(cNm (el (slD S 0) (slI S 1).toNat)).len-x}
 |154,18=>some {τ:=Nat,slots:=λ_ _ x=> [(7,.int .i64 x)],blks:=λ_ _ _=> [],inv:=λS _ x=>x<=(slI S 1).toNat/\∀k,k<x->¬(cK (el (slD S 0) k)=1/\zbG (cNm (el (slD S 0) k)) (cA (el (slD S 0) (slI S 1).toNat))),meas:=λS _ x=>(slI S 1).toNat-x}
 |98,4=>some {τ:=Nat,slots:=λ_ _ x=> [(12,.int .i64 x)],blks:=λ_ _ _=> [],inv:=λS _ x=>x<=(slD S 0).len/\zbM (slD S 0) ((slD S 0).len-x) x=zbM (slD S 0) (slD S 0).len 0,meas:=λS _ x=>(slD S 0).len-x}
 |117,4=>some {τ:=Nat,slots:=λ_ _ x=> [(4,.int .i64 x)],blks:=λ_ _ _=> [],inv:=λS _ x=>x<=(slD S 0).len/\zbM (slD S 0) ((slD S 0).len-x) x=zbM (slD S 0) (slD S 0).len 0,meas:=λS _ x=>(slD S 0).len-x}
 |123,4=>some {τ:=Nat,slots:=λ_ _ x=> [(17,.int .i64 x)],blks:=λ_ _ _=> [],inv:=λS _ x=>x<=(slD S 0).len/\∀i,i<x->zwY (el (slD S 0) i) (el (slD S 1) i),meas:=λS _ x=>(slD S 0).len-x}
 |60,3=>some {hs:=2,τ:=Nat,slots:=λ_ i x=>match i with|0=> [(8,.int .i64 0),(3,.val (.slice none 0 0))]|_=> [(8,.int .i64 x),(3,.slc 60 (.lit 0) (.sym x) none)],blks:=λS i x=>match i with|0=> []|_=> [(60,.arr 69 (zv7 (slD S 0) x))],inv:=λS i x=>match i with|0=>x=0|_=>0<x/\x<=(slD S 0).len,meas:=λS _ x=>(slD S 0).len-x}
 |195,2=>some {τ:=Nat,slots:=λ_ _ x=> [(4,.int .i64 x)],blks:=λ_ _ x=> [(0,.grd 214 4 (zd8 x))],inv:=λ_ _ x=>x<=26,meas:=λ_ _ x=>26-x}
 |197,1=>some {τ:=Nat,slots:=λS _ x=> [(0,.str ((slS S 0).take x))],blks:=λ_ _ _=> [(1,.grd 214 4 (zd8 26))],inv:=λS _ x=>x<=(slS S 0).length/\∀i,x<=i->i<(slS S 0).length->97<=zap (slS S 0) i/\zap (slS S 0) i<=122,meas:=λ_ _ x=>x}
 |196,1=>some {τ:=Nat,slots:=λS _ x=> [(0,.str ((slS S 0).drop x))],blks:=λ_ _ _=> [(1,.grd 214 4 (zd8 26))],inv:=λS _ x=>x<=(slS S 0).length/\∀i,i<x->97<=zap (slS S 0) i/\zap (slS S 0) i<=122,meas:=λS _ x=>(slS S 0).length-x}
 |_,_=>none
def zpH (s:List UInt8):FuncId->Nat->Option Ann
 |101,2=>some {τ:=Nat,slots:=λ_ _ x=> [(8,.int .i64 x)],blks:=λ_ _ _=> [],inv:=λS _ x=>x<=(slD S 0).len/\∀k,k<x->¬(cK (el (slD S 0) k)=1/\zbG (cNm (el (slD S 0) k)) s),meas:=λS _ x=>(slD S 0).len-x}
 |_,_=>none
def ctx (con:FuncId->Option Con) (ann:FuncId->Nat->Option Ann):Ctx:={P:=Tryz.prog,con:=con,ora:=λg=>cond (Nat.beq g 18) (some (.bool true)) none,bits:=65185151242703554760590262029100101153646988597309960020356494379340201592426774597868716031,ann:=ann}
instance (con:FuncId->Option Con) (ann:FuncId->Nat->Option Ann):Nonempty (NoF (ctx con ann)):=⟨⟨λ_ _ h=>zeQ h⟩⟩
end
end Go.Ev

end

section
open Go.Proofs
namespace Go.Ev
noncomputable section
structure GD where
 nm:List UInt8
 rk:List UInt8
 ct:List UInt8
 si:Int
 sd:Int
 di:List UInt8
 ho:Prop
 ac:Prop
 tg:D
def gV (g:GD):V:= .agg [.str g.nm,.str g.rk,.str g.ct,.int .i64 g.si,.int .i64 g.sd,.str g.di,.prop g.ho,.prop g.ac,.dat 29 g.tg]
def pV (g:GD) (p:Int):V:= .agg [.str g.nm,.str g.rk,.str g.ct,.int .i64 g.si,.int .i64 g.sd,.str g.di,.prop g.ho,.prop g.ac,.dat 29 g.tg,.int .i64 p]
def gOf:V->Option GD
 | .agg [.str nm,.str rk,.str ct,.int .i64 si,.int .i64 sd,.str di,.prop ho,.prop ac,.dat 29 tg]=>some ⟨nm,rk,ct,si,sd,di,ho,ac,tg⟩
 |_=>none
def pOf:V->Option (GD×Int)
 | .agg [.str nm,.str rk,.str ct,.int .i64 si,.int .i64 sd,.str di,.prop ho,.prop ac,.dat 29 tg,.int .i64 p]=>some (⟨nm,rk,ct,si,sd,di,ho,ac,tg⟩,p)
 |_=>none
def zdh (x y:Int):Int:=if x<y then-1 else if y<x then 1 else 0
open Classical in
def zhb (x y:List UInt8):Int:=if sLt x y then-1 else if sLt y x then 1 else 0
open Classical in
def zbD (l:D) (s:List UInt8):Nat->Nat->Nat
 |0,i=>i
 |f+1,i=>if sAt l i=s then i else zbD l s f (i+1)
def idx (l:D) (s:List UInt8):Nat:=zbD l s l.len 0
def zm9 (l:D) (s:List UInt8):Int:=if idx l s<l.len then idx l s else-1
structure zrm (tg nm:D):Prop where
 out:∃i,i<tg.len/\zbG nm (sAt tg i)
open Classical in
def zkQ (p q la:Prop):Int:=if (p↔q) then 0 else if ¬(p↔la) then-1 else 1
def orZ (x y:Int):Int:=if x≠0 then x else y
structure inB (p:Int):Prop where
 out:0<=p/\p<64
def idD:D->Nat| .fn g _ _=>g|_=>0
def zkj (d:D) (i:Nat):D:=match d with| .fn _ _ ds=>zad ds i|_=> .nil
structure okR (d:D):Prop where
 out:∃nm:D,d= .fn 215 [29] [nm]/\nm.len<=100
structure okN (d:D):Prop where
 out:(∃x:D,d= .fn 179 [69] [x])\/d= .fn 180 [] []\/(∃x:D,d= .fn 181 [69] [x]/\(cNm x).len<=100)\/(∃x:D,d= .fn 183 [69] [x]/\(cNm x).len<=100)\/d= .fn 217 [] []
structure okC (d:D):Prop where
 out:d= .fn 114 [] []\/d= .fn 177 [] []
structure okK (d:D):Prop where
 out:d= .fn 187 [] []\/∃x:D,d= .fn 188 [69] [x]/\0<=cN x/\cN x<=63
structure ztq (d:D):Prop where
 out:(∃r:D,d= .fn 216 [227] [r]/\okR r)\/(∃(n:D) (la:Prop),d= .fn 220 [184,4] [n,.bool la]/\okN n)\/d= .fn 184 [] []\/(∃k:D,d= .fn 223 [181,80] [.fn 222 [] [],k]/\okK k)
structure zu4 (d:D):Prop where
 out:ztq d\/∃(u c:D),d= .fn 218 [173,142] [u,c]/\ztq u/\okC c
structure okA (d:D):Prop where
 out:∃(s:List UInt8) (t:D),d= .fn 174 [9,173] [.str s,t]/\zu4 t
def zk1 (d:D) (g:GD):Int:=idx (zkj d 0) g.rk
structure zdd (d:D) (g:GD):Prop where
 out:(idD d=179/\g.sd=cN (zkj d 0))\/(idD d=180/\g.ho)\/(idD d=181/\zrm g.tg (cNm (zkj d 0)))\/(idD d=183/\zbG (cNm (zkj d 0)) g.ct)\/(idD d=217/\g.si=0)
def ziZ (d:D) (x y:Int):Int:=if idD d=114 then zdh x y else zdh y x
def zpB (p n:Int):Int:=(p*(2*n+1)+n).tmod 64
def zqk (d:D) (p:Int):Int:=if idD d=187 then p else zpB p (cN (zkj d 0))
open Classical in
def zbs (d:D) (a b:GD) (i j:Int):Int:=
 if idD d=216 then zdh (zk1 (zkj d 0) a) (zk1 (zkj d 0) b)
 else if idD d=220 then zkQ (zdd (zkj d 0) a) (zdd (zkj d 0) b) (zkj d 1).asProp
 else if idD d=184 then zhb a.nm b.nm
 else if inB i/\inB j then zdh (zqk (zkj d 1) i) (zqk (zkj d 1) j) else 0
def zcR (d:D) (a b:GD) (i j:Int):Int:=
 if idD d=218 then orZ (zbs (zkj d 0) a b i j) (ziZ (zkj d 1) a.si b.si) else zbs d a b i j
open Classical in
def zlH (s:List UInt8) (t:D) (a b:GD) (i j:Int):Int:=if s≠ []/\(a.rk≠s\/b.rk≠s) then 0 else zcR t a b i j
def zk0 (d:D) (a b:GD) (i j:Int):Int:=zlH (zkj d 0).asStr (zkj d 1) a b i j
def zkR (la:Prop) (n:D):D:= .fn 220 [184,4] [n,.bool la]
def zxg (c:D):D:= .fn 218 [173,142] [zkR (true=true) (.fn 217 [] []),c]
def ztu (k:D):D:= .fn 223 [181,80] [.fn 222 [] [],k]
def xD (k:Int) (a:List UInt8) (la:Prop) (nm:D) (n:Int):D:= .sct [.int k,.str a,.bool la,nm,.int n]
def zbN (k:Int) (a:List UInt8) (la:Prop) (nm:D) (n:Int):D:=
 if k=1 then .fn 216 [227] [.fn 215 [29] [nm]] else if k=2 then zxg (.fn 114 [] []) else if k=3 then zxg (.fn 177 [] []) else if k=4 then zkR la (.fn 179 [69] [xD k a la nm n])
 else if k=5 then zkR la (.fn 180 [] []) else if k=6 then zkR la (.fn 181 [69] [xD k a la nm n]) else if k=7 then zkR la (.fn 183 [69] [xD k a la nm n]) else if k=8 then .fn 184 [] []
 else if k=9 then ztu (.fn 187 [] []) else ztu (.fn 188 [69] [xD k a la nm n])
def zhj (s:List UInt8) (t:D):D:= .fn 174 [9,173] [.str s,t]
def zlt (c:D) (i:Nat):D:=zhj (cA (el c i)) (zbN (cK (el c i)) (cA (el c i)) (cL (el c i)) (cNm (el c i)) (cN (el c i)))
def zaJ (c:D) (n:Nat):List D:=(List.range n).map λi=>zlt c i
open Classical in
def zb9 (f:Nat->Int):Nat->Nat->Int×Int
 |0,_=>(-1,0)
 |m+1,i=>if f i≠0 then ((i:Nat),f i) else zb9 f m (i+1)
def zlN:Con:=λ| [.int .i64 x,.int .i64 y]=>some (True,.int .i64 (zdh x y))|_=>none
def zol:Con:=λ| [.int .i64 x,.int .i64 y]=>some (True,.int .i64 (zdh y x))|_=>none
def zoq:Con:=λ| [.str x,.str y]=>some (True,.int .i64 (zhb x y))|_=>none
def zub:Con:=λ| [.dat 29 l,.str s]=>some (l.len<=100,.int .i64 (zm9 l s))|_=>none
def zou:Con:=λ| [p,.dpt 29 nm]=>(match pOf p with|some (g,_)=>some (nm.len<=100,.int .i64 (idx nm g.rk))|none=>none)|_=>none
def zom:Con:=λ| [p,.dpt 69 x]=>(match pOf p with|some (g,_)=>some (True,.prop (g.sd=cN x))|none=>none)|_=>none
def zon:Con:=λ| [p]=>(match pOf p with|some (g,_)=>some (True,.prop g.ho)|none=>none)|_=>none
def zow:Con:=λ| [p]=>(match pOf p with|some (g,_)=>some (True,.prop (g.si=0))|none=>none)|_=>none
def zjg:Con:=λ| [p,.dpt 69 x]=>(match pOf p with|some (g,_)=>some (g.tg.len<=100/\(cNm x).len<=100,.prop (zrm g.tg (cNm x)))|none=>none)|_=>none
def zoo:Con:=λ| [p,.dpt 69 x]=>(match pOf p with|some (g,_)=>some ((cNm x).len<=100,.prop (zbG (cNm x) g.ct))|none=>none)|_=>none
def zor:Con:=λ| [.int .i64 p]=>some (True,.int .i64 p)|_=>none
def zos:Con:=λ| [.int .i64 p,.dpt 69 x]=>some (inB p/\0<=cN x/\cN x<=63,.int .i64 (zpB p (cN x)))|_=>none
def zoz:Con:=λ| [.int .i64 p]=>some (True,.prop (inB p))|_=>none
def zxR:D->Con:=λd=>λ| [p]=>(match pOf p with|some (g,_)=>some (okR d,.int .i64 (zk1 d g))|none=>none)|_=>none
def zue:D->Con:=λd=>λ| [p]=>(match pOf p with|some (g,_)=>some (okN d/\g.tg.len<=100,.prop (zdd d g))|none=>none)|_=>none
def zxP:D->Con:=λd=>λ| [.int .i64 x,.int .i64 y]=>some (okC d,.int .i64 (ziZ d x y))|_=>none
def zxQ:D->Con:=λd=>λ| [.int .i64 p]=>some (okK d/\inB p,.int .i64 (zqk d p))|_=>none
def zxO:D->Con:=λd=>λ| [.int .i64 p]=>some (d= .fn 222 [] [],.prop (inB p))|_=>none
def zov:Con:=λ| [p,q,.dpt 227 r]=>(match pOf p,pOf q with|some (a,_),some (b,_)=>some (okR r,.int .i64 (zdh (zk1 r a) (zk1 r b)))|_,_=>none)|_=>none
def zoy:Con:=λ| [p,q,.dpt 184 n,.dpt 4 la]=>(match pOf p,pOf q with|some (a,_),some (b,_)=>some (okN n/\a.tg.len<=100/\b.tg.len<=100,.int .i64 (zkQ (zdd n a) (zdd n b) la.asProp))|_,_=>none)|_=>none
def zop:Con:=λ| [p,q]=>(match pOf p,pOf q with|some (a,_),some (b,_)=>some (True,.int .i64 (zhb a.nm b.nm))|_,_=>none)|_=>none
open Classical in
def zoA:Con:=λ| [p,q,.dpt 181 e,.dpt 80 k]=>(match pOf p,pOf q with|some (_,i),some (_,j)=>some (e= .fn 222 [] []/\okK k,.int .i64 (if inB i/\inB j then zdh (zqk k i) (zqk k j) else 0))|_,_=>none)|_=>none
def zuf:D->Con:=λd=>λ| [p,q]=>(match pOf p,pOf q with|some (a,i),some (b,j)=>some (ztq d/\a.tg.len<=100/\b.tg.len<=100,.int .i64 (zbs d a b i j))|_,_=>none)|_=>none
def zox:Con:=λ| [p,q,.dpt 173 u,.dpt 142 c]=>(match pOf p,pOf q with|some (a,i),some (b,j)=>some (ztq u/\okC c/\a.tg.len<=100/\b.tg.len<=100,.int .i64 (orZ (zbs u a b i j) (ziZ c a.si b.si)))|_,_=>none)|_=>none
def zug:D->Con:=λd=>λ| [p,q]=>(match pOf p,pOf q with|some (a,i),some (b,j)=>some (zu4 d/\a.tg.len<=100/\b.tg.len<=100,.int .i64 (zcR d a b i j))|_,_=>none)|_=>none
def zok:Con:=λ| [p,q,.dpt 9 s,.dpt 173 t]=>(match pOf p,pOf q with|some (a,i),some (b,j)=>some (zu4 t/\a.tg.len<=100/\b.tg.len<=100,.int .i64 (zlH s.asStr t a b i j))|_,_=>none)|_=>none
def zxN:D->Con:=λd=>λ| [p,q]=>(match pOf p,pOf q with|some (a,i),some (b,j)=>some (okA d/\a.tg.len<=100/\b.tg.len<=100,.int .i64 (zk0 d a b i j))|_,_=>none)|_=>none
def zlQ:Con:=λ| [.agg [.int .u8 k,.str a,.prop la,.dat 29 nm,.int .i64 n]]=>some (True,.fnd 173 (zbN k a la nm n))|_=>none
def zlP:Con:=λ| [.str s,.fnd 173 t]=>some (True,.fnd 173 (zhj s t))|_=>none
def zoI:Con:=λ| [.dat 22 c]=>some (c.len<=100,.dat 127 (.list (zaJ c c.len)))|_=>none
def zoG:Con:=fun
 | [.dat 127 ts,p,q]=>(match pOf p,pOf q with
  |some (a,i),some (b,j)=>some ((ts.len<=100/\∀k,k<ts.len->okA (el ts k))/\a.tg.len<=100/\b.tg.len<=100,.tup [.int .i64 (zb9 (λk=>zk0 (el ts k) a b i j) ts.len 0).1,.int .i64 (zb9 (λk=>zk0 (el ts k) a b i j) ts.len 0).2])
  |_,_=>none)
 |_=>none
def cm0:FuncId->Option Con
 |103=>some zjf
 |114=>some zlN
 |185=>some zoq
 |45=>some zub
 |_=>none
def cF1:TypeId->Option (D->Con)
 |227=>some zxR
 |184=>some zue
 |142=>some zxP
 |80=>some zxQ
 |181=>some zxO
 |_=>none
def cF2:TypeId->Option (D->Con)
 |173=>some zuf
 |t=>cF1 t
def cF3:TypeId->Option (D->Con)
 |173=>some zug
 |_=>none
def cF4:TypeId->Option (D->Con)
 |173=>some zxN
 |_=>none
def zvx (nm:D):FuncId->Nat->Option Ann
 |76,2=>some {τ:=Nat,slots:=λ_ _ x=> [(8,.int .i64 x)],blks:=λ_ _ _=> [],inv:=λS _ x=>x<=(slD S 0).len/\∀i,i<x->¬zbG nm (sAt (slD S 0) i),meas:=λS _ x=>(slD S 0).len-x}
 |_,_=>none
def zaF:FuncId->Nat->Option Ann
 |45,2=>some {τ:=Nat,slots:=λ_ _ x=> [(8,.int .i64 x)],blks:=λ_ _ _=> [],inv:=λS _ x=>x<=(slD S 0).len/\zbD (slD S 0) (slS S 1) ((slD S 0).len-x) x=idx (slD S 0) (slS S 1),meas:=λS _ x=>(slD S 0).len-x}
 |202,2=>some {τ:=Nat,slots:=λ_ _ x=> [(5,.int .i64 x)],blks:=λ_ _ _=> [],inv:=λS _ x=>x<=(slD S 0).len/\zbD (slD S 0) (slS S 1) ((slD S 0).len-x) x=idx (slD S 0) (slS S 1),meas:=λS _ x=>(slD S 0).len-x}
 |_,_=>none
def zbo (con:FuncId->Option Con) (cf:TypeId->Option (D->Con)) (ann:FuncId->Nat->Option Ann):Ctx:={ctx con ann with conF:=cf}
end
end Go.Ev

end

section
open Go.Proofs
namespace Go.Ev
noncomputable section
structure naP (k:Int) (nm:D) (n:Int) (g:GD):Prop where
 out:(k=4/\g.sd=n)\/(k=5/\g.ho)\/(k=7/\zbG nm g.ct)\/((k≠4/\k≠5/\k≠7)/\zrm g.tg nm)
structure zmY (k:Int) (la:Prop) (nm:D) (n:Int) (a b:GD) (i j:Int):Prop where
 out:(k=1/\idx nm a.rk<idx nm b.rk)\/(k=2/\a.si≠0/\(b.si=0\/a.si<b.si))\/(k=3/\a.si≠0/\(b.si=0\/b.si<a.si))\/(k=8/\sLt a.nm b.nm)\/(k=9/\inB i/\inB j/\i<j)\/
  (k=10/\inB i/\inB j/\zpB i n<zpB j n)\/((k≠1/\k≠2/\k≠3/\k≠8/\k≠9/\k≠10)/\((la/\¬naP k nm n a/\naP k nm n b)\/(¬la/\naP k nm n a/\¬naP k nm n b)))
open Classical in
def clZ (k:Int) (s:List UInt8) (la:Prop) (nm:D) (n:Int) (a b:GD) (i j:Int):Int:=
 if s≠ []/\(a.rk≠s\/b.rk≠s) then 0 else if zmY k la nm n a b i j then-1 else if zmY k la nm n b a j i then 1 else 0
def clE (c:D) (a b:GD) (i j:Int) (x:Nat):Int:=clZ (cK (el c x)) (cA (el c x)) (cL (el c x)) (cNm (el c x)) (cN (el c x)) a b i j
def zf3 (c:D) (a b:GD) (i j:Int):Int×Int:=if (zbm c).2=0 then zb9 (clE c a b i j) c.len 0 else (0,0)
def zs2 (l:D) (n:Nat):List D:=(List.range n).map λi=> .str (sAt l i)
def zxV (l:D):D:=zbC (zs2 l l.len)
def zxU (g:GD):GD:={g with tg:=zxV g.tg}
structure zyF (a b:GD):Prop where
 out:a.nm=b.nm/\a.rk=b.rk/\a.ct=b.ct/\a.si=b.si/\a.sd=b.sd/\a.di=b.di/\(a.ho↔b.ho)/\(a.ac↔b.ac)/\eqS a.tg b.tg
structure zw2 (l:D):Prop where
 out:∀i,i<l.len->(sAt l i).length<=40
structure zzQ (d:D):Prop where
 out:max (max ((d.fld 0).asStr.length:Int) (d.fld 1).asStr.length) (d.fld 2).asStr.length<=40/\(d.fld 8).len<=10/\zw2 (d.fld 8)
def gD (g:GD):D:= .sct [.str g.nm,.str g.rk,.str g.ct,.int g.si,.int g.sd,.str g.di,.bool g.ho,.bool g.ac,g.tg]
def zrD:Con:=λ| [.dat 22 c]=>some (zaE c,.prop ((zbm c).2=0))|_=>none
def zt9:Con:=fun
 | [.dat 22 c,p,q,.int .i64 i,.int .i64 j]=>(match gOf p,gOf q with
  |some a,some b=>some (zaE c/\a.tg.len<=100/\b.tg.len<=100,.tup [.int .i64 (zf3 c a b i j).1,.int .i64 (zf3 c a b i j).2])
  |_,_=>none)
 |_=>none
def zua:Con:=fun
 | [.dat 22 c,p,q,.int .i64 i,.int .i64 j]=>(match gOf p,gOf q with
  |some a,some b=>some (zaE c/\a.tg.len<=100/\b.tg.len<=100,.int .i64 (zf3 c a b i j).2)
  |_,_=>none)
 |_=>none
def cn0:FuncId->Option Con
 |143=>some zlQ
 |142=>some zlP
 |g=>cc4 g
def cn1:FuncId->Option Con
 |143=>some zlQ
 |142=>some zlP
 |93=>some zoI
 |92=>some zoG
 |91=>some zrD
 |g=>cc4 g
def cn2:FuncId->Option Con
 |31=>some zt9
 |g=>cn1 g
def zec:FuncId->Nat->Option Ann
 |93,3=>some {τ:=Nat,slots:=λ_ _ x=> [(11,.int .i64 x)],blks:=λS _ x=> [(0,.arr 173 (zaJ (slD S 0) x++List.replicate ((slD S 0).len-x) .nil))],inv:=λS _ x=>x<=(slD S 0).len,meas:=λS _ x=>(slD S 0).len-x}
 |157,4=>some {τ:=Nat,slots:=λ_ _ x=> [(5,.int .i64 x)],blks:=λ_ _ _=> [],inv:=λS _ x=>x<=(slD S 0).len/\∀i,i<x->sAt (slD S 0) i=sAt (slD S 1) i,meas:=λS _ x=>(slD S 0).len-x}
 |153,3=>some {hs:=2,τ:=Nat,slots:=λ_ i x=>match i with|0=> [(4,.int .i64 0),(3,.val (.slice none 0 0))]|_=> [(4,.int .i64 x),(3,.slc 60 (.lit 0) (.sym x) none)],blks:=λS i x=>match i with|0=> []|_=> [(60,.arr 9 (zs2 (slD S 0) x))],inv:=λS i x=>match i with|0=>x=0|_=>0<x/\x<=(slD S 0).len,meas:=λS _ x=>(slD S 0).len-x}
 |41,2=>some {τ:=Nat,slots:=λ_ _ x=> [(8,.int .i64 x)],blks:=λ_ _ _=> [],inv:=λS _ x=>x<=(slD S 0).len/\∀i,i<x->zzQ (el (slD S 0) i),meas:=λS _ x=>(slD S 0).len-x}
 |76,2=>some {τ:=Nat,slots:=λ_ _ x=> [(8,.int .i64 x)],blks:=λ_ _ _=> [],inv:=λS _ x=>x<=(slD S 0).len/\∀i,i<x->(sAt (slD S 0) i).length<=40,meas:=λS _ x=>(slD S 0).len-x}
 |_,_=>none
def zqp (f:Nat->Int):FuncId->Nat->Option Ann
 |92,2=>some {τ:=Nat,slots:=λ_ _ x=> [(13,.int .i64 x)],blks:=λ_ _ _=> [],inv:=λS _ x=>x<=(slD S 0).len/\zb9 f ((slD S 0).len-x) x=zb9 f (slD S 0).len 0,meas:=λS _ x=>(slD S 0).len-x}
 |121,2=>some {τ:=Nat,slots:=λ_ _ x=> [(12,.int .i64 x)],blks:=λ_ _ _=> [],inv:=λS _ x=>x<=(slD S 0).len/\zb9 f ((slD S 0).len-x) x=zb9 f (slD S 0).len 0,meas:=λS _ x=>(slD S 0).len-x}
 |_,_=>none
end
end Go.Ev

end

section
open Go.Proofs
namespace Go.Ev
noncomputable section
def zaS:List UInt8:= [97,98,99,100]
def zes (k:Int):List UInt8:=List.take (Int.toNat (1:Int)-0) (List.drop 0 (List.take (zaS.length-k.toNat) (List.drop k.toNat zaS)))
def znN (a k:Int):Int:=zae (zbI .u8 a k) 3
open Classical in
def pRk (pa:Int):List UInt8:=if zae pa 4=0 then [] else zes (znN pa 3)
open Classical in
def pCt (pb:Int):List UInt8:=if zae pb 4=0 then [] else zes (znN pb 3)
open Classical in
def pDi (pa pb:Int):List UInt8:=if zae pa 128=0 then [] else zes (znN pb 4)
open Classical in
def pTg (pa pb:Int):D:=if zae pb 64=0 then .nil else .list [.str (zes (znN pa 4))]
def pG (pa pb:Int) (nm:List UInt8):GD:=⟨nm,pRk pa,pCt pb,10*IntKind.i64.wrap (pb.tmod 4),IntKind.i64.wrap (pa.tmod 3),pDi pa pb,zae pa 64=0->False,zae pb 128=0->False,pTg pa pb⟩
def nrm:V->V
 | .val (.int k n)=> .int k n
 | .val (.bool b)=> .prop (zhp b)
 | .val (.string b)=> .str b.data.toList
 |v=>v
def bxs (S:SS) (b:Nat):List V:=match S.hp.get b with|some (.box _ l)=>l.map nrm|_=> []
def zm0:Con:=λ| [.agg [.int .u8 pa,.int .u8 pb],.str nm]=>some ((0<=pa/\pa<256)/\(0<=pb/\pb<256),gV (pG pa pb nm))|_=>none
def zyD:FuncId->Nat->List (Tmp×Nat×TypeId)
 |90,7=> [(5,8,29)]
 |_,_=> []
structure u8P (d:D):Prop where
 out:(0<=(d.fld 0).asInt/\(d.fld 0).asInt<256)/\(0<=(d.fld 1).asInt/\(d.fld 1).asInt<256)
structure zvB (l:D):Prop where
 out:∀i,i<l.len->u8P (el l i)
def gbs (i:Int):List D:= [D.int (IntKind.u8.wrap (97+i.tdiv 26)),D.int (IntKind.u8.wrap (97+i.tmod 26))]
def zjA (i:Int):List UInt8:= [103]++zfD (List.take 2 (gbs i))
def gE (l:D) (i:Nat):D:=gD (pG ((el l i).fld 0).asInt ((el l i).fld 1).asInt (zjA i))
def gL (l:D) (n:Nat):List D:=(List.range n).map λi=>gE l i
def mG (n:Int) (l:D):D:=l.sub 0 (min (l.len:Int) n).toNat
def gsD (n:Int) (l:D):D:=zbC (gL (mG n l) (mG n l).len)
def zv6:Con:=λ| [.dat 48 l,.int .i64 n]=>some (zvB l/\0<=n/\n<=64,.dat 23 (gsD n l))|_=>none
structure u8C (d:D):Prop where
 out:(0<=(d.fld 0).asInt/\(d.fld 0).asInt<256)/\(0<=(d.fld 1).asInt/\(d.fld 1).asInt<256)/\(0<=(d.fld 2).asInt/\(d.fld 2).asInt<256)
structure zq3 (l:D):Prop where
 out:∀i,i<l.len->u8C (el l i)
def mK (d:D):Int:=IntKind.u8.wrap (1+((d.fld 0).asInt).tmod 10)
def nm1 (d:D):List UInt8:=zes (((d.fld 2).asInt).tmod 4)
def nm2 (d:D):List UInt8:=zes ((IntKind.u8.wrap ((d.fld 2).asInt+1)).tmod 4)
open Classical in
def mNm (d:D):List D:=if zae (d.fld 2).asInt 4=0 then [.str (nm1 d)] else [.str (nm1 d),.str (nm2 d)]
open Classical in
def mAm (d:D) (r:List UInt8):List UInt8:=if (d.fld 4).asProp/\mK d≠1 then r else []
def mC (d:D) (r:List UInt8):D:=
 if mK d=1 then .sct [.int (mK d),.str (mAm d r),.bool (false=true),.list (mNm d),.int 0]
 else if mK d=4 then .sct [.int (mK d),.str (mAm d r),.bool (d.fld 3).asProp,.nil,.int (1+IntKind.i64.wrap (((d.fld 1).asInt).tmod 2))]
 else if mK d=5 then .sct [.int (mK d),.str (mAm d r),.bool (d.fld 3).asProp,.nil,.int 0]
 else if mK d=6\/mK d=7 then .sct [.int (mK d),.str (mAm d r),.bool (d.fld 3).asProp,.list (mNm d),.int 0]
 else if mK d=10 then .sct [.int (mK d),.str (mAm d r),.bool (false=true),.nil,.int (IntKind.i64.wrap (((d.fld 1).asInt).tmod 64))]
 else .sct [.int (mK d),.str (mAm d r),.bool (false=true),.nil,.int 0]
def mR (l:D):Nat->List UInt8
 |0=> []
 |n+1=>if mK (el l n)=1 then nm1 (el l n) else mR l n
def mL (l:D) (n:Nat):List D:=(List.range n).map λi=>mC (el l i) (mR l i)
def m8 (l:D):D:=l.sub 0 (min (l.len:Int) 8).toNat
def slB (S:SS) (t:Tmp):Nat:=match S.fr.get t with|some (.ptr b _)=>b|_=>0
def zc4 (S:SS) (t:Tmp):List D:=match S.fr.get t with|some (.slc b _ _ _)=>bkL S b|_=> []
def zi0 (S:SS) (t:Tmp):Nat:=match S.fr.get t with|some (.slc b _ _ _)=>b|_=>0
def gAt (d:D):GD:=⟨(d.fld 0).asStr,cA d,(d.fld 2).asStr,(cNm d).asInt,cN d,(d.fld 5).asStr,(d.fld 6).asProp,(d.fld (Nat.succ 6)).asProp,d.fld (Nat.succ 6).succ⟩
def zil:FuncId->Nat->Option Ann
 |30,3=>some {hs:=2,τ:=Nat,slots:=λ_ i x=>match i with|0=> [(15,.int .i64 0),(5,.val (.slice none 0 0))]|_=> [(15,.int .i64 x),(5,.slc 60 (.lit 0) (.sym x) none)],blks:=λS i x=>match i with|0=> []|_=> [(60,.arr 53 (gL (mG (slI S 1) (slD S 0)) x))],inv:=λS i x=>match i with|0=>x=0|_=>0<x/\x<=(mG (slI S 1) (slD S 0)).len,meas:=λS _ x=>(mG (slI S 1) (slD S 0)).len-x}
 |29,4=>some {hs:=2,τ:=Nat,slots:=λS i x=>match i with|0=> [(15,.int .i64 0),(3,.val (.slice none 0 0)),(4,.str [])]|_=> [(15,.int .i64 x),(3,.slc 60 (.lit 0) (.sym x) none),(4,.str (mR (m8 (slD S 0)) x))],blks:=λS i x=>match i with|0=> []|_=> [(60,.arr 69 (mL (m8 (slD S 0)) x))],inv:=λS i x=>match i with|0=>x=0|_=>0<x/\x<=(m8 (slD S 0)).len,meas:=λS _ x=>(m8 (slD S 0)).len-x}
 |_,_=>none
def zwQ:FuncId->Nat->Option Ann
 |90,4=>some {τ:=Unit,slots:=λ_ _ _=> [],blks:=λS _ _=> [(2,.box 53 ((bxs S 2).set 1 (.str (pRk (bkI S 0 0)))))],inv:=λ_ _ _=>True,meas:=λ_ _ _=>0}
 |90,6=>some {τ:=Unit,slots:=λ_ _ _=> [],blks:=λS _ _=> [(2,.box 53 ((bxs S 2).set 2 (.str (pCt (bkI S 0 1)))))],inv:=λ_ _ _=>True,meas:=λ_ _ _=>0}
 |90,8=>some {hs:=2,τ:=Unit,slots:=λ_ _ _=> [],blks:=λS i _=>match i with|0=> [(2,.box 53 ((bxs S 2).set 8 (.val (.slice none 0 0))))]|_=> [(2,.box 53 ((bxs S 2).set 8 (.dat 29 (.list [.str (zes (znN (bkI S 0 0) 4))]))))],inv:=λS i _=>match i with|0=>zae (bkI S 0 1) 64=0|_=>zae (bkI S 0 1) 64≠0,meas:=λ_ _ _=>0}
 |90,10=>some {τ:=Unit,slots:=λ_ _ _=> [],blks:=λS _ _=> [(2,.box 53 ((bxs S 2).set 5 (.str (pDi (bkI S 0 0) (bkI S 0 1)))))],inv:=λ_ _ _=>True,meas:=λ_ _ _=>0}
 |29,10=>some {hs:=2,τ:=Unit,slots:=λS i _=>match i with|0=> [(8,.slc (zi0 S 8) (.lit 0) (.lit 1) (some (.lit 1)))]|_=> [(8,.slc 70 (.lit 0) (.lit 2) none)],blks:=λS i _=>match i with|0=> [(zi0 S 8,.arr 9 (zc4 S 8))]|_=> [(70,.arr 9 (zc4 S 8++ [.str (zes ((IntKind.u8.wrap (bkI S (slB S 6) 2+1)).tmod 4))]))],inv:=λS i _=>match i with|0=>zae (bkI S (slB S 6) 2) 4=0|_=>zae (bkI S (slB S 6) 2) 4≠0,meas:=λ_ _ _=>0}
 |_,_=>none
def zrg (con:FuncId->Option Con) (ann:FuncId->Nat->Option Ann):Ctx:={ctx con ann with join:=zwQ,frz:=zyD}
instance (con:FuncId->Option Con) (ann:FuncId->Nat->Option Ann):Nonempty (NoF (zrg con ann)):=⟨⟨λ_ _ h=>zeQ h⟩⟩
end
end Go.Ev

end

section
namespace Go.Ev
noncomputable section
structure wkP {α:Type} (A:α->Prop) (f:α->α->Int):Prop where
 rng:∀a b,f a b= -1\/f a b=0\/f a b=1
 anti:∀a b,A a->A b->f b a= -f a b
 tri:∀a b c,A a->A b->A c->f a b<=0->f b c<=0->f a c=min (f a b) (f b c)
open Classical in
def zel {α:Type} (r:α->α->Prop) (a b:α):Int:=if r a b then-1 else if r b a then 1 else 0
theorem zxe {α:Type} {A:α->Prop} {r:α->α->Prop} (has:∀a b,A a->A b->r a b->¬r b a) (hct:∀a b c,A a->A b->A c->r a b->r a c\/r c b):wkP A (zel r):=by
 have key:∀a b,A a->A b->(zel r a b= -1↔r a b)/\(zel r a b=1↔r b a):=λa b ha hb=>by
  unfold zel
  by_cases h:r a b
  .rw [if_pos h];exact ⟨⟨λ_=>h,λ_=>rfl⟩,⟨λh'=>by omega,λh'=>absurd h' (has a b ha hb h)⟩⟩
  .rw [if_neg h]
   by_cases h':r b a
   .rw [if_pos h'];exact ⟨⟨λk=>by omega,λk=>absurd k h⟩,⟨λ_=>h',λ_=>rfl⟩⟩
   .rw [if_neg h'];exact ⟨⟨λk=>by omega,λk=>absurd k h⟩,⟨λk=>by omega,λk=>absurd k h'⟩⟩
 have rng:∀a b,zel r a b= -1\/zel r a b=0\/zel r a b=1:=λa b=>by
  unfold zel
  by_cases h:r a b
  .rw [if_pos h];exact .inl rfl
  .rw [if_neg h]
   by_cases h':r b a
   .rw [if_pos h'];exact .inr (.inr rfl)
   .rw [if_neg h'];exact .inr (.inl rfl)
 refine ⟨rng,λa b ha hb=> ?_,λa b c ha hb hc h1 h2=> ?_⟩
 .have k1:=key a b ha hb
  have k2:=key b a hb ha
  rcases rng a b with h|h|h
  .rw [h,k2.2.2 (k1.1.1 h)];rfl
  .rcases rng b a with h'|h'|h'
   .have:=k1.2.2 (k2.1.1 h');omega
   .omega
   .have:=k1.1.2 (k2.2.1 h');omega
  .rw [h,k2.1.2 (k1.2.1 h)]
 .have k1:=key a b ha hb
  have k2:=key b c hb hc
  have k3:=key a c ha hc
  have n1:¬r b a:=λh=>by have:=k1.2.2 h;omega
  have n2:¬r c b:=λh=>by have:=k2.2.2 h;omega
  have n3:¬r c a:=λh=>(hct c a b hc ha hb h).elim n2 n1
  have e3:zel r a c≠1:=λh=>n3 (k3.2.1 h)
  have r1:=rng a b
  have r2:=rng b c
  have r3:=rng a c
  by_cases p:r a b
  .have x1:=k1.1.2 p
   have:r a c:=(hct a b c ha hb hc p).elim id λh=>absurd h n2
   have:=k3.1.2 this;omega
  .by_cases q:r b c
   .have x2:=k2.1.2 q
    have:r a c:=(hct b c a hb hc ha q).elim (λh=>absurd h n1) id
    have:=k3.1.2 this;omega
   .have x1:zel r a b≠ -1:=λh=>p (k1.1.1 h)
    have x2:zel r b c≠ -1:=λh=>q (k2.1.1 h)
    have x3:zel r a c≠ -1:=λh=>(hct a c b ha hc hb (k3.1.1 h)).elim p q
    omega
def zih (f:Nat->Int):Nat->Int
 |0=>0
 |n+1=>if zih f n≠0 then zih f n else f n
theorem zqq (f:Nat->Int):∀m,(zb9 f m 0).2=zih f m:=by
 have step:∀m i,(zb9 f (m+1) i).2=if (zb9 f m i).2≠0 then (zb9 f m i).2 else f (i+m):=by
  intro m
  induction m with
  |zero=>
   intro i
   unfold zb9
   by_cases h:f i≠0
   .rw [if_pos h];simp [zb9]
   .rw [if_neg h];simp only [zb9,ne_eq,not_true_eq_false,if_false,Nat.add_zero];omega
  |succ m ih=>
   intro i
   have e:zb9 f (m+1+1) i=if f i≠0 then (((i:Nat):Int),f i) else zb9 f (m+1) (i+1):=rfl
   have e':zb9 f (m+1) i=if f i≠0 then (((i:Nat):Int),f i) else zb9 f m (i+1):=rfl
   rw [e,e']
   by_cases h:f i≠0
   .rw [if_pos h,if_pos h];simp only [if_pos h]
   .rw [if_neg h,if_neg h,ih (i+1),show i+1+m=i+(m+1) by omega]
 intro m
 induction m with
 |zero=>rfl
 |succ m ih=>rw [step m 0,ih,Nat.zero_add];rfl
theorem zii {f:Nat->Int}:∀{n:Nat},zih f n=0->∀k,k<n->f k=0
 |0,_,k,hk=>absurd hk (Nat.not_lt_zero _)
 |n+1,h,k,hk=>by
  unfold zih at h
  by_cases h0:zih f n≠0
  .rw [if_pos h0] at h;exact absurd h h0
  .rw [if_neg h0] at h
   have h0:zih f n=0:=by omega
   by_cases e:k=n
   .subst e;exact h
   .exact zii h0 k (by omega)
theorem zxf {α:Type} {A:α->Prop} {f:α->α->Nat->Int} {n:Nat} (hr:∀k,k<n->∀a b,f a b k= -1\/f a b k=0\/f a b k=1) (ha:∀k,k<n->∀a b,A a->A b->f b a k= -f a b k)
  (ht:∀k,k<n->∀a b c,A a->A b->A c->zih (f a b) k=0->zih (f b c) k=0->f a b k<=0->f b c k<=0->f a c k=min (f a b k) (f b c k)):wkP A (λa b=>zih (f a b) n):=by
 induction n with
 |zero=>exact ⟨λ_ _=> .inr (.inl rfl),λ_ _ _ _=>rfl,λ_ _ _ _ _ _ _ _=>rfl⟩
 |succ n ih=>
  have ih:=ih (λk hk=>hr k (by omega)) (λk hk=>ha k (by omega)) (λk hk=>ht k (by omega))
  have e:∀a b,zih (f a b) (n+1)=if zih (f a b) n≠0 then zih (f a b) n else f a b n:=λ_ _=>rfl
  refine ⟨λa b=> ?_,λa b h1 h2=> ?_,λa b c h1 h2 h3 h4 h5=> ?_⟩
  .rw [e];split
   .exact ih.rng a b
   .exact hr n (by omega) a b
  .have:=ih.anti a b h1 h2
   have:=ha n (by omega) a b h1 h2
   simp only [e]
   split<;>split<;>omega
  .have t:=ih.tri a b c h1 h2 h3
   have:=ih.rng a b
   have:=ih.rng b c
   have:=hr n (by omega) a b
   have:=hr n (by omega) b c
   have:=hr n (by omega) a c
   simp only [e] at h4 h5⊢
   by_cases p:zih (f a b) n=0
   .by_cases q:zih (f b c) n=0
    .rw [if_neg (by omega)] at h4 h5
     have t:=t (by omega) (by omega)
     rw [p,q] at t
     have t:zih (f a c) n=0:=t
     rw [if_neg (by omega),if_neg (by omega),if_neg (by omega)]
     exact ht n (by omega) a b c h1 h2 h3 p q h4 h5
    .rw [if_neg (by omega)] at h4
     rw [if_pos q] at h5
     have t:=t (by omega) (by omega)
     rw [if_pos (by omega),if_neg (by omega),if_pos q];omega
   .rw [if_pos p] at h4
    by_cases q:zih (f b c) n=0
    .rw [if_neg (by omega)] at h5
     have t:=t (by omega) (by omega)
     rw [if_pos (by omega),if_pos p,if_neg (by omega)];omega
    .rw [if_pos q] at h5
     have t:=t (by omega) (by omega)
     rw [if_pos (by omega),if_pos p,if_pos q];omega
end
end Go.Ev

end

section
namespace Go.Ev
noncomputable section
theorem zfk:∀(x y z:List UInt8),Op.bytesLess x y=true->Op.bytesLess y z=true->Op.bytesLess x z=true
 | [],[],_,h,_=>by simp [Op.bytesLess] at h
 |a::x,[],_,h,_=>by simp [Op.bytesLess] at h
 |_,b::y,[],_,h=>by simp [Op.bytesLess] at h
 | [],b::y,c::z,_,_=>rfl
 |a::x,b::y,c::z,h1,h2=>by
  unfold Op.bytesLess at h1 h2⊢
  simp only [Bool.or_eq_true,Bool.and_eq_true,decide_eq_true_eq,beq_iff_eq] at h1 h2⊢
  rcases h1 with h1| ⟨rfl,h1⟩
  .rcases h2 with h2| ⟨rfl,h2⟩
   .have h1:=UInt8.lt_iff_toNat_lt.1 h1
    have h2:=UInt8.lt_iff_toNat_lt.1 h2
    exact .inl (UInt8.lt_iff_toNat_lt.2 (by omega))
   .exact .inl h1
  .rcases h2 with h2| ⟨rfl,h2⟩
   .exact .inl h2
   .exact .inr ⟨rfl,zfk x y z h1 h2⟩
theorem zfj:∀(x y:List UInt8),Op.bytesLess x y=true\/x=y\/Op.bytesLess y x=true
 | [],[]=> .inr (.inl rfl)
 | [],b::y=> .inl rfl
 |a::x,[]=> .inr (.inr rfl)
 |a::x,b::y=>by
  unfold Op.bytesLess
  simp only [Bool.or_eq_true,Bool.and_eq_true,decide_eq_true_eq,beq_iff_eq]
  by_cases e:a=b
  .subst e
   rcases zfj x y with h|rfl|h
   .exact .inl (.inr ⟨rfl,h⟩)
   .exact .inr (.inl rfl)
   .exact .inr (.inr (.inr ⟨rfl,h⟩))
  .have h2:a.toNat≠b.toNat:=λk=>e (UInt8.toNat_inj.1 k)
   by_cases h:a.toNat<b.toNat
   .exact .inl (.inl (UInt8.lt_iff_toNat_lt.2 h))
   .exact .inr (.inr (.inl (UInt8.lt_iff_toNat_lt.2 (by omega))))
theorem zma:∀(x:List UInt8),¬Op.bytesLess x x=true
 | [],h=>by simp [Op.bytesLess] at h
 |a::x,h=>by
  unfold Op.bytesLess at h
  simp only [Bool.or_eq_true,Bool.and_eq_true,decide_eq_true_eq,beq_iff_eq] at h
  rcases h with h| ⟨_,h⟩
  .have h:=UInt8.lt_iff_toNat_lt.1 h;omega
  .exact zma x h
theorem zwU {x y:List UInt8} (h:sLt x y):¬sLt y x:=λh'=>zma x (zfk x y x h.out h'.out)
theorem zwV {x y:List UInt8} (z:List UInt8) (h:sLt x y):sLt x z\/sLt z y:=by
 rcases zfj x z with h'|rfl|h'
 .exact .inl ⟨h'⟩
 .exact .inr h
 .exact .inr ⟨zfk z x y h' h.out⟩
theorem zv0 {k:Int} {la:Prop} {nm:D} {n:Int} {a b:GD} {i j:Int} (h:zmY k la nm n a b i j):¬zmY k la nm n b a j i:=λh'=>by
 rcases h.out with h|h|h|h|h|h|h<;>rcases h'.out with g|g|g|g|g|g|g<;>try omega
 .exact zwU h.2 g.2
 .rcases h.2 with h|h<;>rcases g.2 with g|g
  .exact h.2.1 g.2.2
  .exact g.1 h.1
  .exact h.1 g.1
  .exact h.2.2 g.2.1
theorem zv1 {k:Int} {la:Prop} {nm:D} {n:Int} {a b:GD} {i j:Int} (c:GD) {m:Int} (hm:inB m) (h:zmY k la nm n a b i j):zmY k la nm n a c i m\/zmY k la nm n c b m j:=by
 rcases h.out with ⟨rfl,g⟩| ⟨rfl,g⟩| ⟨rfl,g⟩| ⟨rfl,g⟩| ⟨rfl,h1,h2,g⟩| ⟨rfl,h1,h2,g⟩| ⟨hk,g⟩
 .by_cases e:idx nm a.rk<idx nm c.rk
  .exact .inl ⟨.inl ⟨rfl,e⟩⟩
  .exact .inr ⟨.inl ⟨rfl,by omega⟩⟩
 .by_cases e:a.si≠0/\(c.si=0\/a.si<c.si)
  .exact .inl ⟨.inr (.inl ⟨rfl,e⟩)⟩
  .exact .inr ⟨.inr (.inl ⟨rfl,by omega⟩)⟩
 .by_cases e:a.si≠0/\(c.si=0\/c.si<a.si)
  .exact .inl ⟨.inr (.inr (.inl ⟨rfl,e⟩))⟩
  .exact .inr ⟨.inr (.inr (.inl ⟨rfl,by omega⟩))⟩
 .rcases zwV c.nm g with h|h
  .exact .inl ⟨.inr (.inr (.inr (.inl ⟨rfl,h⟩)))⟩
  .exact .inr ⟨.inr (.inr (.inr (.inl ⟨rfl,h⟩)))⟩
 .by_cases e:i<m
  .exact .inl ⟨.inr (.inr (.inr (.inr (.inl ⟨rfl,h1,hm,e⟩))))⟩
  .exact .inr ⟨.inr (.inr (.inr (.inr (.inl ⟨rfl,hm,h2,by omega⟩))))⟩
 .by_cases e:zpB i n<zpB m n
  .exact .inl ⟨.inr (.inr (.inr (.inr (.inr (.inl ⟨rfl,h1,hm,e⟩)))))⟩
  .exact .inr ⟨.inr (.inr (.inr (.inr (.inr (.inl ⟨rfl,hm,h2,by omega⟩)))))⟩
 .by_cases e:naP k nm n c
  .rcases g with ⟨hl,h⟩| ⟨hl,h⟩
   .exact .inl ⟨.inr (.inr (.inr (.inr (.inr (.inr ⟨hk,.inl ⟨hl,h.1,e⟩⟩)))))⟩
   .exact .inr ⟨.inr (.inr (.inr (.inr (.inr (.inr ⟨hk,.inr ⟨hl,e,h.2⟩⟩)))))⟩
  .rcases g with ⟨hl,h⟩| ⟨hl,h⟩
   .exact .inr ⟨.inr (.inr (.inr (.inr (.inr (.inr ⟨hk,.inl ⟨hl,e,h.2⟩⟩)))))⟩
   .exact .inl ⟨.inr (.inr (.inr (.inr (.inr (.inr ⟨hk,.inr ⟨hl,h.1,e⟩⟩)))))⟩
theorem zpp {l:D} {s t:List UInt8} (h:zbG l s) (e:idx l s=idx l t):t=s:=by
 have gen:∀(f i:Nat),i+f=l.len->(zbD l s f i<l.len->sAt l (zbD l s f i)=s):=by
  intro f
  induction f with
  |zero=>intro i hi h;unfold zbD at h;omega
  |succ f ih=>
   intro i hi h
   unfold zbD at h⊢
   by_cases c:sAt l i=s
   .rw [if_pos c];exact c
   .rw [if_neg c] at h⊢;exact ih (i+1) (by omega) h
 have gen':∀(f i:Nat),i+f=l.len->(zbD l t f i<l.len->sAt l (zbD l t f i)=t):=by
  intro f
  induction f with
  |zero=>intro i hi h;unfold zbD at h;omega
  |succ f ih=>
   intro i hi h
   unfold zbD at h⊢
   by_cases c:sAt l i=t
   .rw [if_pos c];exact c
   .rw [if_neg c] at h⊢;exact ih (i+1) (by omega) h
 have lt:∀(f i:Nat),i+f=l.len->(∃x,i<=x/\x<l.len/\sAt l x=s)->zbD l s f i<l.len:=by
  intro f
  induction f with
  |zero=>rintro i hi ⟨x,h1,h2,_⟩;omega
  |succ f ih=>
   rintro i hi ⟨x,h1,h2,h3⟩
   unfold zbD
   by_cases c:sAt l i=s
   .rw [if_pos c];omega
   .rw [if_neg c]
    refine ih (i+1) (by omega) ⟨x, ?_,h2,h3⟩
    by_cases e:x=i
    .exact absurd (e▸h3) c
    .omega
 obtain ⟨x,hx,hs⟩:=h.out
 have h1:=lt l.len 0 (Nat.zero_add _) ⟨x,Nat.zero_le _,hx,hs⟩
 have h2:=gen l.len 0 (Nat.zero_add _) h1
 have h3:=gen' l.len 0 (Nat.zero_add _) (by show idx l t<l.len;rw [<-e];exact h1)
 rw [<-h2,<-h3]
 show sAt l (idx l t)=sAt l (idx l s)
 rw [e]
theorem zgl {c:D} {a b:GD} {i j:Int} {x:Nat}:clE c a b i j x=if cA (el c x)≠ []/\(a.rk≠cA (el c x)\/b.rk≠cA (el c x)) then 0 else zel (λp q:GD×Int=>zmY (cK (el c x)) (cL (el c x)) (cNm (el c x)) (cN (el c x)) p.1 q.1 p.2 q.2) (a,i) (b,j):=rfl
theorem zke {c:D} (h:(zbm c).2=0):∀x,x<c.len->zhT c x=0:=by
 unfold zbm at h
 by_cases hl:32<c.len
 .rw [if_pos hl] at h;cases h
 .rw [if_neg hl] at h
  have gen:∀(f i:Nat),i+f=c.len->(zbM c f i).2=0->∀x,i<=x->x<c.len->zhT c x=0:=by
   intro f
   induction f with
   |zero=>intro i hi _ x h1 h2;omega
   |succ f ih=>
    intro i hi h x h1 h2
    unfold zbM at h
    by_cases e:zhT c i≠0
    .rw [if_pos e] at h;exact absurd h e
    .rw [if_neg e] at h
     by_cases k:x=i
     .subst k;exact Classical.byContradiction e
     .exact ih (i+1) (by omega) h x (by omega) h2
  exact λx hx=>gen c.len 0 (Nat.zero_add _) h x (Nat.zero_le _) hx
theorem zjn {c:D} {x:Nat} (h:zhT c x=0):zbq (cK (el c x)) (cA (el c x)) (cL (el c x)) (cNm (el c x)).len (cN (el c x))/\(cA (el c x)= []\/zaP c x (cA (el c x))):=by
 unfold zhT zcH at h
 by_cases h1:zbq (cK (el c x)) (cA (el c x)) (cL (el c x)) (cNm (el c x)).len (cN (el c x))
 .refine ⟨h1, ?_⟩
  rw [if_neg (λk=>k h1)] at h
  by_cases h2:zfP (cNm (el c x))\/(cA (el c x)≠ []/\¬zaY (cA (el c x)))
  .rw [if_pos h2] at h;cases h
  .rw [if_neg h2] at h
   by_cases h3:zbi (cNm (el c x))
   .rw [if_pos h3] at h;cases h
   .rw [if_neg h3] at h
    by_cases h4:cA (el c x)≠ []/\¬zaP c x (cA (el c x))
    .rw [if_pos h4] at h;cases h
    .by_cases e:cA (el c x)= []
     .exact .inl e
     .exact .inr (Classical.byContradiction λk=>h4 ⟨e,k⟩)
 .rw [if_pos h1] at h;cases h
theorem zmN {c:D} (hv:(zbm c).2=0) {x:Nat} (hx:x<c.len) (hne:cA (el c x)≠ []) {a b:GD} {i j:Int} (h:zih (clE c a b i j) x=0):a.rk=cA (el c x)↔b.rk=cA (el c x):=by
 obtain ⟨k,hk,h1,h2⟩:=((zjn (zke hv x hx)).2.resolve_left hne).out
 have hf:=(zjn (zke hv k (by omega))).1
 have ha:cA (el c k)= []:=by rcases hf.out with f|f|f|f|f|f<;>first|exact f.2.2.2.2.2|omega
 have h0:=zii h k hk
 rw [zgl,if_neg (λq=>q.1 ha)] at h0
 unfold zel at h0
 have n1:¬idx (cNm (el c k)) a.rk<idx (cNm (el c k)) b.rk:=λq=>by
  rw [if_pos ⟨.inl ⟨h1,q⟩⟩] at h0;cases h0
 have n2:¬idx (cNm (el c k)) b.rk<idx (cNm (el c k)) a.rk:=λq=>by
  rw [if_neg (λz=>n1 (by rcases z.out with z|z|z|z|z|z|z<;>first|exact z.2|omega)),if_pos ⟨.inl ⟨h1,q⟩⟩] at h0;cases h0
 have e:idx (cNm (el c k)) a.rk=idx (cNm (el c k)) b.rk:=by omega
 constructor
 .intro q;exact zpp h2 (by rw [<-q];exact e)
 .intro q;exact zpp h2 (by rw [<-q];exact e.symm)
def zwJ (c:D) (p q:GD×Int):Int:=zih (clE c p.1 q.1 p.2 q.2) c.len
theorem zsT {c:D} (hv:(zbm c).2=0):wkP (λp:GD×Int=>inB p.2) (zwJ c):=by
 have hb:∀x,wkP (λp:GD×Int=>inB p.2) (zel (λp q:GD×Int=>zmY (cK (el c x)) (cL (el c x)) (cNm (el c x)) (cN (el c x)) p.1 q.1 p.2 q.2)):=λx=>
  zxe (λa b _ _ h=>zv0 h) (λa b d _ _ hd h=>zv1 d.1 hd h)
 refine zxf (f:=λ(p q:GD×Int)=>clE c p.1 q.1 p.2 q.2) (λk _ a b=> ?_) (λk _ a b h1 h2=> ?_) (λk hk a b d h1 h2 h3 t1 t2 l1 l2=> ?_)
 .rw [zgl];split
  .exact .inr (.inl rfl)
  .exact (hb k).rng _ _
 .rw [zgl,zgl]
  by_cases q:cA (el c k)≠ []/\(a.1.rk≠cA (el c k)\/b.1.rk≠cA (el c k))
  .rw [if_pos q,if_pos ⟨q.1,q.2.symm⟩];rfl
  .rw [if_neg q,if_neg (λz=>q ⟨z.1,z.2.symm⟩)];exact (hb k).anti _ _ h1 h2
 .rw [zgl] at l1 l2⊢
  rw [zgl,zgl]
  by_cases e:cA (el c k)= []
  .have n:∀p:Prop,¬(cA (el c k)≠ []/\p):=λ_ q=>q.1 e
   rw [if_neg (n _)] at l1 l2⊢
   rw [if_neg (n _),if_neg (n _)]
   exact (hb k).tri _ _ _ h1 h2 h3 l1 l2
  .have r1:=zmN hv hk e t1
   have r2:=zmN hv hk e t2
   by_cases q:a.1.rk=cA (el c k)
   .have q2:=r1.1 q
    have q3:=r2.1 q2
    rw [if_neg (λz=>z.2.elim (λz=>z q) (λz=>z q2))] at l1
    rw [if_neg (λz=>z.2.elim (λz=>z q2) (λz=>z q3))] at l2
    rw [if_neg (λz=>z.2.elim (λz=>z q) (λz=>z q3)),if_neg (λz=>z.2.elim (λz=>z q) (λz=>z q2)),if_neg (λz=>z.2.elim (λz=>z q2) (λz=>z q3))]
    exact (hb k).tri _ _ _ h1 h2 h3 l1 l2
   .have q2:b.1.rk≠cA (el c k):=λz=>q (r1.2 z)
    rw [if_pos ⟨e,.inl q⟩,if_pos ⟨e,.inl q⟩,if_pos ⟨e,.inl q2⟩];rfl
end
end Go.Ev

end

section
namespace Go.Ev
noncomputable section
open Classical in
def zeC {α:Type} (f:α->α->Int) (e:α) (P:List α):Nat->Nat
 |0=>0
 |j+1=>match P[j]? with|some x=>if f e x<0 then zeC f e P j else j+1|none=>j+1
def ztj {α:Type} (f:α->α->Int) (e:α) (P:List α):List α:=P.take (zeC f e P P.length)++e::P.drop (zeC f e P P.length)
def zi1 {α:Type} (f:α->α->Int):List α->List α->List α
 |P,[]=>P
 |P,e::l=>zi1 f (ztj f e P) l
theorem zs4 {α:Type} {f:α->α->Int} {e:α} {P:List α}:∀j,zeC f e P j<=j
 |0=>Nat.le_refl _
 |j+1=>by
  unfold zeC
  split
  .split
   .have:=zs4 (f:=f) (e:=e) (P:=P) j;omega
   .omega
  .omega
theorem zjj {α:Type} {f:α->α->Int} {e:α} {P:List α}:∀j i x,zeC f e P j<=i->i<j->P[i]? =some x->f e x<0
 |0,_,_,_,h,_=>absurd h (Nat.not_lt_zero _)
 |j+1,i,x,h1,h2,h3=>by
  unfold zeC at h1
  split at h1
  .rename_i y hy
   split at h1
   .by_cases e:i=j
    .subst e;rw [hy] at h3;cases h3;assumption
    .exact zjj j i x h1 (by omega) h3
   .omega
  .omega
theorem zs3 {α:Type} {f:α->α->Int} {e:α} {P:List α}:∀j,0<zeC f e P j->j<=P.length->∃x,P[zeC f e P j-1]? =some x/\¬f e x<0
 |0,h,_=>absurd h (Nat.not_lt_zero _)
 |j+1,h,hl=>by
  unfold zeC at h⊢
  have hj:P[j]? =some P[j]:=List.getElem?_eq_getElem (by omega)
  rw [hj] at h⊢
  by_cases c:f e P[j]<0
  .simp only [if_pos c] at h⊢
   exact zs3 j h (by omega)
  .simp only [if_neg c] at h⊢
   exact ⟨_,hj,c⟩
theorem zh4 {α:Type} {f:α->α->Int} {e:α} {P:List α}:(ztj f e P).Perm (e::P):=by
 unfold ztj
 refine List.perm_middle.trans ?_
 rw [List.take_append_drop]
theorem zeX {α:Type} {f:α->α->Int}:∀(l P:List α),(zi1 f P l).Perm (P++l)
 | [],P=>by unfold zi1;rw [List.append_nil]
 |e::l,P=>by
  unfold zi1
  refine (zeX l _).trans ?_
  refine (zh4.append_right l).trans ?_
  exact List.perm_middle.symm
def ltP {α:Type} (f:α->α->Int) (p:α->Int) (x y:α):Prop:=f x y<0\/(f x y=0/\p x<p y)
theorem zpI {α:Type} {A:α->Prop} {f:α->α->Int} (h:wkP A f) {p:α->Int} {x y z:α} (hx:A x) (hy:A y) (hz:A z) (h1:ltP f p x y) (h2:ltP f p y z):ltP f p x z:=by
 have:=h.tri x y z hx hy hz (by rcases h1 with h|h<;>omega) (by rcases h2 with h|h<;>omega)
 unfold ltP at*
 omega
theorem zu9 {α:Type} {R:α->α->Prop} {l:List α} (h:l.Pairwise R) {i j:Nat} {x y:α} (hij:i<j) (hx:l[i]? =some x) (hy:l[j]? =some y):R x y:=by
 obtain ⟨a,rfl⟩:=List.getElem?_eq_some_iff.1 hx
 obtain ⟨b,rfl⟩:=List.getElem?_eq_some_iff.1 hy
 exact List.pairwise_iff_getElem.1 h i j a b hij
theorem zna {α:Type} {A:α->Prop} {f:α->α->Int} (h:wkP A f) {p:α->Int} {e:α} {P:List α} (he:A e) (hP:∀x,x∈P->A x) (hs:P.Pairwise (ltP f p)) (hp:∀x,x∈P->p x<p e):(ztj f e P).Pairwise (ltP f p):=by
 unfold ztj
 have hle:=zs4 (f:=f) (e:=e) (P:=P) P.length
 have aft:=zjj (f:=f) (e:=e) (P:=P) P.length
 have att:=zs3 (f:=f) (e:=e) (P:=P) P.length
 generalize hk:zeC f e P P.length=k at hle aft att⊢
 have hbefore:∀x,x∈P.take k->ltP f p x e:=by
  intro x hx
  obtain ⟨i,hi⟩:=List.getElem?_of_mem hx
  have hik:i<k:=by
   have:=(List.getElem?_eq_some_iff.1 hi).1
   rw [List.length_take] at this;omega
  rw [List.getElem?_take_of_lt hik] at hi
  obtain ⟨y,hy,hny⟩:=att (by omega) (Nat.le_refl _)
  have hym:y∈P:=List.mem_of_getElem? hy
  have hye:ltP f p y e:=by
   have a:=h.anti y e (hP y hym) he
   have b:=hp y hym
   have c:=h.rng y e
   unfold ltP;omega
  by_cases c:i=k-1
  .subst c;rw [hi] at hy;cases hy;exact hye
  .exact zpI h (hP x (List.mem_of_getElem? hi)) (hP y hym) he (zu9 hs (by omega) hi hy) hye
 have hafter:∀x,x∈P.drop k->ltP f p e x:=by
  intro x hx
  obtain ⟨i,hi⟩:=List.getElem?_of_mem hx
  rw [List.getElem?_drop] at hi
  exact .inl (aft (k+i) x (by omega) (List.getElem?_eq_some_iff.1 hi).1 hi)
 have hpw:=hs
 rw [<-List.take_append_drop k P,List.pairwise_append] at hpw
 rw [List.pairwise_append,List.pairwise_cons]
 refine ⟨hpw.1,⟨hafter,hpw.2.1⟩,λx hx y hy=> ?_⟩
 rcases List.mem_cons.1 hy with rfl|hy
 .exact hbefore x hx
 .exact hpw.2.2 x hx y hy
theorem zhC {α:Type} {A:α->Prop} {f:α->α->Int} (h:wkP A f) {p:α->Int}:∀(l P:List α),(∀x,x∈P->A x)->(∀x,x∈l->A x)->P.Pairwise (ltP f p)->(∀x y,x∈P->y∈l->p x<p y)->l.Pairwise (λx y=>p x<p y)->(zi1 f P l).Pairwise (ltP f p)
 | [],P,_,_,hs,_,_=>hs
 |e::l,P,h1,h2,hs,hp,hl=>by
  unfold zi1
  rw [List.pairwise_cons] at hl
  refine zhC h l _ (λx hx=> ?_) (λx hx=>h2 x (List.mem_cons_of_mem _ hx)) (zna h (h2 e (List.mem_cons_self ..)) h1 hs λx hx=>hp x e hx (List.mem_cons_self ..)) (λx y hx hy=> ?_) hl.2
  .rcases List.mem_cons.1 (zh4.mem_iff.1 hx) with rfl|hx
   .exact h2 _ (List.mem_cons_self ..)
   .exact h1 x hx
  .rcases List.mem_cons.1 (zh4.mem_iff.1 hx) with rfl|hx
   .exact hl.1 y hy
   .exact hp x y hx (List.mem_cons_of_mem _ hy)
open Classical in
def zc5 {α:Type} (f:α->α->Int):List α->List (List α)
 | []=> []
 | [x]=> [[x]]
 |x::y::l=>if f x y≠0 then [x]::zc5 f (y::l) else match zc5 f (y::l) with|g::gs=>(x::g)::gs| []=> [[x]]
structure zyk {α:Type} (f:α->α->Int) (p:α->Int) (some:List α) (out:List (List α)):Prop where
 perm:out.flatten.Perm some
 ne:∀g,g∈out->g≠ []
 inc:∀g,g∈out->g.Pairwise (λx y=>p x<p y)
 tie:∀g,g∈out->∀x y,x∈g->y∈g->f x y=0
 bef:out.Pairwise (λg h=>∀x y,x∈g->y∈h->f x y<0)
theorem zcA {α:Type} {f:α->α->Int}:∀l:List α,(zc5 f l).flatten=l
 | []=>rfl
 | [x]=>rfl
 |x::y::l=>by
  unfold zc5
  have ih:=zcA (f:=f) (y::l)
  split
  .rw [List.flatten_cons,ih];rfl
  .split
   .rename_i g gs hg
    rw [hg] at ih
    rw [List.flatten_cons] at ih⊢
    rw [List.cons_append,ih]
   .rename_i hg
    rw [hg] at ih;cases ih
theorem zj1 {α:Type} {f:α->α->Int}:∀l:List α,∀g,g∈zc5 f l->g≠ []
 | [],g,h=>by cases h
 | [x],g,h=>by rcases List.mem_cons.1 h with rfl|h;exact List.cons_ne_nil _ _;cases h
 |x::y::l,g,h=>by
  unfold zc5 at h
  have ih:=zj1 (f:=f) (y::l)
  split at h
  .rcases List.mem_cons.1 h with rfl|h
   .exact List.cons_ne_nil _ _
   .exact ih g h
  .split at h
   .rename_i g' gs hg
    rcases List.mem_cons.1 h with rfl|h
    .exact List.cons_ne_nil _ _
    .exact ih g (by rw [hg];exact List.mem_cons_of_mem _ h)
   .rcases List.mem_cons.1 h with rfl|h
    .exact List.cons_ne_nil _ _
    .cases h
theorem zmD {α:Type} {f:α->α->Int} (y:α) (l:List α):∃r gs,zc5 f (y::l)=(y::r)::gs:=by
 cases l with
 |nil=>exact ⟨[],[],rfl⟩
 |cons z l=>
  unfold zc5
  split
  .exact ⟨[],_,rfl⟩
  .split
   .exact ⟨_,_,rfl⟩
   .exact ⟨[],[],rfl⟩
theorem zqw {α:Type} {A:α->Prop} {f:α->α->Int} (h:wkP A f) {p:α->Int}:∀(l:List α),(∀x,x∈l->A x)->l.Pairwise (ltP f p)->zyk f p l (zc5 f l)
 | [],_,_=>⟨.refl _,λg h=>(by cases h),λg h=>(by cases h),λg h=>(by cases h),.nil⟩
 | [x],hA,_=>⟨.refl _,zj1 _,(λg h=>by
   rcases List.mem_cons.1 h with rfl|h
   .exact List.pairwise_singleton _ _
   .cases h),(λg hg a b ha hb=>by
   rcases List.mem_cons.1 hg with rfl|hg
   .rw [List.mem_singleton.1 ha,List.mem_singleton.1 hb]
    have:=h.anti x x (hA x (List.mem_cons_self ..)) (hA x (List.mem_cons_self ..));omega
   .cases hg),List.pairwise_singleton _ _⟩
 |x::y::l,hA,hs=>by
  have ih:=zqw h (y::l) (λz hz=>hA z (List.mem_cons_of_mem _ hz)) (List.pairwise_cons.1 hs).2
  have hfl:=zcA (f:=f) (y::l)
  obtain ⟨r,gs,hr⟩:=zmD (f:=f) y l
  have hxA:=hA x (List.mem_cons_self ..)
  have hyA:=hA y (List.mem_cons_of_mem _ (List.mem_cons_self ..))
  have hxx:=h.anti x x hxA hxA
  have hxy:=(List.pairwise_cons.1 hs).1 y (List.mem_cons_self ..)
  have memA:∀g,g∈zc5 f (y::l)->∀z,z∈g->z∈y::l:=λg hg z hz=>by rw [<-hfl];exact List.mem_flatten.2 ⟨g,hg,hz⟩
  have hxz:∀z,z∈y::l->f x z<=0:=λz hz=>by have:=(List.pairwise_cons.1 hs).1 z hz;unfold ltP at this;omega
  by_cases c:f x y≠0
  .have e:zc5 f (x::y::l)= [x]::zc5 f (y::l):=by show (if _ then _ else _)=_;rw [if_pos c]
   rw [e]
   refine ⟨by rw [<-e,zcA],(λg hg=>by rw [<-e] at hg;exact zj1 _ g hg),(λg hg=> ?_),(λg hg a b ha hb=> ?_),List.pairwise_cons.2 ⟨λg hg a b ha hb=> ?_,ih.bef⟩⟩
   .rcases List.mem_cons.1 hg with rfl|hg
    .exact List.pairwise_singleton _ _
    .exact ih.inc g hg
   .rcases List.mem_cons.1 hg with rfl|hg
    .rw [List.mem_singleton.1 ha,List.mem_singleton.1 hb];omega
    .exact ih.tie g hg a b ha hb
   .rw [List.mem_singleton.1 ha]
    have hbm:=memA g hg b hb
    have hyb:f y b<=0:=by
     rcases List.mem_cons.1 hbm with rfl|hb'
     .have:=h.anti b b hyA hyA;omega
     .have:=(List.pairwise_cons.1 (List.pairwise_cons.1 hs).2).1 b hb';unfold ltP at this;omega
    have:=h.tri x y b hxA hyA (hA b (List.mem_cons_of_mem _ hbm)) (hxz y (List.mem_cons_self ..)) hyb
    have:=hxz y (List.mem_cons_self ..)
    omega
  .have c:f x y=0:=by omega
   have e:zc5 f (x::y::l)=(x::y::r)::gs:=by show (if _ then _ else _)=_;rw [if_neg (by omega),hr]
   have tz:∀z,z∈y::r->f x z=0/\f z x=0:=λz hz=>by
    have hzm:=memA (y::r) (by rw [hr];exact List.mem_cons_self ..) z hz
    have hzA:=hA z (List.mem_cons_of_mem _ hzm)
    have t:=ih.tie (y::r) (by rw [hr];exact List.mem_cons_self ..) y z (List.mem_cons_self ..) hz
    have:=h.tri x y z hxA hyA hzA (by omega) (by omega)
    have:=h.anti x z hxA hzA
    omega
   have memB:=memA
   rw [hr] at ih memB
   rw [e]
   refine ⟨by rw [<-e,zcA],(λg hg=>by rw [<-e] at hg;exact zj1 _ g hg),(λg hg=> ?_),(λg hg a b ha hb=> ?_),List.pairwise_cons.2 ⟨λg hg a b ha hb'=> ?_,(List.pairwise_cons.1 ih.bef).2⟩⟩
   .rcases List.mem_cons.1 hg with rfl|hg
    .refine List.pairwise_cons.2 ⟨λz hz=> ?_,ih.inc _ (List.mem_cons_self ..)⟩
     have a:=(List.pairwise_cons.1 hs).1 z (memB _ (List.mem_cons_self ..) z hz)
     have b:=(tz z hz).1
     unfold ltP at a;omega
    .exact ih.inc g (List.mem_cons_of_mem _ hg)
   .rcases List.mem_cons.1 hg with rfl|hg
    .rcases List.mem_cons.1 ha with ea|ha<;>rcases List.mem_cons.1 hb with eb|hb
     .rw [ea,eb];omega
     .rw [ea];exact (tz b hb).1
     .rw [eb];exact (tz a ha).2
     .exact ih.tie _ (List.mem_cons_self ..) a b ha hb
    .exact ih.tie g (List.mem_cons_of_mem _ hg) a b ha hb
   .have hbm:=memB g (List.mem_cons_of_mem _ hg) b hb'
    have q:=(List.pairwise_cons.1 ih.bef).1 g hg
    rcases List.mem_cons.1 ha with rfl|ha
    .have q:=q y b (List.mem_cons_self ..) hb'
     have:=h.tri a y b hxA hyA (hA b (List.mem_cons_of_mem _ hbm)) (by omega) (by omega)
     omega
    .exact q a b ha hb'
end
end Go.Ev

end
