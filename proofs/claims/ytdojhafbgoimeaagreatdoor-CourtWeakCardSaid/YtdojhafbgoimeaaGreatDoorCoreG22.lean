/- Part of the proof. -/
import Derived.Test.YtdojhafbgoimeaaGreatDoorCoreKit
import Derived.Test.YtdojhafbgoimeaaGreatDoorProg
import Derived.Test.YtdojhafbgoimeaaGreatDoorCoreG0
import Derived.Test.YtdojhafbgoimeaaGreatDoorCoreSeC

section
open Go.Proofs
namespace Go.Ev
noncomputable section
def el (l:D) (i:Nat):D:=zas l.asList i
def sAt (l:D) (i:Nat):List UInt8:=(zas l.asList i).asStr
def cK (d:D):Int:=(d.fld 0).asInt
def cA (d:D):List UInt8:=(d.fld 1).asStr
def cL (d:D):Prop:=(d.fld 2).asProp
def cNm (d:D):D:=d.fld 3
def cN (d:D):Int:=(d.fld 4).asInt
structure zaB (s:List UInt8):Prop where
 out:1<=s.length/\s.length<=12/\∀i,i<s.length->97<=zak s i/\zak s i<=122
structure zbn (l:D) (s:List UInt8):Prop where
 out:∃i,i<l.len/\sAt l i=s
structure zeS (l:D):Prop where
 out:∃i,i<l.len/\¬zaB (sAt l i)
structure zbc (l:D):Prop where
 out:∃i k,k<i/\i<l.len/\sAt l k=sAt l i
structure zaJ (c:D) (n:Nat) (s:List UInt8):Prop where
 out:∃k,k<n/\cK (el c k)=1/\zbn (cNm (el c k)) s
structure eqS (a b:D):Prop where
 out:a.len=b.len/\∀i,i<a.len->sAt a i=sAt b i
structure zax (k:Int) (a:List UInt8) (la:Prop) (m:Nat) (n:Int):Prop where
 out:(k=1/\1<=m/\m<=16/\n=0/\¬la/\a= [])\/((k=2\/k=3\/k=8\/k=9)/\m=0/\n=0/\¬la)\/
  (k=4/\m=0/\1<=n/\n<=2)\/(k=5/\m=0/\n=0)\/((k=6\/k=7)/\1<=m/\m<=16/\n=0)\/(k=10/\m=0/\0<=n/\n<=63/\¬la)
open Classical in
def zcy (c:D) (i:Nat) (k:Int) (a:List UInt8) (la:Prop) (nm:D) (n:Int):Int:=
 if ¬zax k a la nm.len n then 30 else if zeS nm\/(a≠ []/\¬zaB a) then 4 else if zbc nm then 5 else if a≠ []/\¬zaJ c i a then 31 else 0
def zcM (c:D) (i:Nat):Int:=zcy c i (cK (el c i)) (cA (el c i)) (cL (el c i)) (cNm (el c i)) (cN (el c i))
open Classical in
def zbk (l:D):Nat->Nat->Int×Int
 |0,_=>(0,0)
 |f+1,i=>if zcM l i≠0 then ((i:Nat),zcM l i) else zbk l f (i+1)
open Classical in
def zbl (l:D):Int×Int:=if 32<l.len then (0,7) else zbk l l.len 0
structure zaE (c:D):Prop where
 out:c.len<=100/\∀i,i<c.len->(cNm (el c i)).len<=100
structure zr8 (d:D):Prop where
 out:(cA d).length<=40/\(cNm d).len<=20/\∀i,i<(cNm d).len->(sAt (cNm d) i).length<=40
structure zp4 (c:D):Prop where
 out:c.len<=40/\∀i,i<c.len->zr8 (el c i)
def zdV (l:List D):D:=match l with| []=> .nil|l=> .list l
def ztk (d:D):D:= .sct [.int (cK d),.str (cA d),.bool (cL d),.list (cNm d).asList,.int (cN d)]
def zbh (l:D) (n:Nat):List D:=(List.range n).map λi=>ztk (el l i)
def ziC (l:D):D:=zdV (zbh l l.len)
structure zoH (a b:D):Prop where
 out:cK a=cK b/\cA a=cA b/\(cL a↔cL b)/\cN a=cN b/\eqS (cNm a) (cNm b)
structure ze4 (a b:D):Prop where
 out:a.len=b.len/\∀i,i<a.len->zoH (el a i) (el b i)
def zd1 (x:Nat):List D:=(List.range 256).map λk=>D.bool (97<=k/\k<97+x)
def zjO:List UInt8:= [97,98,99,100,101,102,103,104,105,106,107,108,109,110,111,112,113,114,115,116,117,118,119,120,121,122]
def zb3:List D:= [.sct [.str [],.int 0,.int 0,.bool (false=true),.bool (false=true),.bool (false=true)],
 .sct [.str [114,97,110,107],.int 0,.int 0,.bool (false=true),.bool (true=true),.bool (true=true)],
 .sct [.str [101,108,100,101,114],.int 0,.int 0,.bool (false=true),.bool (false=true),.bool (false=true)],
 .sct [.str [121,111,117,116,104],.int 0,.int 0,.bool (false=true),.bool (false=true),.bool (false=true)],
 .sct [.str [115,105,100,101],.int 1,.int 2,.bool (true=true),.bool (false=true),.bool (false=true)],
 .sct [.str [104,111,115,116],.int 0,.int 0,.bool (true=true),.bool (false=true),.bool (false=true)],
 .sct [.str [116,111,110,103,117,101],.int 0,.int 0,.bool (true=true),.bool (true=true),.bool (false=true)],
 .sct [.str [99,111,117,114,116],.int 0,.int 0,.bool (true=true),.bool (true=true),.bool (false=true)],
 .sct [.str [110,97,109,101],.int 0,.int 0,.bool (false=true),.bool (false=true),.bool (false=true)],
 .sct [.str [108,105,115,116],.int 0,.int 0,.bool (false=true),.bool (false=true),.bool (false=true)],
 .sct [.str [108,111,116],.int 0,.int 63,.bool (false=true),.bool (false=true),.bool (false=true)]]
def zfV:Con:=λ| [.dat 29 l,.str s]=>some (l.len<=100,.prop (zbn l s))|_=>none
def zg0:Con:=λ| [.str s]=>some (True,.prop (zaB s))|_=>none
def zrS:Con:=λ| [.dat 29 a,.dat 29 b]=>some (a.len<=100,.prop (eqS a b))|_=>none
def zg1:Con:=λ| [.agg [.int .u8 k,.str a,.prop la,.dat 29 nm,.int .i64 n]]=>some (True,.prop (zax k a la nm.len n))|_=>none
def znh:Con:=λ| [.dat 29 l]=>some (l.len<=100,.prop (zbc l))|_=>none
def zni:Con:=λ| [.dat 22 c,.str s]=>some (zaE c,.prop (zaJ c c.len s))|_=>none
def znc:Con:=λ| [.dat 22 b,.agg [.int .u8 k,.str a,.prop la,.dat 29 nm,.int .i64 n]]=>some (zaE b/\nm.len<=100,.int .i64 (zcy b b.len k a la nm n))|_=>none
def zne:Con:=λ| [.dat 22 c,.int .i64 i]=>some ((0<=i/\i<c.len)/\zaE c,.int .i64 (zcM c i.toNat))|_=>none
def zlT:Con:=λ| [.dat 22 c]=>some (zaE c,.tup [.int .i64 (zbl c).1,.int .i64 (zbl c).2])|_=>none
def zna:Con:=fun
 | [.agg [.int .u8 k,.str a,.prop la,.dat 29 nm,.int .i64 n],.agg [.int .u8 k',.str a',.prop la',.dat 29 nm',.int .i64 n']]=>some (nm.len<=100,.prop (k=k'/\a=a'/\(la↔la')/\n=n'/\eqS nm nm'))
 |_=>none
def zrR:Con:=λ| [.dat 22 a,.dat 22 b]=>some (zaE a,.prop (ze4 a b))|_=>none
def zrQ:Con:=λ| [.dat 22 c]=>some (zaE c,.dat 22 (ziC c))|_=>none
def zrL:Con:=λ| [.dat 22 c]=>some (True,.prop (zp4 c))|_=>none
def cc1:FuncId->Option Con
 |103=>some zfV
 |137=>some zfV
 |136=>some zg0
 |102=>some zg0
 |81=>some zrS
 |201=>some zg1
 |168=>some zg1
 |_=>none
def zt0:Con:=λ| [_,_]=>some (False,.str [])|_=>none
def cc0:FuncId->Option Con
 |198=>some zt0
 |199=>some zt0
 |_=>none
def cc2:FuncId->Option Con
 |169=>some znh
 |170=>some zni
 |124=>some zna
 |g=>cc1 g
def cc3:FuncId->Option Con
 |130=>some znc
 |154=>some zne
 |69=>some zrR
 |60=>some zrQ
 |15=>some zrL
 |g=>cc2 g
def cc4:FuncId->Option Con
 |98=>some zlT
 |117=>some zlT
 |g=>cc3 g
def zaR:FuncId->Nat->Option Ann
 |45,2=>some {τ:=Nat,slots:=λ_ _ x=> [(8,.int .i64 x)],blks:=λ_ _ _=> [],inv:=λS _ x=>x<=(slD S 0).len/\∀i,i<x->sAt (slD S 0) i≠slS S 1,meas:=λS _ x=>(slD S 0).len-x}
 |137,2=>some {τ:=Nat,slots:=λ_ _ x=> [(5,.int .i64 x)],blks:=λ_ _ _=> [],inv:=λS _ x=>x<=(slD S 0).len/\∀i,i<x->sAt (slD S 0) i≠slS S 1,meas:=λS _ x=>(slD S 0).len-x}
 |136,4=>some {τ:=Nat,slots:=λ_ _ x=> [(3,.int .i64 x)],blks:=λ_ _ _=> [],inv:=λS _ x=>x<=(slS S 0).length/\∀i,i<x->97<=zak (slS S 0) i/\zak (slS S 0) i<=122,meas:=λS _ x=>(slS S 0).length-x}
 |81,4=>some {τ:=Nat,slots:=λ_ _ x=> [(13,.int .i64 x)],blks:=λ_ _ _=> [],inv:=λS _ x=>x<=(slD S 0).len/\∀i,i<x->sAt (slD S 0) i=sAt (slD S 1) i,meas:=λS _ x=>(slD S 0).len-x}
 |169,2=>some {τ:=Nat,slots:=λ_ _ x=> [(7,.int .i64 x)],blks:=λ_ _ _=> [],inv:=λS _ x=>x<=(slD S 0).len/\∀i k,k<i->i<x->sAt (slD S 0) k≠sAt (slD S 0) i,meas:=λS _ x=>(slD S 0).len-x}
 |76,2=>some {τ:=Nat,slots:=λ_ _ x=> [(8,.int .i64 x)],blks:=λ_ _ _=> [],inv:=λS _ x=>x<=(slD S 0).len/\∀i,i<x->zaB (sAt (slD S 0) i),meas:=λS _ x=>(slD S 0).len-x}
 |154,6=>some {τ:=Nat,slots:=λ_ _ x=> [(5,.int .i64 x)],blks:=λ_ _ _=> [],inv:=λS _ x=>x<=(cNm (el (slD S 0) (slI S 1).toNat)).len/\∀i,i<x->zaB (sAt (cNm (el (slD S 0) (slI S 1).toNat)) i),meas:=λS _ x=>(cNm (el (slD S 0) (slI S 1).toNat)).len-x}
 |154,11=>some {τ:=Nat,slots:=λ_ _ x=> [(6,.int .i64 x)],blks:=λ_ _ _=> [],inv:=λS _ x=>x<=(cNm (el (slD S 0) (slI S 1).toNat)).len/\∀i k,k<i->i<x->sAt (cNm (el (slD S 0) (slI S 1).toNat)) k≠sAt (cNm (el (slD S 0) (slI S 1).toNat)) i,meas:=λS _ x=>(cNm (el (slD S 0) (slI S 1).toNat)).len-x}
 |154,18=>some {τ:=Nat,slots:=λ_ _ x=> [(7,.int .i64 x)],blks:=λ_ _ _=> [],inv:=λS _ x=>x<=(slI S 1).toNat/\∀k,k<x->¬(cK (el (slD S 0) k)=1/\zbn (cNm (el (slD S 0) k)) (cA (el (slD S 0) (slI S 1).toNat))),meas:=λS _ x=>(slI S 1).toNat-x}
 |98,4=>some {τ:=Nat,slots:=λ_ _ x=> [(12,.int .i64 x)],blks:=λ_ _ _=> [],inv:=λS _ x=>x<=(slD S 0).len/\zbk (slD S 0) ((slD S 0).len-x) x=zbk (slD S 0) (slD S 0).len 0,meas:=λS _ x=>(slD S 0).len-x}
 |117,4=>some {τ:=Nat,slots:=λ_ _ x=> [(4,.int .i64 x)],blks:=λ_ _ _=> [],inv:=λS _ x=>x<=(slD S 0).len/\zbk (slD S 0) ((slD S 0).len-x) x=zbk (slD S 0) (slD S 0).len 0,meas:=λS _ x=>(slD S 0).len-x}
 |123,4=>some {τ:=Nat,slots:=λ_ _ x=> [(17,.int .i64 x)],blks:=λ_ _ _=> [],inv:=λS _ x=>x<=(slD S 0).len/\∀i,i<x->zoH (el (slD S 0) i) (el (slD S 1) i),meas:=λS _ x=>(slD S 0).len-x}
 |60,3=>some {hs:=2,τ:=Nat,slots:=λ_ i x=>match i with|0=> [(8,.int .i64 0),(3,.val (.slice none 0 0))]|_=> [(8,.int .i64 x),(3,.slc 60 (.lit 0) (.sym x) none)],blks:=λS i x=>match i with|0=> []|_=> [(60,.arr 69 (zbh (slD S 0) x))],inv:=λS i x=>match i with|0=>x=0|_=>0<x/\x<=(slD S 0).len,meas:=λS _ x=>(slD S 0).len-x}
 |195,2=>some {τ:=Nat,slots:=λ_ _ x=> [(4,.int .i64 x)],blks:=λ_ _ x=> [(0,.grd 214 4 (zd1 x))],inv:=λ_ _ x=>x<=26,meas:=λ_ _ x=>26-x}
 |197,1=>some {τ:=Nat,slots:=λS _ x=> [(0,.str ((slS S 0).take x))],blks:=λ_ _ _=> [(1,.grd 214 4 (zd1 26))],inv:=λS _ x=>x<=(slS S 0).length/\∀i,x<=i->i<(slS S 0).length->97<=zak (slS S 0) i/\zak (slS S 0) i<=122,meas:=λ_ _ x=>x}
 |196,1=>some {τ:=Nat,slots:=λS _ x=> [(0,.str ((slS S 0).drop x))],blks:=λ_ _ _=> [(1,.grd 214 4 (zd1 26))],inv:=λS _ x=>x<=(slS S 0).length/\∀i,i<x->97<=zak (slS S 0) i/\zak (slS S 0) i<=122,meas:=λS _ x=>(slS S 0).length-x}
 |_,_=>none
def znM:FuncId->Nat->Option Ann
 |76,2=>some {τ:=Nat,slots:=λ_ _ x=> [(8,.int .i64 x)],blks:=λ_ _ _=> [],inv:=λS _ x=>x<=(slD S 0).len/\∀i,i<x->(sAt (slD S 0) i).length<=40,meas:=λS _ x=>(slD S 0).len-x}
 |101,2=>some {τ:=Nat,slots:=λ_ _ x=> [(8,.int .i64 x)],blks:=λ_ _ _=> [],inv:=λS _ x=>x<=(slD S 0).len/\∀i,i<x->zr8 (el (slD S 0) i),meas:=λS _ x=>(slD S 0).len-x}
 |_,_=>none
def zoe (s:List UInt8):FuncId->Nat->Option Ann
 |101,2=>some {τ:=Nat,slots:=λ_ _ x=> [(8,.int .i64 x)],blks:=λ_ _ _=> [],inv:=λS _ x=>x<=(slD S 0).len/\∀k,k<x->¬(cK (el (slD S 0) k)=1/\zbn (cNm (el (slD S 0) k)) s),meas:=λS _ x=>(slD S 0).len-x}
 |_,_=>none
def ctx (con:FuncId->Option Con) (ann:FuncId->Nat->Option Ann):Ctx:={P:=Tryz.prog,con:=con,ora:=λg=>cond (Nat.beq g 18) (some (.bool true)) none,bits:=65185151242703554760590262029100101153646988597309960020356494379340201592426774597868716031,ann:=ann}
instance (con:FuncId->Option Con) (ann:FuncId->Nat->Option Ann):Nonempty (NoF (ctx con ann)):=⟨⟨λ_ _ h=>zde h⟩⟩
end
end Go.Ev

end

section
open Go.Proofs
namespace Go.Ev
noncomputable section
structure GD where
 nm:List UInt8
 rk:List UInt8
 ct:List UInt8
 si:Int
 sd:Int
 di:List UInt8
 ho:Prop
 ac:Prop
 tg:D
def gV (g:GD):V:= .agg [.str g.nm,.str g.rk,.str g.ct,.int .i64 g.si,.int .i64 g.sd,.str g.di,.prop g.ho,.prop g.ac,.dat 29 g.tg]
def pV (g:GD) (p:Int):V:= .agg [.str g.nm,.str g.rk,.str g.ct,.int .i64 g.si,.int .i64 g.sd,.str g.di,.prop g.ho,.prop g.ac,.dat 29 g.tg,.int .i64 p]
def gOf:V->Option GD
 | .agg [.str nm,.str rk,.str ct,.int .i64 si,.int .i64 sd,.str di,.prop ho,.prop ac,.dat 29 tg]=>some ⟨nm,rk,ct,si,sd,di,ho,ac,tg⟩
 |_=>none
def pOf:V->Option (GD×Int)
 | .agg [.str nm,.str rk,.str ct,.int .i64 si,.int .i64 sd,.str di,.prop ho,.prop ac,.dat 29 tg,.int .i64 p]=>some (⟨nm,rk,ct,si,sd,di,ho,ac,tg⟩,p)
 |_=>none
def zdi (x y:Int):Int:=if x<y then-1 else if y<x then 1 else 0
open Classical in
def zgO (x y:List UInt8):Int:=if sLt x y then-1 else if sLt y x then 1 else 0
open Classical in
def zb4 (l:D) (s:List UInt8):Nat->Nat->Nat
 |0,i=>i
 |f+1,i=>if sAt l i=s then i else zb4 l s f (i+1)
def idx (l:D) (s:List UInt8):Nat:=zb4 l s l.len 0
def zl2 (l:D) (s:List UInt8):Int:=if idx l s<l.len then idx l s else-1
structure zpy (tg nm:D):Prop where
 out:∃i,i<tg.len/\zbn nm (sAt tg i)
open Classical in
def zjS (p q la:Prop):Int:=if (p↔q) then 0 else if ¬(p↔la) then-1 else 1
def orZ (x y:Int):Int:=if x≠0 then x else y
structure inB (p:Int):Prop where
 out:0<=p/\p<64
def idD:D->Nat| .fn g _ _=>g|_=>0
def zjt (d:D) (i:Nat):D:=match d with| .fn _ _ ds=>zas ds i|_=> .nil
structure okR (d:D):Prop where
 out:∃nm:D,d= .fn 215 [29] [nm]/\nm.len<=100
structure okN (d:D):Prop where
 out:(∃x:D,d= .fn 179 [69] [x])\/d= .fn 180 [] []\/(∃x:D,d= .fn 181 [69] [x]/\(cNm x).len<=100)\/(∃x:D,d= .fn 183 [69] [x]/\(cNm x).len<=100)\/d= .fn 217 [] []
structure okC (d:D):Prop where
 out:d= .fn 114 [] []\/d= .fn 177 [] []
structure okK (d:D):Prop where
 out:d= .fn 187 [] []\/∃x:D,d= .fn 188 [69] [x]/\0<=cN x/\cN x<=63
structure zrf (d:D):Prop where
 out:(∃r:D,d= .fn 216 [227] [r]/\okR r)\/(∃(n:D) (la:Prop),d= .fn 220 [184,4] [n,.bool la]/\okN n)\/d= .fn 184 [] []\/(∃k:D,d= .fn 223 [181,80] [.fn 222 [] [],k]/\okK k)
structure zsx (d:D):Prop where
 out:zrf d\/∃(u c:D),d= .fn 218 [173,142] [u,c]/\zrf u/\okC c
structure okA (d:D):Prop where
 out:∃(s:List UInt8) (t:D),d= .fn 174 [9,173] [.str s,t]/\zsx t
def zjZ (d:D) (g:GD):Int:=idx (zjt d 0) g.rk
structure zdf (d:D) (g:GD):Prop where
 out:(idD d=179/\g.sd=cN (zjt d 0))\/(idD d=180/\g.ho)\/(idD d=181/\zpy g.tg (cNm (zjt d 0)))\/(idD d=183/\zbn (cNm (zjt d 0)) g.ct)\/(idD d=217/\g.si=0)
def zij (d:D) (x y:Int):Int:=if idD d=114 then zdi x y else zdi y x
def zl3 (p n:Int):Int:=(p*(2*n+1)+n).tmod 64
def zoF (d:D) (p:Int):Int:=if idD d=187 then p else zl3 p (cN (zjt d 0))
open Classical in
def zbs (d:D) (a b:GD) (i j:Int):Int:=
 if idD d=216 then zdi (zjZ (zjt d 0) a) (zjZ (zjt d 0) b)
 else if idD d=220 then zjS (zdf (zjt d 0) a) (zdf (zjt d 0) b) (zjt d 1).asProp
 else if idD d=184 then zgO a.nm b.nm
 else if inB i/\inB j then zdi (zoF (zjt d 1) i) (zoF (zjt d 1) j) else 0
def zcP (d:D) (a b:GD) (i j:Int):Int:=
 if idD d=218 then orZ (zbs (zjt d 0) a b i j) (zij (zjt d 1) a.si b.si) else zbs d a b i j
open Classical in
def zkC (s:List UInt8) (t:D) (a b:GD) (i j:Int):Int:=if s≠ []/\(a.rk≠s\/b.rk≠s) then 0 else zcP t a b i j
def zlf (d:D) (a b:GD) (i j:Int):Int:=zkC (zjt d 0).asStr (zjt d 1) a b i j
def zjT (la:Prop) (n:D):D:= .fn 220 [184,4] [n,.bool la]
def ztX (c:D):D:= .fn 218 [173,142] [zjT (true=true) (.fn 217 [] []),c]
def zrh (k:D):D:= .fn 223 [181,80] [.fn 222 [] [],k]
def xD (k:Int) (a:List UInt8) (la:Prop) (nm:D) (n:Int):D:= .sct [.int k,.str a,.bool la,nm,.int n]
def zbM (k:Int) (a:List UInt8) (la:Prop) (nm:D) (n:Int):D:=
 if k=1 then .fn 216 [227] [.fn 215 [29] [nm]] else if k=2 then ztX (.fn 114 [] []) else if k=3 then ztX (.fn 177 [] []) else if k=4 then zjT la (.fn 179 [69] [xD k a la nm n])
 else if k=5 then zjT la (.fn 180 [] []) else if k=6 then zjT la (.fn 181 [69] [xD k a la nm n]) else if k=7 then zjT la (.fn 183 [69] [xD k a la nm n]) else if k=8 then .fn 184 [] []
 else if k=9 then zrh (.fn 187 [] []) else zrh (.fn 188 [69] [xD k a la nm n])
def zgY (s:List UInt8) (t:D):D:= .fn 174 [9,173] [.str s,t]
def zkq (c:D) (i:Nat):D:=zgY (cA (el c i)) (zbM (cK (el c i)) (cA (el c i)) (cL (el c i)) (cNm (el c i)) (cN (el c i)))
def zaW (c:D) (n:Nat):List D:=(List.range n).map λi=>zkq c i
open Classical in
def zbL (f:Nat->Int):Nat->Nat->Int×Int
 |0,_=>(-1,0)
 |m+1,i=>if f i≠0 then ((i:Nat),f i) else zbL f m (i+1)
def zkI:Con:=λ| [.int .i64 x,.int .i64 y]=>some (True,.int .i64 (zdi x y))|_=>none
def znk:Con:=λ| [.int .i64 x,.int .i64 y]=>some (True,.int .i64 (zdi y x))|_=>none
def znp:Con:=λ| [.str x,.str y]=>some (True,.int .i64 (zgO x y))|_=>none
def zrO:Con:=λ| [.dat 29 l,.str s]=>some (l.len<=100,.int .i64 (zl2 l s))|_=>none
def zns:Con:=λ| [.dat 29 l,.str s]=>some (l.len<=100,.int .i64 (idx l s))|_=>none
def znt:Con:=λ| [p,.dpt 29 nm]=>(match pOf p with|some (g,_)=>some (nm.len<=100,.int .i64 (idx nm g.rk))|none=>none)|_=>none
def znl:Con:=λ| [p,.dpt 69 x]=>(match pOf p with|some (g,_)=>some (True,.prop (g.sd=cN x))|none=>none)|_=>none
def znm:Con:=λ| [p]=>(match pOf p with|some (g,_)=>some (True,.prop g.ho)|none=>none)|_=>none
def znv:Con:=λ| [p]=>(match pOf p with|some (g,_)=>some (True,.prop (g.si=0))|none=>none)|_=>none
def ziz:Con:=λ| [p,.dpt 69 x]=>(match pOf p with|some (g,_)=>some (g.tg.len<=100/\(cNm x).len<=100,.prop (zpy g.tg (cNm x)))|none=>none)|_=>none
def znn:Con:=λ| [p,.dpt 69 x]=>(match pOf p with|some (g,_)=>some ((cNm x).len<=100,.prop (zbn (cNm x) g.ct))|none=>none)|_=>none
def znq:Con:=λ| [.int .i64 p]=>some (True,.int .i64 p)|_=>none
def znr:Con:=λ| [.int .i64 p,.dpt 69 x]=>some (inB p/\0<=cN x/\cN x<=63,.int .i64 (zl3 p (cN x)))|_=>none
def zny:Con:=λ| [.int .i64 p]=>some (True,.prop (inB p))|_=>none
def zuo:D->Con:=λd=>λ| [p]=>(match pOf p with|some (g,_)=>some (okR d,.int .i64 (zjZ d g))|none=>none)|_=>none
def zrU:D->Con:=λd=>λ| [p]=>(match pOf p with|some (g,_)=>some (okN d/\g.tg.len<=100,.prop (zdf d g))|none=>none)|_=>none
def zum:D->Con:=λd=>λ| [.int .i64 x,.int .i64 y]=>some (okC d,.int .i64 (zij d x y))|_=>none
def zun:D->Con:=λd=>λ| [.int .i64 p]=>some (okK d/\inB p,.int .i64 (zoF d p))|_=>none
def zul:D->Con:=λd=>λ| [.int .i64 p]=>some (d= .fn 222 [] [],.prop (inB p))|_=>none
def znu:Con:=λ| [p,q,.dpt 227 r]=>(match pOf p,pOf q with|some (a,_),some (b,_)=>some (okR r,.int .i64 (zdi (zjZ r a) (zjZ r b)))|_,_=>none)|_=>none
def znx:Con:=λ| [p,q,.dpt 184 n,.dpt 4 la]=>(match pOf p,pOf q with|some (a,_),some (b,_)=>some (okN n/\a.tg.len<=100/\b.tg.len<=100,.int .i64 (zjS (zdf n a) (zdf n b) la.asProp))|_,_=>none)|_=>none
def zno:Con:=λ| [p,q]=>(match pOf p,pOf q with|some (a,_),some (b,_)=>some (True,.int .i64 (zgO a.nm b.nm))|_,_=>none)|_=>none
open Classical in
def znz:Con:=λ| [p,q,.dpt 181 e,.dpt 80 k]=>(match pOf p,pOf q with|some (_,i),some (_,j)=>some (e= .fn 222 [] []/\okK k,.int .i64 (if inB i/\inB j then zdi (zoF k i) (zoF k j) else 0))|_,_=>none)|_=>none
def zrV:D->Con:=λd=>λ| [p,q]=>(match pOf p,pOf q with|some (a,i),some (b,j)=>some (zrf d/\a.tg.len<=100/\b.tg.len<=100,.int .i64 (zbs d a b i j))|_,_=>none)|_=>none
def znw:Con:=λ| [p,q,.dpt 173 u,.dpt 142 c]=>(match pOf p,pOf q with|some (a,i),some (b,j)=>some (zrf u/\okC c/\a.tg.len<=100/\b.tg.len<=100,.int .i64 (orZ (zbs u a b i j) (zij c a.si b.si)))|_,_=>none)|_=>none
def zrW:D->Con:=λd=>λ| [p,q]=>(match pOf p,pOf q with|some (a,i),some (b,j)=>some (zsx d/\a.tg.len<=100/\b.tg.len<=100,.int .i64 (zcP d a b i j))|_,_=>none)|_=>none
def znj:Con:=λ| [p,q,.dpt 9 s,.dpt 173 t]=>(match pOf p,pOf q with|some (a,i),some (b,j)=>some (zsx t/\a.tg.len<=100/\b.tg.len<=100,.int .i64 (zkC s.asStr t a b i j))|_,_=>none)|_=>none
def zuk:D->Con:=λd=>λ| [p,q]=>(match pOf p,pOf q with|some (a,i),some (b,j)=>some (okA d/\a.tg.len<=100/\b.tg.len<=100,.int .i64 (zlf d a b i j))|_,_=>none)|_=>none
def zkK:Con:=λ| [.agg [.int .u8 k,.str a,.prop la,.dat 29 nm,.int .i64 n]]=>some (True,.fnd 173 (zbM k a la nm n))|_=>none
def zkJ:Con:=λ| [.str s,.fnd 173 t]=>some (True,.fnd 173 (zgY s t))|_=>none
def zrT:Con:=λ| [.dat 22 c]=>some (c.len<=100,.dat 127 (.list (zaW c c.len)))|_=>none
def znC:Con:=fun
 | [.dat 127 ts,p,q]=>(match pOf p,pOf q with
  |some (a,i),some (b,j)=>some ((ts.len<=100/\∀k,k<ts.len->okA (el ts k))/\a.tg.len<=100/\b.tg.len<=100,.tup [.int .i64 (zbL (λk=>zlf (el ts k) a b i j) ts.len 0).1,.int .i64 (zbL (λk=>zlf (el ts k) a b i j) ts.len 0).2])
  |_,_=>none)
 |_=>none
def cm0:FuncId->Option Con
 |103=>some zfV
 |114=>some zkI
 |185=>some znp
 |45=>some zrO
 |_=>none
def cF1:TypeId->Option (D->Con)
 |227=>some zuo
 |184=>some zrU
 |142=>some zum
 |80=>some zun
 |181=>some zul
 |_=>none
def cF2:TypeId->Option (D->Con)
 |173=>some zrV
 |t=>cF1 t
def cF3:TypeId->Option (D->Con)
 |173=>some zrW
 |_=>none
def cF4:TypeId->Option (D->Con)
 |173=>some zuk
 |_=>none
def zsS (nm:D):FuncId->Nat->Option Ann
 |76,2=>some {τ:=Nat,slots:=λ_ _ x=> [(8,.int .i64 x)],blks:=λ_ _ _=> [],inv:=λS _ x=>x<=(slD S 0).len/\∀i,i<x->¬zbn nm (sAt (slD S 0) i),meas:=λS _ x=>(slD S 0).len-x}
 |_,_=>none
def zaA:FuncId->Nat->Option Ann
 |45,2=>some {τ:=Nat,slots:=λ_ _ x=> [(8,.int .i64 x)],blks:=λ_ _ _=> [],inv:=λS _ x=>x<=(slD S 0).len/\zb4 (slD S 0) (slS S 1) ((slD S 0).len-x) x=idx (slD S 0) (slS S 1),meas:=λS _ x=>(slD S 0).len-x}
 |202,2=>some {τ:=Nat,slots:=λ_ _ x=> [(5,.int .i64 x)],blks:=λ_ _ _=> [],inv:=λS _ x=>x<=(slD S 0).len/\zb4 (slD S 0) (slS S 1) ((slD S 0).len-x) x=idx (slD S 0) (slS S 1),meas:=λS _ x=>(slD S 0).len-x}
 |_,_=>none
def zbi (con:FuncId->Option Con) (cf:TypeId->Option (D->Con)) (ann:FuncId->Nat->Option Ann):Ctx:={ctx con ann with conF:=cf}
end
end Go.Ev

end

section
open Go.Proofs
namespace Go.Ev
noncomputable section
set_option maxRecDepth 100000
set_option maxHeartbeats 4000000
theorem zu0:∀(x y:Int),zae (zbi (λ_=>none) (λ_=>none) zaA) 4 (114:FuncId) [V.int IntKind.i64 x,V.int IntKind.i64 y] (V.int IntKind.i64 (zdi x y))=(((x=x->False)->((y=y->False)->0=
zdi x y)/\(((y=y->False)->False)->(-1)=zdi x y))/\(((x=x->False)->False)->((y=y->False)->1=zdi x y)/\(((y=y->False)->False)->(x<y->(-1)=zdi x y)/\((x<y->False)->(y<x->1=zdi x
y)/\((y<x->False)->0=zdi x y))))):=by intros;kernel_rfl
theorem zvi:∀(x y:Int),zae (zbi cm0 (λ_=>none) zaA) 4 (177:FuncId) [V.int IntKind.i64 x,V.int IntKind.i64 y] (V.int IntKind.i64 (zdi y x))=(True/\zdi y x=zdi y x):=by intros;kernel_rfl
theorem zvo:∀(x y:List UInt8),zae (zbi (λ_=>none) (λ_=>none) zaA) 4 (185:FuncId) [V.str x,V.str y] (V.int IntKind.i64 (zgO x y))=(((x=x->False)->((y=y->False)->0=zgO x y)/\(((y=
y->False)->False)->(-1)=zgO x y))/\(((x=x->False)->False)->((y=y->False)->1=zgO x y)/\(((y=y->False)->False)->(sLt x y->(-1)=zgO x y)/\((sLt x y->False)->((sLt x y\/x=y->False)->1=
zgO x y)/\(((sLt x y\/x=y->False)->False)->0=zgO x y))))):=by intros;kernel_rfl
theorem zxn:∀(l:D) (s:List UInt8),zae (zbi (λ_=>none) (λ_=>none) zaA) 3 (45:FuncId) [V.dat (29:TypeId) l,V.str s] (V.int IntKind.i64 (zl2 l s))=((∃(x:Nat),(x<=l.len/\zb4 l s
(l.len-x) x=idx l s)/\(0=(x:Int)/\True)/\True)/\∀(x:Nat),x<=l.len/\zb4 l s (l.len-x) x=idx l s->l.len-x<LIM/\((x:Int)<(l.len:Int)->0<=(x:Int)/\(x:Int)<(l.len:Int)/\(s=sAt
l x->(x:Int)=zl2 l s)/\((s=sAt l x->False)->fits64 ((x:Int)+1)/\∃(y:Nat),(y<=l.len/\zb4 l s (l.len-y) y=idx l s)/\l.len-y<l.len-x/\((x:Int)+1=(y:Int)/\True)/\True))/\(((x:
Int)<(l.len:Int)->False)->(-1)=zl2 l s)):=by intros;kernel_rfl
theorem zvs:∀(l:D) (s:List UInt8),zae (zbi (λ_=>none) (λ_=>none) zaA) 3 (202:FuncId) [V.dat (29:TypeId) l,V.str s] (V.int IntKind.i64 (↑(idx l s):Int))=((∃(x:Nat),(x<=l.len/\zb4
l s (l.len-x) x=idx l s)/\(0=(x:Int)/\True)/\True)/\∀(x:Nat),x<=l.len/\zb4 l s (l.len-x) x=idx l s->l.len-x<LIM/\((x:Int)<(l.len:Int)->0<=(x:Int)/\(x:Int)<(l.len:Int)/\(sAt
l x=s->(x:Int)=(↑(idx l s):Int))/\((sAt l x=s->False)->fits64 ((x:Int)+1)/\∃(y:Nat),(y<=l.len/\zb4 l s (l.len-y) y=idx l s)/\l.len-y<l.len-x/\((x:Int)+1=(y:Int)/\True)/\
True))/\(((x:Int)<(l.len:Int)->False)->(l.len:Int)=(↑(idx l s):Int))):=by intros;kernel_rfl
theorem zvu:∀(g:GD) (p:Int) (nm:D),zae (zbi cm0 (λ_=>none) zaA) 3 (215:FuncId) [pV g p,V.dpt (29:TypeId) nm] (V.int IntKind.i64 (↑(idx nm g.rk):Int))=(nm.len<=100/\(0<=zl2 nm g.rk->
zl2 nm g.rk=(↑(idx nm g.rk):Int))/\((0<=zl2 nm g.rk->False)->(nm.len:Int)=(↑(idx nm g.rk):Int))):=by intros;kernel_rfl
theorem zvj:∀(g:GD) (p:Int) (x:D),zae (zbi cm0 (λ_=>none) zaA) 3 (179:FuncId) [pV g p,V.dpt (69:TypeId) x] (V.prop (g.sd=cN x))=(g.sd=cN x↔g.sd=cN x):=by intros;kernel_rfl
theorem zvk:∀(g:GD) (p:Int),zae (zbi cm0 (λ_=>none) zaA) 3 (180:FuncId) [pV g p] (V.prop g.ho)=(g.ho↔g.ho):=by intros;kernel_rfl
theorem zvw:∀(g:GD) (p:Int),zae (zbi cm0 (λ_=>none) zaA) 3 (217:FuncId) [pV g p] (V.prop (g.si=0))=(g.si=0↔g.si=0):=by intros;kernel_rfl
theorem zvl:∀(g:GD) (p:Int) (x:D),zae (zbi cm0 (λ_=>none) (zsS (cNm x))) 6 (181:FuncId) [pV g p,V.dpt (69:TypeId) x] (V.prop (zpy g.tg (cNm x)))=((∃(x_1:Nat),(x_1<=g.tg.len/\∀(i:
Nat),i<x_1->zbn (cNm x) (sAt g.tg i)->False)/\(0=(x_1:Int)/\True)/\True)/\∀(x_1:Nat),(x_1<=g.tg.len/\∀(i:Nat),i<x_1->zbn (cNm x) (sAt g.tg i)->False)->g.tg.len-x_1<LIM/\((x_1:Int)<
(g.tg.len:Int)->0<=(x_1:Int)/\(x_1:Int)<(g.tg.len:Int)/\(cNm x).len<=100/\(zbn (cNm x) (sAt g.tg x_1)->(0<=(x_1:Int)↔zpy g.tg (cNm x)))/\((zbn (cNm x) (sAt g.tg x_1)->False)->fits64 ((x_1:
Int)+1)/\∃(y:Nat),(y<=g.tg.len/\∀(i:Nat),i<y->zbn (cNm x) (sAt g.tg i)->False)/\g.tg.len-y<g.tg.len-x_1/\((x_1:Int)+1=(y:Int)/\True)/\True))/\(((x_1:Int)<(g.tg.len:Int)->False)
->(false=true↔zpy g.tg (cNm x)))):=by intros;kernel_rfl
theorem zvm:∀(g:GD) (p:Int) (x:D),zae (zbi cm0 (λ_=>none) zaA) 3 (183:FuncId) [pV g p,V.dpt (69:TypeId) x] (V.prop (zbn (cNm x) g.ct))=((cNm x).len<=100/\(zbn (cNm x) g.ct↔zbn (cNm x)
g.ct)):=by intros;kernel_rfl
theorem zvp:∀(p:Int),zae (zbi cm0 (λ_=>none) zaA) 3 (187:FuncId) [V.int IntKind.i64 p] (V.int IntKind.i64 p)=(p=p):=by intros;kernel_rfl
theorem zvq:∀(p:Int) (x:D),zae (zbi cm0 (λ_=>none) zaA) 3 (188:FuncId) [V.int IntKind.i64 p,V.dpt (69:TypeId) x] (V.int IntKind.i64 (zl3 p (cN x)))=(fits64 (2*cN x)/\fits64 (2*cN x+1)
/\fits64 (p*(2*cN x+1))/\fits64 (p*(2*cN x+1)+cN x)/\((64:Int)=0->False)/\(p*(2*cN x+1)+cN x).tmod 64=zl3 p (cN x)):=by intros;kernel_rfl
theorem zvz:∀(p:Int),zae (zbi cm0 (λ_=>none) zaA) 3 (222:FuncId) [V.int IntKind.i64 p] (V.prop (inB p))=((0<=p->(p<64↔inB p))/\((0<=p->False)->(false=true↔inB p))):=by intros;kernel_rfl
theorem zvv:∀(a b:GD) (i j:Int) (r:D),zae (zbi cm0 cF1 zaA) 3 (216:FuncId) [pV a i,pV b j,V.dpt (227:TypeId) r] (V.int IntKind.i64 (zdi (zjZ r a) (zjZ r b)))=(okR r/\okR r/\True/\zdi
(zjZ r a) (zjZ r b)=zdi (zjZ r a) (zjZ r b)):=by intros;kernel_rfl
theorem zvy:∀(a b:GD) (i j:Int) (n la:D),zae (zbi cm0 cF1 zaA) 3 (220:FuncId) [pV a i,pV b j,V.dpt (184:TypeId) n,V.dpt (4:TypeId) la] (V.int IntKind.i64 (zjS (zdf n a) (zdf n b) la.asProp))
=((okN n/\a.tg.len<=100)/\(okN n/\b.tg.len<=100)/\((zdf n a↔zdf n b)->0=zjS (zdf n a) (zdf n b) la.asProp)/\(((zdf n a↔zdf n b)->False)->(((zdf n a↔la.asProp)->False)->(-1)=zjS (zdf n a)
(zdf n b) la.asProp)/\((((zdf n a↔la.asProp)->False)->False)->1=zjS (zdf n a) (zdf n b) la.asProp))):=by intros;kernel_rfl
theorem zvn:∀(a b:GD) (i j:Int),zae (zbi cm0 cF1 zaA) 3 (184:FuncId) [pV a i,pV b j] (V.int IntKind.i64 (zgO a.nm b.nm))=(True/\zgO a.nm b.nm=zgO a.nm b.nm):=by intros;kernel_rfl
theorem zvA:∀(a b:GD) (i j r:Int) (e k:D),zae (zbi cm0 cF1 zaA) 3 (223:FuncId) [pV a i,pV b j,V.dpt (181:TypeId) e,V.dpt (80:TypeId) k] (V.int IntKind.i64 r)=(e=D.fn (222:FuncId) [] []/\
(((inB i->False)->False)->e=D.fn (222:FuncId) [] []/\((inB j->False)->0=r)/\(((inB j->False)->False)->(okK k/\inB i)/\(okK k/\inB j)/\True/\zdi (zoF k i) (zoF k j)=r))/\((inB i->False)->0=
r)):=by intros;kernel_rfl
theorem zvx:∀(a b:GD) (i j:Int) (u c:D),zae (zbi cm0 cF2 zaA) 4 (218:FuncId) [pV a i,pV b j,V.dpt (173:TypeId) u,V.dpt (142:TypeId) c] (V.int IntKind.i64 (orZ (zbs u a b i j) (zij c a.si
b.si)))=((zrf u/\a.tg.len<=100/\b.tg.len<=100)/\okC c/\(0:Int)<=0/\0<(↑(2:Nat):Int)/\0+0< [D.int (zbs u a b i j),D.int (zij c a.si b.si)].length/\(((zas [D.int (zbs u a b i j),D.int (zij
c a.si b.si)] (0+0)).asInt=0->False)->(zas [D.int (zbs u a b i j),D.int (zij c a.si b.si)] (0+0)).asInt=orZ (zbs u a b i j) (zij c a.si b.si))/\((((zas [D.int (zbs u a b i j),D.int (zij c a.si
b.si)] (0+0)).asInt=0->False)->False)->0<=Int.ofNat 1/\Int.ofNat 1<(↑(2:Nat):Int)/\0+(Int.ofNat 1).toNat< [D.int (zbs u a b i j),D.int (zij c a.si b.si)].length/\(((zas [D.int (zbs u a b i j),
D.int (zij c a.si b.si)] (0+(Int.ofNat 1).toNat)).asInt=0->False)->(zas [D.int (zbs u a b i j),D.int (zij c a.si b.si)] (0+(Int.ofNat 1).toNat)).asInt=orZ (zbs u a b i j) (zij c a.si b.si))/\((((zas
[D.int (zbs u a b i j),D.int (zij c a.si b.si)] (0+(Int.ofNat 1).toNat)).asInt=0->False)->False)->0=orZ (zbs u a b i j) (zij c a.si b.si)))):=by intros;kernel_rfl
theorem zvh:∀(a b:GD) (i j:Int) (s t:D),zae (zbi cm0 cF3 zaA) 3 (174:FuncId) [pV a i,pV b j,V.dpt (9:TypeId) s,V.dpt (173:TypeId) t] (V.int IntKind.i64 (zkC s.asStr t a b i j))=(((s.asStr=
[]->False)->(((a.rk=s.asStr->False)->False)->((b.rk=s.asStr->False)->0=zkC s.asStr t a b i j)/\(((b.rk=s.asStr->False)->False)->(zsx t/\a.tg.len<=100/\b.tg.len<=100)/\zcP t a b i j=zkC
s.asStr t a b i j))/\((a.rk=s.asStr->False)->0=zkC s.asStr t a b i j))/\(((s.asStr= []->False)->False)->(zsx t/\a.tg.len<=100/\b.tg.len<=100)/\zcP t a b i j=zkC s.asStr t a b i j)):=by intros;kernel_rfl
theorem zu9:∀(k:Int) (a:List UInt8) (la:Prop) (nm:D) (n:Int),zae (zbi cm0 (λ_=>none) zaA) 5 (143:FuncId) [V.agg [V.int IntKind.u8 k,V.str a,V.prop la,V.dat (29:TypeId) nm,V.int
IntKind.i64 n]] (V.fnd (173:TypeId) (zbM k a la nm n))=((k=1->D.fn 216 [227] [D.fn 215 [29] [nm]]=zbM k a la nm n)/\((k=1->False)->(k=2->D.fn 218 [173,142] [D.fn 220 [184,4] [D.fn 217 [] [],D.bool
(true=true)],D.fn 114 [] []]=zbM k a la nm n)/\((k=2->False)->(k=3->D.fn 218 [173,142] [D.fn 220 [184,4] [D.fn 217 [] [],D.bool (true=true)],D.fn 177 [] []]=zbM k a la nm n)/\((k=3->False)->
(k=4->D.fn 220 [184,4] [D.fn 179 [69] [D.sct [D.int k,D.str a,D.bool la,nm,D.int n]],D.bool la]=zbM k a la nm n)/\((k=4->False)->(k=5->D.fn 220 [184,4] [D.fn 180 [] [],D.bool la]=zbM k a la nm
n)/\((k=5->False)->(k=6->D.fn 220 [184,4] [D.fn 181 [69] [D.sct [D.int k,D.str a,D.bool la,nm,D.int n]],D.bool la]=zbM k a la nm n)/\((k=6->False)->(k=7->D.fn 220 [184,4] [D.fn 183 [69] [D.sct
[D.int k,D.str a,D.bool la,nm,D.int n]],D.bool la]=zbM k a la nm n)/\((k=7->False)->(k=8->D.fn 184 [] []=zbM k a la nm n)/\((k=8->False)->(k=9->D.fn 223 [181,80] [D.fn 222 [] [],D.fn 187 []
[]]=zbM k a la nm n)/\((k=9->False)->D.fn 223 [181,80] [D.fn 222 [] [],D.fn 188 [69] [D.sct [D.int k,D.str a,D.bool la,nm,D.int n]]]=zbM k a la nm n)))))))))):=by intros;kernel_rfl
theorem zu8:∀(s:List UInt8) (t:D),zae (zbi cm0 (λ_=>none) zaA) 3 (142:FuncId) [V.str s,V.fnd (173:TypeId) t] (V.fnd (173:TypeId) (zgY s t))=(D.fn 174 [9,173] [D.str s,t]=zgY s t):=by intros;kernel_rfl
theorem zi4:∀(x y:List UInt8),Op.bytesLess x y=false->x≠y->Op.bytesLess y x=true
 | [],[],_,h=>absurd rfl h
 | [],b::y,h,_=>by simp [Op.bytesLess] at h
 |a::x,[],_,_=>rfl
 |a::x,b::y,h,hn=>by
  unfold Op.bytesLess at h⊢
  by_cases e:a=b
  .subst e
   have hn':x≠y:=λe=>hn (by rw [e])
   simp only [Bool.or_eq_false_iff,Bool.and_eq_false_iff,beq_self_eq_true,Bool.true_eq_false,false_or] at h
   simp [zi4 x y h.2 hn']
  .simp only [Bool.or_eq_false_iff,decide_eq_false_iff_not] at h
   have h1:¬a.toNat<b.toNat:=λk=>h.1 (UInt8.lt_iff_toNat_lt.2 k)
   have h2:a.toNat≠b.toNat:=λk=>e (UInt8.toNat_inj.1 k)
   have h3:b<a:=UInt8.lt_iff_toNat_lt.2 (by omega)
   simp [h3]
theorem zhu {x y:Int} {p q:Prop} [Decidable p] [Decidable q] (h1:p↔x<y) (h2:q↔y<x):zdi x y=if p then-1 else if q then 1 else 0:=by
 unfold zdi
 by_cases a:x<y
 .rw [if_pos a,if_pos (h1.2 a)]
 .rw [if_neg a,if_neg (λk=>a (h1.1 k))]
  by_cases b:y<x
  .rw [if_pos b,if_pos (h2.2 b)]
  .rw [if_neg b,if_neg (λk=>b (h2.1 k))]
theorem zrK {x y:List UInt8} {p q:Prop} [Decidable p] [Decidable q] (h1:p↔sLt x y) (h2:q↔sLt y x):zgO x y=if p then-1 else if q then 1 else 0:=by
 unfold zgO
 by_cases a:sLt x y
 .rw [if_pos a,if_pos (h1.2 a)]
 .rw [if_neg a,if_neg (λk=>a (h1.1 k))]
  by_cases b:sLt y x
  .rw [if_pos b,if_pos (h2.2 b)]
  .rw [if_neg b,if_neg (λk=>b (h2.1 k))]
theorem zdM {l:D} {s:List UInt8} {x:Nat} (h:x<l.len) (hs:zb4 l s (l.len-x) x=idx l s):(sAt l x=s->idx l s=x)/\(sAt l x≠s->zb4 l s (l.len-(x+1)) (x+1)=idx l s):=by
 have e:l.len-x=(l.len-(x+1))+1:=by omega
 rw [e] at hs
 unfold zb4 at hs
 constructor
 .intro k;rw [if_pos k] at hs;exact hs.symm
 .intro k;rw [if_neg k] at hs;exact hs
theorem zi5 {l:D} {s:List UInt8} {x:Nat} (h:x=l.len) (hs:zb4 l s (l.len-x) x=idx l s):idx l s=l.len:=by
 subst h
 rw [Nat.sub_self] at hs
 exact hs.symm
theorem zll (l:D) (s:List UInt8):∀(f i:Nat),zb4 l s f i<=i+f
 |0,i=>Nat.le_refl _
 |f+1,i=>by
  unfold zb4
  split
  .omega
  .have:=zll l s f (i+1);omega
theorem ztt (l:D) (s:List UInt8):idx l s<=l.len:=by have:=zll l s l.len 0;unfold idx;omega
theorem zgK {x n:Nat} (hx:x<=n) (h:(x:Int)<n->False):x=n:=by have h:¬((x:Int)<n):=h;omega
theorem zoj {a b:Nat} (h:a<=8796093022208):a-b<LIM:=by unfold LIM;omega
theorem zgj {a b:Nat} (h:a<=100):a-b<LIM:=by unfold LIM;omega
theorem zv3 (x y:Int):zae (zbi (λ_=>none) (λ_=>none) zaA) 4 114 [.int .i64 x,.int .i64 y] (.int .i64 (zdi x y)):=by
 rw [zu0]
 exact ⟨λh=>absurd rfl h,λ_=>⟨λh=>absurd rfl h,λ_=>⟨λh=>by unfold zdi;rw [if_pos h],λh1=>⟨λh2=>by unfold zdi;rw [if_neg h1,if_pos h2],λh2=>by unfold zdi;rw [if_neg h1,if_neg h2]⟩⟩⟩⟩
theorem zwl (x y:Int):zae (zbi cm0 (λ_=>none) zaA) 4 177 [.int .i64 x,.int .i64 y] (.int .i64 (zdi y x)):=by
 rw [zvi];exact ⟨trivial,rfl⟩
theorem zwr (x y:List UInt8):zae (zbi (λ_=>none) (λ_=>none) zaA) 4 185 [.str x,.str y] (.int .i64 (zgO x y)):=by
 rw [zvo]
 refine ⟨λh=>absurd rfl h,λ_=>⟨λh=>absurd rfl h,λ_=>⟨λh=>by unfold zgO;rw [if_pos h],λh1=>⟨λh2=> ?_,λh2=> ?_⟩⟩⟩⟩
 .have h3:sLt y x:=⟨zi4 x y (by cases hb:Op.bytesLess x y with|false=>rfl|true=>exact (h1 ⟨hb⟩).elim) (λe=>h2 (.inr e))⟩
  unfold zgO;rw [if_neg h1,if_pos h3]
 .rcases Classical.byContradiction h2 with h|h
  .exact (h1 h).elim
  .subst h;unfold zgO;rw [if_neg h1,if_neg h1]
theorem s45 (l:D) (s:List UInt8) (hl:l.len<=100):zae (zbi (λ_=>none) (λ_=>none) zaA) 3 45 [.dat 29 l,.str s] (.int .i64 (zl2 l s)):=by
 rw [zxn]
 refine ⟨⟨0,⟨Nat.zero_le _,rfl⟩,⟨rfl,trivial⟩,trivial⟩,λx hx=>⟨zgj hl,λh=>⟨by omega,h,λe=> ?_,λe=>⟨by omega,x+1,⟨by omega,(zdM (by omega) hx.2).2 λk=>e k.symm⟩,by omega,⟨by omega,trivial⟩,trivial⟩⟩,λh=> ?_⟩⟩
 .have:=(zdM (by omega) hx.2).1 e.symm
  unfold zl2;rw [this,if_pos (by omega)]
 .have:=zi5 (zgK hx.1 h) hx.2
  unfold zl2;rw [this,if_neg (by omega)]
theorem zwv (l:D) (s:List UInt8) (hl:l.len<=100):zae (zbi (λ_=>none) (λ_=>none) zaA) 3 202 [.dat 29 l,.str s] (.int .i64 (idx l s)):=by
 rw [zvs]
 refine ⟨⟨0,⟨Nat.zero_le _,rfl⟩,⟨rfl,trivial⟩,trivial⟩,λx hx=>⟨zgj hl,λh=>⟨by omega,h,λe=> ?_,λe=>⟨by omega,x+1,⟨by omega,(zdM (by omega) hx.2).2 e⟩,by omega,⟨by omega,trivial⟩,trivial⟩⟩,λh=> ?_⟩⟩
 .rw [(zdM (by omega) hx.2).1 e]
 .rw [zi5 (zgK hx.1 h) hx.2]
theorem zwx (g:GD) (p:Int) (nm:D) (hl:nm.len<=100):zae (zbi cm0 (λ_=>none) zaA) 3 215 [pV g p,.dpt 29 nm] (.int .i64 (idx nm g.rk)):=by
 rw [zvu]
 have:=ztt nm g.rk
 refine ⟨hl,λh=> ?_,λh=> ?_⟩
 .unfold zl2 at h⊢;split at h
  .rename_i k;rw [if_pos k]
  .omega
 .have h:¬0<=zl2 nm g.rk:=h
  unfold zl2 at h;split at h<;>omega
theorem zwm (g:GD) (p:Int) (x:D):zae (zbi cm0 (λ_=>none) zaA) 3 179 [pV g p,.dpt 69 x] (.prop (g.sd=cN x)):=by rw [zvj]
theorem zwn (g:GD) (p:Int):zae (zbi cm0 (λ_=>none) zaA) 3 180 [pV g p] (.prop g.ho):=by rw [zvk]
theorem zwz (g:GD) (p:Int):zae (zbi cm0 (λ_=>none) zaA) 3 217 [pV g p] (.prop (g.si=0)):=by rw [zvw]
theorem zwo (g:GD) (p:Int) (x:D) (h1:g.tg.len<=100) (h2:(cNm x).len<=100):zae (zbi cm0 (λ_=>none) (zsS (cNm x))) 6 181 [pV g p,.dpt 69 x] (.prop (zpy g.tg (cNm x))):=by
 rw [zvl]
 exact ⟨⟨0,⟨Nat.zero_le _,λi hi=>absurd hi (Nat.not_lt_zero _)⟩,⟨rfl,trivial⟩,trivial⟩,λy hy=>⟨zgj h1,λh=>⟨by omega,h,h2,λk=>⟨λ_=>⟨y,by omega,k⟩,λ_=>by omega⟩,
  λk=>⟨by omega,y+1,⟨by omega,λi hi=>by
   rcases Nat.lt_or_ge i y with q|q
   .exact hy.2 i q
   .have:i=y:=by omega
    subst this;exact k⟩,by omega,⟨by omega,trivial⟩,trivial⟩⟩,
  λh=>⟨λe=>(by cases e),λe=>(by obtain ⟨i,a,b⟩:=e.out;have:=zgK hy.1 h;exact (hy.2 i (by omega) b).elim)⟩⟩⟩
theorem zwp (g:GD) (p:Int) (x:D) (h2:(cNm x).len<=100):zae (zbi cm0 (λ_=>none) zaA) 3 183 [pV g p,.dpt 69 x] (.prop (zbn (cNm x) g.ct)):=by
 rw [zvm];exact ⟨h2,Iff.rfl⟩
theorem zws (p:Int):zae (zbi cm0 (λ_=>none) zaA) 3 187 [.int .i64 p] (.int .i64 p):=by rw [zvp]
theorem zsg {p n:Int} (h:inB p) (h1:0<=n) (h2:n<=63):0<=p*(2*n+1)/\p*(2*n+1)<=63*127:=by
 obtain ⟨a,b⟩:=h.out
 exact ⟨Int.mul_nonneg a (by omega),Int.mul_le_mul (by omega) (by omega) (by omega) (by omega)⟩
theorem zwt (p:Int) (x:D) (h:inB p) (h1:0<=cN x) (h2:cN x<=63):zae (zbi cm0 (λ_=>none) zaA) 3 188 [.int .i64 p,.dpt 69 x] (.int .i64 (zl3 p (cN x))):=by
 rw [zvq]
 obtain ⟨a,b⟩:=zsg h h1 h2
 refine ⟨by omega,by omega,by omega,by omega,λe=>absurd e (by decide),rfl⟩
theorem zwC (p:Int):zae (zbi cm0 (λ_=>none) zaA) 3 222 [.int .i64 p] (.prop (inB p)):=by
 rw [zvz]
 exact ⟨λh=>⟨λk=>⟨h,k⟩,λk=>k.out.2⟩,λh=>⟨λe=>(by cases e),λk=>(h k.out.1).elim⟩⟩
theorem zwy (a b:GD) (i j:Int) (r:D) (h:okR r):zae (zbi cm0 cF1 zaA) 3 216 [pV a i,pV b j,.dpt 227 r] (.int .i64 (zdi (zjZ r a) (zjZ r b))):=by
 rw [zvv];exact ⟨h,h,trivial,rfl⟩
theorem zwB (a b:GD) (i j:Int) (n la:D) (h:okN n) (ha:a.tg.len<=100) (hb:b.tg.len<=100):zae (zbi cm0 cF1 zaA) 3 220 [pV a i,pV b j,.dpt 184 n,.dpt 4 la] (.int .i64 (zjS (zdf n a) (zdf n b) la.asProp)):=by
 rw [zvy]
 exact ⟨⟨h,ha⟩,⟨h,hb⟩,λk=>by unfold zjS;rw [if_pos k],λk=>⟨λk2=>by unfold zjS;rw [if_neg k,if_pos k2],λk2=>by unfold zjS;rw [if_neg k,if_neg (λq=>k2 q)]⟩⟩
theorem zwq (a b:GD) (i j:Int):zae (zbi cm0 cF1 zaA) 3 184 [pV a i,pV b j] (.int .i64 (zgO a.nm b.nm)):=by rw [zvn];exact ⟨trivial,rfl⟩
open Classical in
theorem zwD (a b:GD) (i j:Int) (e k:D) (he:e= .fn 222 [] []) (hk:okK k):zae (zbi cm0 cF1 zaA) 3 223 [pV a i,pV b j,.dpt 181 e,.dpt 80 k] (.int .i64 (if inB i/\inB j then zdi (zoF k i) (zoF k j) else 0)):=by
 rw [zvA]
 exact ⟨he,λh=>⟨he,λh2=>by rw [if_neg (λq=>h2 q.2)],λh2=>⟨⟨hk,byContradiction h⟩,⟨hk,byContradiction h2⟩,trivial,by rw [if_pos ⟨byContradiction h,byContradiction h2⟩]⟩⟩,λh=>by rw [if_neg (λq=>h q.1)]⟩
theorem zwA (a b:GD) (i j:Int) (u c:D) (hu:zrf u) (hc:okC c) (ha:a.tg.len<=100) (hb:b.tg.len<=100):zae (zbi cm0 cF2 zaA) 4 218 [pV a i,pV b j,.dpt 173 u,.dpt 142 c] (.int .i64 (orZ (zbs u a b i j) (zij c a.si b.si))):=by
 rw [zvx]
 refine ⟨⟨hu,ha,hb⟩,hc,by decide,by decide,by simp,λh=> ?_,λh=>⟨by decide,by decide,by simp,λh2=> ?_,λh2=> ?_⟩⟩
 .have h:¬zbs u a b i j=0:=h
  unfold orZ;rw [if_pos h];rfl
 .have h:zbs u a b i j=0:=Classical.byContradiction h
  unfold orZ;rw [if_neg (λk=>k h)];rfl
 .have h:zbs u a b i j=0:=Classical.byContradiction h
  have h2:zij c a.si b.si=0:=Classical.byContradiction h2
  unfold orZ;rw [if_neg (λk=>k h),h2]
theorem zwk (a b:GD) (i j:Int) (s t:D) (ht:zsx t) (ha:a.tg.len<=100) (hb:b.tg.len<=100):zae (zbi cm0 cF3 zaA) 3 174 [pV a i,pV b j,.dpt 9 s,.dpt 173 t] (.int .i64 (zkC s.asStr t a b i j)):=by
 rw [zvh]
 exact ⟨λh1=>⟨λh2=>⟨λh3=>by unfold zkC;rw [if_pos ⟨h1,.inr h3⟩],λh3=>⟨⟨ht,ha,hb⟩,by unfold zkC;rw [if_neg (λq=>q.2.elim h2 h3)]⟩⟩,λh2=>by unfold zkC;rw [if_pos ⟨h1,.inl h2⟩]⟩,
  λh1=>⟨⟨ht,ha,hb⟩,by unfold zkC;rw [if_neg (λq=>h1 q.1)]⟩⟩
theorem zwc (k:Int) (a:List UInt8) (la:Prop) (nm:D) (n:Int):zae (zbi cm0 (λ_=>none) zaA) 5 143 [.agg [.int .u8 k,.str a,.prop la,.dat 29 nm,.int .i64 n]] (.fnd 173 (zbM k a la nm n)):=by
 rw [zu9]
 refine ⟨λh=>by unfold zbM;rw [if_pos h],λh1=>⟨λh=> ?_,λh2=>⟨λh=> ?_,λh3=>⟨λh=> ?_,λh4=>⟨λh=> ?_,λh5=>⟨λh=> ?_,λh6=>⟨λh=> ?_,λh7=>⟨λh=> ?_,λh8=>⟨λh=> ?_,λh9=> ?_⟩⟩⟩⟩⟩⟩⟩⟩⟩
 .unfold zbM;rw [if_neg h1,if_pos h];rfl
 .unfold zbM;rw [if_neg h1,if_neg h2,if_pos h];rfl
 .unfold zbM;rw [if_neg h1,if_neg h2,if_neg h3,if_pos h];rfl
 .unfold zbM;rw [if_neg h1,if_neg h2,if_neg h3,if_neg h4,if_pos h];rfl
 .unfold zbM;rw [if_neg h1,if_neg h2,if_neg h3,if_neg h4,if_neg h5,if_pos h];rfl
 .unfold zbM;rw [if_neg h1,if_neg h2,if_neg h3,if_neg h4,if_neg h5,if_neg h6,if_pos h];rfl
 .unfold zbM;rw [if_neg h1,if_neg h2,if_neg h3,if_neg h4,if_neg h5,if_neg h6,if_neg h7,if_pos h]
 .unfold zbM;rw [if_neg h1,if_neg h2,if_neg h3,if_neg h4,if_neg h5,if_neg h6,if_neg h7,if_neg h8,if_pos h];rfl
 .unfold zbM;rw [if_neg h1,if_neg h2,if_neg h3,if_neg h4,if_neg h5,if_neg h6,if_neg h7,if_neg h8,if_neg h9];rfl
theorem zwb (s:List UInt8) (t:D):zae (zbi cm0 (λ_=>none) zaA) 3 142 [.str s,.fnd 173 t] (.fnd 173 (zgY s t)):=by rw [zu8];rfl
end
end Go.Ev

end

section
open Go.Proofs
namespace Go.Ev
noncomputable section
structure naP (k:Int) (nm:D) (n:Int) (g:GD):Prop where
 out:(k=4/\g.sd=n)\/(k=5/\g.ho)\/(k=7/\zbn nm g.ct)\/((k≠4/\k≠5/\k≠7)/\zpy g.tg nm)
structure zdd (k:Int) (la:Prop) (nm:D) (n:Int) (a b:GD) (i j:Int):Prop where
 out:(k=1/\idx nm a.rk<idx nm b.rk)\/(k=2/\a.si≠0/\(b.si=0\/a.si<b.si))\/(k=3/\a.si≠0/\(b.si=0\/b.si<a.si))\/(k=8/\sLt a.nm b.nm)\/(k=9/\inB i/\inB j/\i<j)\/
  (k=10/\inB i/\inB j/\zl3 i n<zl3 j n)\/((k≠1/\k≠2/\k≠3/\k≠8/\k≠9/\k≠10)/\((la/\¬naP k nm n a/\naP k nm n b)\/(¬la/\naP k nm n a/\¬naP k nm n b)))
open Classical in
def clZ (k:Int) (s:List UInt8) (la:Prop) (nm:D) (n:Int) (a b:GD) (i j:Int):Int:=
 if s≠ []/\(a.rk≠s\/b.rk≠s) then 0 else if zdd k la nm n a b i j then-1 else if zdd k la nm n b a j i then 1 else 0
def clE (c:D) (a b:GD) (i j:Int) (x:Nat):Int:=clZ (cK (el c x)) (cA (el c x)) (cL (el c x)) (cNm (el c x)) (cN (el c x)) a b i j
def zcd (c:D) (a b:GD) (i j:Int):Int×Int:=if (zbl c).2=0 then zbL (clE c a b i j) c.len 0 else (0,0)
def zcx (l:D) (n:Nat):List D:=(List.range n).map λi=> .str (sAt l i)
def zhv (l:D):D:=zdV (zcx l l.len)
def zgP (g:GD):GD:={g with tg:=zhv g.tg}
structure zfx (a b:GD):Prop where
 out:a.nm=b.nm/\a.rk=b.rk/\a.ct=b.ct/\a.si=b.si/\a.sd=b.sd/\a.di=b.di/\(a.ho↔b.ho)/\(a.ac↔b.ac)/\eqS a.tg b.tg
structure ztP (l:D):Prop where
 out:∀i,i<l.len->(sAt l i).length<=40
structure zq3 (d:D):Prop where
 out:max (max ((d.fld 0).asStr.length:Int) (d.fld 1).asStr.length) (d.fld 2).asStr.length<=40/\(d.fld 8).len<=10/\ztP (d.fld 8)
def gD (g:GD):D:= .sct [.str g.nm,.str g.rk,.str g.ct,.int g.si,.int g.sd,.str g.di,.bool g.ho,.bool g.ac,g.tg]
def zlS:Con:=λ| [.dat 22 c]=>some (zaE c,.prop ((zbl c).2=0))|_=>none
def ziA:Con:=fun
 | [.agg [.int .u8 k,.str _,.prop _,.dat 29 nm,.int .i64 n],q]=>(match gOf q with|some g=>some (nm.len<=100/\g.tg.len<=100,.prop (naP k nm n g))|none=>none)
 |_=>none
def znf:Con:=fun
 | [.agg [.int .u8 k,.str _,.prop la,.dat 29 nm,.int .i64 n],p,q,.int .i64 i,.int .i64 j]=>(match gOf p,gOf q with
  |some a,some b=>some (nm.len<=100/\a.tg.len<=100/\b.tg.len<=100/\(k=10->0<=n/\n<=63),.prop (zdd k la nm n a b i j))
  |_,_=>none)
 |_=>none
def zpM:Con:=fun
 | [.dat 22 c,p,q,.int .i64 i,.int .i64 j]=>(match gOf p,gOf q with
  |some a,some b=>some (zaE c/\a.tg.len<=100/\b.tg.len<=100,.tup [.int .i64 (zcd c a b i j).1,.int .i64 (zcd c a b i j).2])
  |_,_=>none)
 |_=>none
def zrM:Con:=fun
 | [.dat 22 c,p,q,.int .i64 i,.int .i64 j]=>(match gOf p,gOf q with
  |some a,some b=>some (zaE c/\a.tg.len<=100/\b.tg.len<=100,.int .i64 (zcd c a b i j).2)
  |_,_=>none)
 |_=>none
def znd:Con:=λ| [.dat 29 l]=>some (l.len<=8796093022208,.dat 29 (zhv l))|_=>none
def zm9:Con:=λ| [p]=>(match gOf p with|some g=>some (g.tg.len<=8796093022208,gV (zgP g))|none=>none)|_=>none
def zng:Con:=λ| [.dat 29 a,.dat 29 b]=>some (a.len<=8796093022208,.prop (eqS a b))|_=>none
def znb:Con:=λ| [p,q]=>(match gOf p,gOf q with|some a,some b=>some (a.tg.len<=8796093022208,.prop (zfx a b))|_,_=>none)|_=>none
def zrP:Con:=fun
 | [.agg [.str nm,.str rk,.str ct,.int .i64 si,.int .i64 sd,.str di,.prop ho,.prop ac,.dat 29 tg]]=>some (True,.prop (¬zq3 (.sct [.str nm,.str rk,.str ct,.int si,.int sd,.str di,.bool ho,.bool ac,tg])))
 |_=>none
def cn0:FuncId->Option Con
 |143=>some zkK
 |142=>some zkJ
 |g=>cc4 g
def cn1:FuncId->Option Con
 |143=>some zkK
 |142=>some zkJ
 |93=>some zrT
 |92=>some znC
 |91=>some zlS
 |63=>some zlS
 |202=>some zns
 |153=>some znd
 |157=>some zng
 |205=>some ziA
 |g=>cc4 g
def cn2:FuncId->Option Con
 |156=>some znf
 |116=>some zm9
 |125=>some znb
 |31=>some zpM
 |58=>some zrP
 |g=>cn1 g
def zbm:FuncId->Nat->Option Ann
 |93,3=>some {τ:=Nat,slots:=λ_ _ x=> [(11,.int .i64 x)],blks:=λS _ x=> [(0,.arr 173 (zaW (slD S 0) x++List.replicate ((slD S 0).len-x) .nil))],inv:=λS _ x=>x<=(slD S 0).len,meas:=λS _ x=>(slD S 0).len-x}
 |157,4=>some {τ:=Nat,slots:=λ_ _ x=> [(5,.int .i64 x)],blks:=λ_ _ _=> [],inv:=λS _ x=>x<=(slD S 0).len/\∀i,i<x->sAt (slD S 0) i=sAt (slD S 1) i,meas:=λS _ x=>(slD S 0).len-x}
 |153,3=>some {hs:=2,τ:=Nat,slots:=λ_ i x=>match i with|0=> [(4,.int .i64 0),(3,.val (.slice none 0 0))]|_=> [(4,.int .i64 x),(3,.slc 60 (.lit 0) (.sym x) none)],blks:=λS i x=>match i with|0=> []|_=> [(60,.arr 9 (zcx (slD S 0) x))],inv:=λS i x=>match i with|0=>x=0|_=>0<x/\x<=(slD S 0).len,meas:=λS _ x=>(slD S 0).len-x}
 |41,2=>some {τ:=Nat,slots:=λ_ _ x=> [(8,.int .i64 x)],blks:=λ_ _ _=> [],inv:=λS _ x=>x<=(slD S 0).len/\∀i,i<x->zq3 (el (slD S 0) i),meas:=λS _ x=>(slD S 0).len-x}
 |76,2=>some {τ:=Nat,slots:=λ_ _ x=> [(8,.int .i64 x)],blks:=λ_ _ _=> [],inv:=λS _ x=>x<=(slD S 0).len/\∀i,i<x->(sAt (slD S 0) i).length<=40,meas:=λS _ x=>(slD S 0).len-x}
 |_,_=>none
def zoK (f:Nat->Int):FuncId->Nat->Option Ann
 |92,2=>some {τ:=Nat,slots:=λ_ _ x=> [(13,.int .i64 x)],blks:=λ_ _ _=> [],inv:=λS _ x=>x<=(slD S 0).len/\zbL f ((slD S 0).len-x) x=zbL f (slD S 0).len 0,meas:=λS _ x=>(slD S 0).len-x}
 |121,2=>some {τ:=Nat,slots:=λ_ _ x=> [(12,.int .i64 x)],blks:=λ_ _ _=> [],inv:=λS _ x=>x<=(slD S 0).len/\zbL f ((slD S 0).len-x) x=zbL f (slD S 0).len 0,meas:=λS _ x=>(slD S 0).len-x}
 |_,_=>none
def zok (nm tg:D):FuncId->Nat->Option Ann
 |205,9=>some {τ:=Nat,slots:=λ_ _ x=> [(5,.int .i64 x)],blks:=λ_ _ _=> [],inv:=λ_ _ x=>x<=tg.len/\∀i,i<x->¬zbn nm (sAt tg i),meas:=λ_ _ x=>tg.len-x}
 |_,_=>none
end
end Go.Ev

end
