/- Part of the proof. -/
import Derived.Test.YtdojhafbgoimeaaGreatDoorCoreG22

section
open Go.Proofs
namespace Go.Ev
noncomputable section
def pl (p:D):D:= .sct [gD (gAt (p.fld 0)),.int (p.fld 1).asInt]
def gP (p:D):GD×Int:=(gAt (p.fld 0),(p.fld 1).asInt)
def plG (g:D) (i:Nat):D:= .sct [gD (gAt (el g i)),.int (i:Nat)]
def plL (g:D) (n:Nat):List D:=(List.range n).map (plG g)
def zdi (l:D) (n:Nat):List D:=(List.range n).map λi=>pl (el l i)
def zaT (c p q:D):Int:=zwJ c (gP p) (gP q)
def zxB (ts:D) (a b:GD) (i j:Int):Int×Int:=zb9 (λk=>zk0 (el ts k) a b i j) ts.len 0
def zb5 (f:D->D->Int) (R:List D) (a:Int) (i:Nat):List D:=if a=0 then zi1 f [] (R.take i)++R.drop i else R
def zim (Q:List D) (i j:Nat):List D:=(Q.take i).take j++zad Q i::(Q.take i).drop j++Q.drop (i+1)
def zjO (g:List D):D:= .list (g.map λp=> .int (p.fld 1).asInt)
def grL (f:D->D->Int) (Q:List D) (n:Nat):List D:=(zc5 f (Q.take n)).map zjO
def za0 (c l:D):List D:=zi1 (zaT c) [] (zdi l l.len)
def grD (c l:D):D:=zbC (grL (zaT c) (za0 c l) l.len)
structure zzq (f:D->D->Int) (Q:List D) (x:Nat):Prop where
 out:x=0\/f (zad Q (x-1)) (zad Q x)≠0
open Classical in
def zeb (f:D->D->Int) (Q R:List D) (x:Nat):List D:=if zzq f Q x then R++ [.nil] else R
def jB (S:SS) (t:Tmp):Nat:=match S.fr.get t with|some (.slc b _ _ _)=>b|_=>Nat.add S.nx 1
structure tgP (l:D):Prop where
 out:∀i,i<l.len->(gAt ((el l i).fld 0)).tg.len<=100
def zoH:Con:=fun
 | [.dat 127 ts,p,q]=>(match pOf p,pOf q with
  |some (a,i),some (b,j)=>some ((ts.len<=100/\∀k,k<ts.len->okA (el ts k))/\a.tg.len<=100/\b.tg.len<=100,.tup [.int .i64 (zxB ts a b i j).1,.int .i64 (zxB ts a b i j).2])
  |_,_=>none)
 |_=>none
def zoB:Con:=λ| [_,_,_,_,_]=>some (False,.tup [])|_=>none
def zuc:Con:=λ| [.dat 23 g]=>some (g.len<=100,.dat 130 (.list (plL g g.len)))|_=>none
def or0:FuncId->Option Con
 |93=>some zoI
 |92=>some zoH
 |242=>some zoB
 |_=>none
def yB (S:SS) (t:Tmp) (sl:Tmp):Nat:=match S.fr.get t with|some (.yld b)=>(match S.hp.get b with|some (.lp _ _ fr _ _ _ _)=>(match fr.get sl with|some (.ptr c _)=>c|_=>0)|_=>0)|_=>0
def zzy (S:SS) (b:Nat):Nat:=match S.hp.get b with|some (.box _ [.slc r _ _ _])=>r|_=>Nat.add S.nx 300
def zyw (c l:D):FuncId->Nat->Option Ann
 |97,3=>some {τ:=Nat,slots:=λ_ _ x=> [(11,.int .i64 x)],blks:=λS _ x=> [(zi0 S 3,.arr 126 (plL (slD S 0) x++(zc4 S 3).drop x))],inv:=λS _ x=>x<=(slD S 0).len,meas:=λS _ x=>(slD S 0).len-x}
 |191,1=>some {hs:=2,τ:=Nat,slots:=λ_ _ x=> [(7,.int .i64 x)],blks:=λS i x=>match i with|0=> [(yB S 0 2,.box 130 [.val (.slice none 0 0)])]|_=> [(yB S 0 2,.box 130 [.slc (zzy S (yB S 0 2)) (.lit 0) (.sym x) none]),(zzy S (yB S 0 2),.arr 126 (zdi (slD S 5) x))],inv:=λS i x=>match i with|0=>x=0|_=>0<x/\x<=(slD S 5).len,meas:=λS _ x=>(slD S 5).len-x}
 |225,2=>some {τ:=Nat,slots:=λ_ _ a=> [(7,.int .i64 a),(8,.int .i64 ((a:Int)+20))],blks:=λS _ a=> [(zi0 S 0,.arr 126 (zb5 (zaT c) (zc4 S 0) 0 a))],inv:=λS _ a=>a=0\/(a=20/\(zc4 S 0).length=20),meas:=λ_ _ a=>40-a}
 |225,7=>some {τ:=Unit,slots:=λ_ _ _=> [(6,.int .i64 20)],blks:=λ_ _ _=> [],inv:=λ_ _ _=>True,meas:=λ_ _ _=>0}
 |225,9=>some {τ:=Unit,slots:=λ_ _ _=> [],blks:=λ_ _ _=> [],inv:=λ_ _ _=>False,meas:=λ_ _ _=>0}
 |241,1=>some {τ:=Nat,slots:=λ_ _ i=> [(8,.int .i64 i)],blks:=λS _ i=> [(zi0 S 0,.arr 126 (zb5 (zaT c) (zc4 S 0) (slI S 1) i))],inv:=λS _ i=>(slI S 1=0/\1<=i/\(i:Int)<=max (slI S 2) 1)\/(slI S 1≠0/\(i:Int)=slI S 1+1/\slI S 2<=slI S 1),meas:=λS _ i=>(slI S 2).toNat-i}
 |241,4=>some {τ:=Nat,slots:=λ_ _ j=> [(9,.int .i64 j)],blks:=λS _ j=> [(zi0 S 0,.arr 126 (zim (zc4 S 0) (slI S 8).toNat j))],inv:=λS _ j=>slI S 1=0/\j<=(slI S 8).toNat/\(slI S 8).toNat<(zc4 S 0).length/\zeC (zaT c) (zad (zc4 S 0) (slI S 8).toNat) ((zc4 S 0).take (slI S 8).toNat) j=zeC (zaT c) (zad (zc4 S 0) (slI S 8).toNat) ((zc4 S 0).take (slI S 8).toNat) (slI S 8).toNat,meas:=λ_ _ j=>j}
 |96,6=>some {hs:=2,τ:=Nat,slots:=λS i x=>match i with|0=> [(21,.int .i64 0),(8,.val (.slice none 0 0))]|_=> [(21,.int .i64 x),(8,.slc 60 (.lit 0) (.sym (grL (zaT c) (za0 c l) x).length) none)],blks:=λS i x=>match i with|0=> []|_=> [(60,.own S.nx 34 3 (grL (zaT c) (za0 c l) x))],inv:=λS i x=>match i with|0=>x=0|_=>0<x/\x<=l.len,meas:=λS _ x=>l.len-x}
 |_,_=>none
def zwI (c l:D):FuncId->Nat->Option Ann
 |96,4=>some {τ:=Unit,slots:=λS _ _=> [(7,.slc (Nat.add S.nx 200) (.lit 0) (.sym l.len) none)],blks:=λS _ _=> [(Nat.add S.nx 200,.arr 126 (za0 c l))],inv:=λ_ _ _=>True,meas:=λ_ _ _=>0}
 |145,2=>some {τ:=Unit,slots:=λS _ _=> [(5,.slc (Nat.add S.nx 200) (.lit 0) (.sym l.len) none)],blks:=λS _ _=> [(Nat.add S.nx 200,.arr 126 (zdi l l.len))],inv:=λ_ _ _=>True,meas:=λ_ _ _=>0}
 |96,10=>some {τ:=List D,slots:=λS _ L=> [(8,.slc (jB S 8) (.lit 0) (.sym L.length) none)],blks:=λS _ L=> [(jB S 8,.own S.nx 34 3 L)],inv:=λS _ L=>L=zeb (zaT c) (za0 c l) (zc4 S 8) (slI S 21).toNat/\0<L.length,meas:=λ_ _ _=>0}
 |_,_=>none
def zoN (con:FuncId->Option Con) (c l:D):Ctx:={ctx con (zyw c l) with join:=zwI c l}
instance (con:FuncId->Option Con) (c l:D):Nonempty (NoF (zoN con c l)):=⟨⟨λ_ _ h=>zeQ h⟩⟩
def zyd:FuncId->Nat->Option Ann
 |191,1=>some {τ:=Unit,slots:=λ_ _ _=> [(7,.int .i64 0)],blks:=λS _ _=> [(yB S 0 2,.box 130 [.val (.slice none 0 0)])],inv:=λ_ _ _=>True,meas:=λ_ _ _=>0}
 |225,2=>some {τ:=Unit,slots:=λ_ _ _=> [(7,.int .i64 0),(8,.int .i64 20)],blks:=λ_ _ _=> [],inv:=λ_ _ _=>True,meas:=λ_ _ _=>0}
 |225,7=>some {τ:=Unit,slots:=λ_ _ _=> [(6,.int .i64 20)],blks:=λ_ _ _=> [],inv:=λ_ _ _=>True,meas:=λ_ _ _=>0}
 |225,9=>some {τ:=Unit,slots:=λ_ _ _=> [],blks:=λ_ _ _=> [],inv:=λ_ _ _=>False,meas:=λ_ _ _=>0}
 |241,1=>some {τ:=Unit,slots:=λ_ _ _=> [(8,.int .i64 1)],blks:=λ_ _ _=> [],inv:=λ_ _ _=>True,meas:=λ_ _ _=>0}
 |241,4=>some {τ:=Unit,slots:=λ_ _ _=> [],blks:=λ_ _ _=> [],inv:=λ_ _ _=>False,meas:=λ_ _ _=>0}
 |96,6=>some {τ:=Unit,slots:=λ_ _ _=> [(21,.int .i64 0),(8,.val (.slice none 0 0))],blks:=λ_ _ _=> [],inv:=λ_ _ _=>True,meas:=λ_ _ _=>0}
 |_,_=>none
def zv9:FuncId->Nat->Option Ann
 |96,10=>some {τ:=Unit,slots:=λ_ _ _=> [],blks:=λ_ _ _=> [],inv:=λ_ _ _=>False,meas:=λ_ _ _=>0}
 |_,_=>none
def zxl (con:FuncId->Option Con):Ctx:={ctx con zyd with join:=zv9}
instance (con:FuncId->Option Con):Nonempty (NoF (zxl con)):=⟨⟨λ_ _ h=>zeQ h⟩⟩
end
end Go.Ev

end

section
open Go.Proofs
namespace Go.Ev
noncomputable section
structure tgG (g:D):Prop where
 out:∀i,i<g.len->(gAt (el g i)).tg.len<=100
def zao (ll:D):Nat->List D
 |0=> []
 |n+1=>zao ll n++(el ll n).asList
def zff (ll:D):D:=zbC (zao ll ll.len)
structure zdx (ll:D):Prop where
 out:ll.len<=100/\∀i,i<ll.len->(el ll i).len<=100
open Classical in
def lnD (c l:D):D×Int:=if (grD c l).len<l.len then (.nil,32) else (zff (grD c l),0)
def zxC (R:List D) (k:Int) (s:D):Nat->List D
 |0=>R
 |j+1=>(zxC R k s j).set (el s j).asInt.toNat (.int k)
def zyG (R:List D) (ll:D):Nat->List D
 |0=>R
 |k+1=>zxC (zyG R ll k) k (el ll k) (el ll k).len
def sxZ (c g:D) (a b:Nat):Int:=(zb9 (clE c (gAt (el g a)) (gAt (el g b)) a b) c.len 0).1
structure dcP (c g:D) (i j:Nat) (k:Nat):Prop where
 out:∃a b,((b<a/\a<i)\/(a=i/\b<j))/\sxZ c g a b=k
def dcL (c g:D) (i j:Nat):List D:=(List.range c.len).map λk=> .bool (dcP c g i j k)
open Classical in
def dlP (c g:D):Nat->List D
 |0=> []
 |k+1=>if dcP c g g.len 0 k then dlP c g k++ [.int k] else dlP c g k
structure zzL (c g:D) (k:Nat):Prop where
 out:∃a b,a<g.len/\b<g.len/\sxZ c g a b=k
open Classical in
def zvK (c g:D):Nat->List D
 |0=> []
 |k+1=>if zzL c g k then zvK c g k++ [.int k] else zvK c g k
structure goP (c g:D) (x y:Int):Prop where
 out:(zb9 (clE c (gAt (el g x.toNat)) (gAt (el g y.toNat)) x y) c.len 0).2<0
def iL (s:List Nat):List D:=s.map λx=> .int (x:Nat)
def iD (s:List Nat):D:=zbC (iL s)
def sOf (d:D):List Nat:=d.asList.map λx=>x.asInt.toNat
def atN (l:List Nat) (i:Nat):Nat:=(l[i]?).getD 0
structure zwk (c g:D) (s:List Nat) (x:Nat):Prop where
 out:∀y,y∈s->¬goP c g y x
open Classical in
def frL (c g:D) (s t:List Nat):List Nat:=t.filter λx=>decide (zwk c g s x)
open Classical in
def rsL (c g:D) (s t:List Nat):List Nat:=t.filter λx=>decide (¬zwk c g s x)
def zu7 (c g:D):Nat->List Nat->List (List Nat)
 |0,_=> []
 |f+1,s=>if frL c g s s= [] then [] else frL c g s s::zu7 c g f (rsL c g s s)
def rgL (n:Nat):List D:=iL (List.range n)
structure zzV (ll:D) (n:Nat):Prop where
 out:∀i,i<n->(el ll i).len=1
def hdL (ll:D) (n:Nat):List D:=(List.range n).map λi=> .int (el (el ll i) 0).asInt
structure fdP (c g:D) (k i j:Nat):Prop where
 out:∃a b,((a<i/\b<g.len)\/(a=i/\b<j))/\sxZ c g a b=k
def cgL (l:D) (n:Nat):List D:=(List.range n).map λi=>gD (zxU (gAt (el l i)))
structure eqN (a b:D):Prop where
 out:a.len=b.len/\∀i,i<a.len->(el a i).asInt=(el b i).asInt
def zjh:Con:=λ| [.dat 22 c,.dat 130 l]=>some ((zaE c/\(zbm c).2=0)/\l.len<=20/\tgP l,.dat 57 (grD c l))|_=>none
def zoh:Con:=λ| [.dat 57 ll]=>some (zdx ll,.dat 34 (zff ll))|_=>none
def zud:Con:=λ| [.dat 22 c,.dat 130 l]=>some ((zaE c/\(zbm c).2=0)/\l.len<=20/\tgP l,.tup [.dat 34 (lnD c l).1,.int .i64 (lnD c l).2])|_=>none
def zzp (S:SS) (t:Tmp) (k:SB):List (Nat×SB):=match S.fr.get t with|some (.slc b _ _ _)=> [(b,k)]|_=> []
def zyx (c g:D):FuncId->Nat->Option Ann
 |147,3=>some {τ:=Nat,slots:=λS _ x=> [(11,.int .i64 x),(3,.int .i64 (zao (slD S 9) x).length)],blks:=λ_ _ _=> [],inv:=λS _ x=>x<=(slD S 9).len,meas:=λS _ x=>(slD S 9).len-x}
 |147,11=>some {hs:=2,τ:=Nat×List D,slots:=λS i x=>match i with|0=> [(27,.int .i64 x.1),(6,.val (.slice none 0 0))]|_=> [(27,.int .i64 x.1),(6,.slc 60 (.lit 0) (.sym (zao (slD S 25) x.1).length) none)],blks:=λ_ i x=>match i with|0=> []|_=> [(60,.arr 3 x.2)],inv:=λS i x=>match i with|0=>x.1<=(slD S 25).len/\(zao (slD S 25) (slD S 25).len).length=0|_=>(x.1<=(slD S 25).len/\0<(zao (slD S 25) (slD S 25).len).length)/\(zao (slD S 25) x.1).length<=x.2.length/\x.2.take (zao (slD S 25) x.1).length=zao (slD S 25) x.1,meas:=λS _ x=>(slD S 25).len-x.1,dead:=λS=>match S.fr.get 6 with|some (.slc b _ _ _)=> [b]|_=> []}
 |35,5=>some {τ:=Nat,slots:=λ_ _ x=> [(21,.int .i64 x)],blks:=λS _ x=> [(zi0 S 5,.arr 3 (zyG (zc4 S 5) (slD S 19) x))],inv:=λS _ x=>x<=(slD S 19).len,meas:=λS _ x=>(slD S 19).len-x}
 |35,8=>some {τ:=Nat,slots:=λ_ _ y=> [(28,.int .i64 y)],blks:=λS _ y=> [(zi0 S 5,.arr 3 (zxC (zc4 S 5) (slI S 6) (slD S 26) y))],inv:=λS _ y=>y<=(slD S 26).len,meas:=λS _ y=>(slD S 26).len-y}
 |68,6=>some {τ:=Nat,slots:=λ_ _ x=> [(30,.int .i64 x)],blks:=λS _ x=> [(zi0 S 7,.arr 4 (dcL c g x 0))],inv:=λ_ _ x=>x<=g.len,meas:=λ_ _ x=>g.len-x}
 |68,9=>some {τ:=Nat,slots:=λ_ _ y=> [(39,.int .i64 y)],blks:=λS _ y=> [(zi0 S 7,.arr 4 (dcL c g (slI S 30).toNat y))],inv:=λS _ y=>y<=(slI S 30).toNat,meas:=λS _ y=>(slI S 30).toNat-y}
 |68,18=>some {hs:=2,τ:=Nat,slots:=λ_ i x=>match i with|0=> [(59,.int .i64 x),(14,.val (.slice none 0 0))]|_=> [(59,.int .i64 x),(14,.slc 60 (.lit 0) (.sym (dlP c g x).length) none)],blks:=λ_ i x=>match i with|0=> []|_=> [(60,.arr 3 (dlP c g x))],inv:=λ_ i x=>match i with|0=>x<=c.len/\dlP c g x= []|_=>x<=c.len/\0<(dlP c g x).length,meas:=λ_ _ x=>c.len-x}
 |119,2=>some {hs:=2,τ:=Nat×List Nat×List (List Nat),slots:=λ_ i x=>match i with|0=> [(2,.dat 34 (iD x.2.1)),(7,.val (.slice none 0 0))]|_=> [(2,.dat 34 (iD x.2.1)),(7,.slc 60 (.lit 0) (.sym x.2.2.length) none)],blks:=λ_ i x=>match i with|0=> []|_=> [(60,.arr 34 (x.2.2.map iD))],inv:=λS i x=>(x.2.1.length<x.1/\x.2.1.length<=20/\x.2.2.length+x.2.1.length<=20/\(∀y,y∈x.2.1->y<g.len)/\x.2.2++zu7 c g x.1 x.2.1=zu7 c g ((slD S 2).len+1) (sOf (slD S 2)))/\match i with|0=>x.2.2= []|_=>0<x.2.2.length,meas:=λ_ _ x=>x.2.1.length}
 |119,5=>some {hs:=4,τ:=Nat,slots:=λS i x=> [(10,.int .i64 x),(8,match i with|0=> .val (.slice none 0 0)|2=> .val (.slice none 0 0)|_=> .slc 61 (.lit 0) (.sym (frL c g (sOf (slD S 2)) ((sOf (slD S 2)).take x)).length) none),(9,match i with|0=> .val (.slice none 0 0)|1=> .val (.slice none 0 0)|_=> .slc 62 (.lit 0) (.sym (rsL c g (sOf (slD S 2)) ((sOf (slD S 2)).take x)).length) none)],blks:=λS i x=>match i with|0=> []|1=> [(61,.arr 3 (iL (frL c g (sOf (slD S 2)) ((sOf (slD S 2)).take x))))]|2=> [(62,.arr 3 (iL (rsL c g (sOf (slD S 2)) ((sOf (slD S 2)).take x))))]|_=> [(61,.arr 3 (iL (frL c g (sOf (slD S 2)) ((sOf (slD S 2)).take x)))),(62,.arr 3 (iL (rsL c g (sOf (slD S 2)) ((sOf (slD S 2)).take x))))],inv:=λS i x=>(x<=(sOf (slD S 2)).length/\(slD S 2)=iD (sOf (slD S 2)))/\((i=1\/i=3)↔0<(frL c g (sOf (slD S 2)) ((sOf (slD S 2)).take x)).length)/\((i=2\/i=3)↔0<(rsL c g (sOf (slD S 2)) ((sOf (slD S 2)).take x)).length),meas:=λS _ x=>(sOf (slD S 2)).length-x}
 |119,9=>some {τ:=Nat,slots:=λS _ x=> [(12,.int .i64 x),(11,.prop (∀y,y∈(sOf (slD S 2)).take x->¬goP c g y (atN (sOf (slD S 2)) (slI S 10).toNat)))],blks:=λ_ _ _=> [],inv:=λS _ x=>x<=(sOf (slD S 2)).length,meas:=λS _ x=>(sOf (slD S 2)).length-x}
 |120,3=>some {hs:=2,τ:=Nat,slots:=λ_ i x=>match i with|0=> [(4,.int .i64 0),(3,.val (.slice none 0 0))]|_=> [(4,.int .i64 x),(3,.slc 60 (.lit 0) (.sym x) none)],blks:=λ_ i x=>match i with|0=> []|_=> [(60,.arr 3 (rgL x))],inv:=λS i x=>match i with|0=>x=0|_=>0<x/\(x:Int)<=slI S 0,meas:=λS _ x=>(slI S 0).toNat-x}
 |118,3=>some {hs:=2,τ:=Nat,slots:=λ_ i x=>match i with|0=> [(5,.int .i64 0),(4,.val (.slice none 0 0))]|_=> [(5,.int .i64 x),(4,.slc 60 (.lit 0) (.sym x) none)],blks:=λS i x=>match i with|0=> []|_=> [(60,.arr 3 (hdL (slD S 0) x))],inv:=λS i x=>match i with|0=>x=0|_=>0<x/\x<=(slD S 0).len/\zzV (slD S 0) x,meas:=λS _ x=>(slD S 0).len-x}
 |66,3=>some {τ:=Nat,slots:=λ_ _ x=> [(6,.int .i64 x)],blks:=λS _ x=>zzp S 5 (.arr 3 (zyG (zc4 S 5) (slD S 0) x)),inv:=λS _ x=>x<=(slD S 0).len,meas:=λS _ x=>(slD S 0).len-x}
 |66,6=>some {τ:=Nat,slots:=λ_ _ y=> [(7,.int .i64 y)],blks:=λS _ y=>zzp S 5 (.arr 3 (zxC (zc4 S 5) (slI S 6) (el (slD S 0) (slI S 6).toNat) y)),inv:=λS _ y=>y<=(el (slD S 0) (slI S 6).toNat).len,meas:=λS _ y=>(el (slD S 0) (slI S 6).toNat).len-y}
 |65,3=>some {hs:=2,τ:=Nat,slots:=λ_ i x=>match i with|0=> [(6,.int .i64 x),(5,.val (.slice none 0 0))]|_=> [(6,.int .i64 x),(5,.slc 60 (.lit 0) (.sym (zvK c g x).length) none)],blks:=λ_ i x=>match i with|0=> []|_=> [(60,.arr 3 (zvK c g x))],inv:=λ_ i x=>match i with|0=>x<=c.len/\zvK c g x= []|_=>x<=c.len/\0<(zvK c g x).length,meas:=λ_ _ x=>c.len-x}
 |65,7=>some {τ:=Nat,slots:=λS _ x=> [(8,.int .i64 x),(7,.prop (fdP c g (slI S 6).toNat x 0))],blks:=λ_ _ _=> [],inv:=λ_ _ x=>x<=g.len,meas:=λ_ _ x=>g.len-x}
 |65,10=>some {τ:=Nat,slots:=λS _ y=> [(9,.int .i64 y),(7,.prop (fdP c g (slI S 6).toNat (slI S 8).toNat y))],blks:=λ_ _ _=> [],inv:=λ_ _ y=>y<=g.len,meas:=λ_ _ y=>g.len-y}
 |61,3=>some {hs:=2,τ:=Nat,slots:=λ_ i x=>match i with|0=> [(4,.int .i64 0),(3,.val (.slice none 0 0))]|_=> [(4,.int .i64 x),(3,.slc 60 (.lit 0) (.sym x) none)],blks:=λS i x=>match i with|0=> []|_=> [(60,.arr 53 (cgL (slD S 0) x))],inv:=λS i x=>match i with|0=>x=0|_=>0<x/\x<=(slD S 0).len,meas:=λS _ x=>(slD S 0).len-x}
 |70,4=>some {τ:=Nat,slots:=λ_ _ x=> [(5,.int .i64 x)],blks:=λ_ _ _=> [],inv:=λS _ x=>x<=(slD S 0).len/\∀i,i<x->zyF (gAt (el (slD S 0) i)) (gAt (el (slD S 1) i)),meas:=λS _ x=>(slD S 0).len-x}
 |67,4=>some {τ:=Nat,slots:=λ_ _ x=> [(5,.int .i64 x)],blks:=λ_ _ _=> [],inv:=λS _ x=>x<=(slD S 0).len/\∀i,i<x->eqN (el (slD S 0) i) (el (slD S 1) i),meas:=λS _ x=>(slD S 0).len-x}
 |122,4=>some {τ:=Nat,slots:=λ_ _ x=> [(5,.int .i64 x)],blks:=λ_ _ _=> [],inv:=λS _ x=>x<=(slD S 0).len/\∀i,i<x->(el (slD S 0) i).asInt=(el (slD S 1) i).asInt,meas:=λS _ x=>(slD S 0).len-x}
 |28,4=>some {τ:=Nat,slots:=λ_ _ x=> [(13,.int .i64 x)],blks:=λ_ _ _=> [],inv:=λS _ x=>x<=(slD S 0).len/\∀i,i<x->(el (slD S 0) i).asInt=(el (slD S 1) i).asInt,meas:=λS _ x=>(slD S 0).len-x}
 |f,n=>zec f n
def zyy:FuncId->Nat->List (Tmp×TypeId)
 |119,18=> [(2,34)]
 |_,_=> []
def zkk (con:FuncId->Option Con) (c g:D):Ctx:={ctx con (zyx c g) with frzT:=zyy}
instance (con:FuncId->Option Con) (c g:D):Nonempty (NoF (zkk con c g)):=⟨⟨λ_ _ h=>zeQ h⟩⟩
def os0:FuncId->Option Con
 |96=>some zjh
 |97=>some zuc
 |147=>some zoh
 |92=>some zoH
 |93=>some zoI
 |98=>some zoJ
 |91=>some zrD
 |_=>none
end
end Go.Ev

end

section
open Go.Proofs
namespace Go.Ev
noncomputable section
theorem zjL {l:List D} {i:Nat} {d:D} (h:l[i]? =some d):zad l i=d:=by unfold zad;rw [h];rfl
theorem zb3 {l:List D} {i:Nat} (h:i<l.length):l[i]? =some (zad l i):=by unfold zad;rw [List.getElem?_eq_getElem h];rfl
theorem zdO (Q:List D) {i j:Nat} (hj:j<=i) (hi:i<Q.length) (k:Nat):(zim Q i j)[k]? =if k<j then Q[k]? else if k=j then Q[i]? else if k<=i then Q[k-1]? else Q[k]? :=by
 unfold zim
 have h1:((Q.take i).take j).length=j:=by rw [List.length_take,List.length_take];omega
 have h2:((Q.take i).take j++zad Q i::(Q.take i).drop j).length=i+1:=by rw [List.length_append,h1,List.length_cons,List.length_drop,List.length_take];omega
 by_cases a:k<j
 .rw [if_pos a,List.getElem?_append_left (by rw [h2];omega),List.getElem?_append_left (by rw [h1];exact a),List.getElem?_take_of_lt a,List.getElem?_take_of_lt (by omega)]
 .rw [if_neg a]
  by_cases b:k=j
  .rw [if_pos b,List.getElem?_append_left (by rw [h2];omega),List.getElem?_append_right (by rw [h1];omega),h1,b,Nat.sub_self,List.getElem?_cons_zero,zb3 hi]
  .rw [if_neg b]
   by_cases d:k<=i
   .rw [if_pos d,List.getElem?_append_left (by rw [h2];omega),List.getElem?_append_right (by rw [h1];omega),h1,show k-j=(k-j-1)+1 by omega,List.getElem?_cons_succ,List.getElem?_drop,List.getElem?_take_of_lt (by omega)]
    congr 1;omega
   .rw [if_neg d,List.getElem?_append_right (by rw [h2];omega),h2,List.getElem?_drop]
    congr 1;omega
theorem zin (Q:List D) {i j:Nat} (hj:j<=i) (hi:i<Q.length):(zim Q i j).length=Q.length:=by
 unfold zim
 rw [List.length_append,List.length_append,List.length_cons,List.length_drop,List.length_drop,List.length_take,List.length_take];omega
theorem zsx (Q:List D) {i:Nat} (hi:i<Q.length):zim Q i i=Q:=by
 apply List.ext_getElem?
 intro k
 rw [zdO Q (Nat.le_refl i) hi]
 by_cases a:k<i
 .rw [if_pos a]
 .rw [if_neg a]
  by_cases b:k=i
  .rw [if_pos b,b]
  .rw [if_neg b,if_neg (by omega)]
theorem zve (Q:List D) {i j:Nat} (hj:j<=i) (hi:i<Q.length):zad (zim Q i j) j=zad Q i:=by
 unfold zad;rw [zdO Q hj hi,if_neg (by omega),if_pos rfl]
theorem zsw (Q:List D) {i j:Nat} (h0:0<j) (hj:j<=i) (hi:i<Q.length):zad (zim Q i j) (j-1)=zad Q (j-1):=by
 unfold zad;rw [zdO Q hj hi,if_pos (by omega)]
theorem zqh (Q:List D) {i j:Nat} (h0:0<j) (hj:j<=i) (hi:i<Q.length):((zim Q i j).set j (zad Q (j-1))).set (j-1) (zad Q i)=zim Q i (j-1):=by
 apply List.ext_getElem?
 intro k
 rw [List.getElem?_set,List.getElem?_set,List.length_set,zin Q hj hi,zdO Q hj hi,zdO Q (by omega) hi]
 by_cases a:j-1=k
 .rw [if_pos a,if_pos (by omega),if_neg (by omega),if_pos (by omega),zb3 hi]
 .rw [if_neg a]
  by_cases b:j=k
  .rw [if_pos b,if_pos (by omega),if_neg (by omega),if_neg (by omega),if_pos (by omega),<-b,zb3 (by omega)]
  .rw [if_neg b]
   by_cases d:k<j
   .rw [if_pos d,if_pos (by omega)]
   .rw [if_neg d,if_neg (show ¬k=j by omega),if_neg (show ¬k<j-1 by omega),if_neg (show ¬k=j-1 by omega)]
theorem zsu {f:D->D->Int} (Q:List D) {i j:Nat} (hi:i<Q.length) (h:zeC f (zad Q i) (Q.take i) i=j):zim Q i j=ztj f (zad Q i) (Q.take i)++Q.drop (i+1):=by
 unfold zim ztj
 rw [show (Q.take i).length=i by rw [List.length_take];omega,h]
theorem zmE {α:Type} {f:α->α->Int}:∀(l P:List α) (e:α),zi1 f P (l++ [e])=ztj f e (zi1 f P l)
 | [],_,_=>rfl
 |_::l,_,e=>zmE l _ e
theorem zgQ {α:Type} {f:α->α->Int} (l:List α):(zi1 f [] l).length=l.length:=(zeX l []).length_eq
theorem zqc (f:D->D->Int) (R:List D):zb5 f R 0 0=R:=by unfold zb5;rw [if_pos rfl];rfl
theorem zqd (f:D->D->Int) (R:List D):zb5 f R 0 1=R:=by
 cases R with
 |nil=>rfl
 |cons a R=>rfl
theorem zty {f:D->D->Int} {R:List D} {a:Int} (h:a≠0) (i:Nat):zb5 f R a i=R:=by unfold zb5;rw [if_neg h]
theorem zmo (f:D->D->Int) (R:List D) (a:Int) (i:Nat):(zb5 f R a i).length=R.length:=by
 unfold zb5;split
 .rw [List.length_append,zgQ,List.length_take,List.length_drop];omega
 .rfl
theorem zqg (f:D->D->Int) (R:List D) {i:Nat} (hi:i<=R.length):(zb5 f R 0 i).take i=zi1 f [] (R.take i):=by
 unfold zb5;rw [if_pos rfl]
 have:(zi1 f [] (R.take i)).length=i:=by rw [zgQ,List.length_take];omega
 rw [List.take_append_of_le_length (by omega),List.take_of_length_le (by omega)]
theorem zss (f:D->D->Int) (R:List D) {i k:Nat} (hi:i<=k) (hk:k<R.length):(zb5 f R 0 i)[k]? =R[k]? :=by
 unfold zb5;rw [if_pos rfl]
 have:(zi1 f [] (R.take i)).length=i:=by rw [zgQ,List.length_take];omega
 rw [List.getElem?_append_right (by omega),this,List.getElem?_drop]
 congr 1;omega
theorem zqe (f:D->D->Int) (R:List D) {i:Nat} (hi:i<R.length):(zb5 f R 0 i).drop (i+1)=R.drop (i+1):=by
 unfold zb5;rw [if_pos rfl]
 have:(zi1 f [] (R.take i)).length=i:=by rw [zgQ,List.length_take];omega
 rw [List.drop_append,List.drop_of_length_le (by omega),this,List.nil_append,List.drop_drop]
 congr 1;omega
theorem zqf {f:D->D->Int} {R:List D} {i j:Nat} (hi:i<R.length) (h:zeC f (zad (zb5 f R 0 i) i) ((zb5 f R 0 i).take i) i=j):zim (zb5 f R 0 i) i j=zb5 f R 0 (i+1):=by
 rw [zsu _ (by rw [zmo];exact hi) h,zqg f R (by omega),zqe f R hi]
 have e:zad (zb5 f R 0 i) i=zad R i:=by unfold zad;rw [zss f R (Nat.le_refl i) hi]
 rw [e]
 show _=(if (0:Int)=0 then _ else _)
 rw [if_pos rfl,List.take_add_one,zb3 hi,Option.toList_some,zmE]
theorem zmn (f:D->D->Int) (R:List D) {n:Nat} (h:R.length<=n):zb5 f R 0 n=zi1 f [] R:=by
 unfold zb5;rw [if_pos rfl,List.take_of_length_le h,List.drop_of_length_le h,List.append_nil]
theorem zv8 {f:D->D->Int} {e:D} {P:List D} {j:Nat} (h0:0<j) (hj:j<=P.length) (h:f e (zad P (j-1))<0):zeC f e P (j-1)=zeC f e P j:=by
 obtain ⟨k,rfl⟩:∃k,j=k+1:=⟨j-1,by omega⟩
 rw [Nat.add_sub_cancel] at h⊢
 show _=zeC f e P (k+1)
 unfold zeC
 rw [zb3 (by omega)]
 simp only [if_pos h]
 cases k<;>rfl
theorem zrM {f:D->D->Int} {e:D} {P:List D} {j:Nat} (h0:0<j) (hj:j<=P.length) (h:¬f e (zad P (j-1))<0):zeC f e P j=j:=by
 obtain ⟨k,rfl⟩:∃k,j=k+1:=⟨j-1,by omega⟩
 rw [Nat.add_sub_cancel] at h
 unfold zeC
 rw [zb3 (by omega)]
 simp only [if_neg h]
theorem zis {α:Type} {f:α->α->Int} (z y:α):∀S:List α,zc5 f (S++ [z]++ [y])=if f z y≠0 then zc5 f (S++ [z])++ [[y]] else (zc5 f (S++ [z])).dropLast++ [((zc5 f (S++ [z])).getLast?.getD [])++ [y]]
 | []=>by
  show zc5 f [z,y]=_
  unfold zc5
  split<;>simp [zc5]
 |x::S=>by
  have ih:=zis (f:=f) z y S
  obtain ⟨w,T,hT⟩:∃w T,S++ [z]=w::T:=by cases S with|nil=>exact ⟨z,[],rfl⟩|cons w T=>exact ⟨w,T++ [z],rfl⟩
  have e1:zc5 f (x::S++ [z])=if f x w≠0 then [x]::zc5 f (S++ [z]) else match zc5 f (S++ [z]) with|g::gs=>(x::g)::gs| []=> [[x]]:=by
   rw [List.cons_append,hT];rfl
  have e2:zc5 f (x::S++ [z]++ [y])=if f x w≠0 then [x]::zc5 f (S++ [z]++ [y]) else match zc5 f (S++ [z]++ [y]) with|g::gs=>(x::g)::gs| []=> [[x]]:=by
   rw [List.cons_append,List.cons_append,hT,List.cons_append];rfl
  obtain ⟨r,gs,hr⟩:=zmD (f:=f) w T
  rw [<-hT] at hr
  rw [e1,e2,ih,hr]
  by_cases c:f x w≠0
  .rw [if_pos c,if_pos c]
   by_cases d:f z y≠0
   .rw [if_pos d,if_pos d];rfl
   .rw [if_neg d,if_neg d];rfl
  .rw [if_neg c,if_neg c]
   by_cases d:f z y≠0
   .rw [if_pos d,if_pos d];rfl
   .rw [if_neg d,if_neg d]
    cases gs<;>rfl
theorem zmz {α:Type} (A:List α) (a b:α):(A++ [a]).set (A.length) b=A++ [b]:=by
 rw [List.set_append_right _ _ (Nat.le_refl _),Nat.sub_self];rfl
theorem zkF {f:D->D->Int} {Q:List D} {x:Nat} (hx:x<Q.length):0<(zeb f Q (grL f Q x) x).length/\(zeb f Q (grL f Q x) x).length=(grL f Q (x+1)).length/\
  (zad (zeb f Q (grL f Q x) x) ((zeb f Q (grL f Q x) x).length-1)= .nil->(zeb f Q (grL f Q x) x).set ((zeb f Q (grL f Q x) x).length-1) (.list [.int ((zad Q x).fld 1).asInt])=grL f Q (x+1))/\
  (∀r,zad (zeb f Q (grL f Q x) x) ((zeb f Q (grL f Q x) x).length-1)= .list r->(zeb f Q (grL f Q x) x).set ((zeb f Q (grL f Q x) x).length-1) (.list (r++ [.int ((zad Q x).fld 1).asInt]))=grL f Q (x+1))/\
  (∀n,zad (zeb f Q (grL f Q x) x) ((zeb f Q (grL f Q x) x).length-1)≠ .int n):=by
 have hq:Q.take (x+1)=Q.take x++ [zad Q x]:=by rw [List.take_add_one,zb3 hx];rfl
 by_cases hb:zzq f Q x
 .have e:zeb f Q (grL f Q x) x=grL f Q x++ [.nil]:=by unfold zeb;rw [if_pos hb]
  have e2:grL f Q (x+1)=grL f Q x++ [.list [.int ((zad Q x).fld 1).asInt]]:=by
   have:zc5 f (Q.take (x+1))=zc5 f (Q.take x)++ [[zad Q x]]:=by
    rw [hq]
    cases x with
    |zero=>rfl
    |succ k=>
     have hk:Q.take (k+1)=Q.take k++ [zad Q k]:=by rw [List.take_add_one,zb3 (by omega)];rfl
     have h1:f (zad Q k) (zad Q (k+1))≠0:=hb.out.resolve_left (by omega)
     rw [hk,zis,if_pos h1]
   show List.map _ _=List.map _ _++_
   rw [this,List.map_append];rfl
  rw [e,List.length_append,show (grL f Q x).length+ [D.nil].length-1=(grL f Q x).length from rfl]
  have en:zad (grL f Q x++ [.nil]) (grL f Q x).length= .nil:=zjL (by rw [List.getElem?_append_right (Nat.le_refl _),Nat.sub_self];rfl)
  rw [en,e2,List.length_append]
  exact ⟨Nat.succ_pos _,rfl,(λ_=>zmz _ _ _),λr h=>(by cases h),λn h=>(by cases h)⟩
 .have e:zeb f Q (grL f Q x) x=grL f Q x:=by unfold zeb;rw [if_neg hb]
  have hx0:x≠0:=λh=>hb ⟨.inl h⟩
  have h0:f (zad Q (x-1)) (zad Q x)=0:=Classical.byContradiction λh=>hb ⟨.inr h⟩
  obtain ⟨k,rfl⟩:∃k,x=k+1:=⟨x-1,by omega⟩
  rw [Nat.add_sub_cancel] at h0
  have hk:Q.take (k+1)=Q.take k++ [zad Q k]:=by rw [List.take_add_one,zb3 (by omega)];rfl
  have hs:zc5 f (Q.take (k+1+1))=(zc5 f (Q.take (k+1))).dropLast++ [((zc5 f (Q.take (k+1))).getLast?.getD [])++ [zad Q (k+1)]]:=by
   rw [hq,hk,zis,if_neg (by omega)]
  have hne:zc5 f (Q.take (k+1))≠ []:=λh=>by
   have:=zcA (f:=f) (Q.take (k+1))
   rw [h,hk] at this
   simp at this
  obtain ⟨A,g,hA⟩:∃A g,zc5 f (Q.take (k+1))=A++ [g]:=⟨_,_,(List.dropLast_concat_getLast hne).symm⟩
  have eg:grL f Q (k+1)=A.map zjO++ [zjO g]:=by unfold grL;rw [hA,List.map_append];rfl
  have eg2:grL f Q (k+1+1)=A.map zjO++ [zjO (g++ [zad Q (k+1)])]:=by
   show (zc5 f (Q.take (k+1+1))).map zjO=_
   rw [hs,hA,List.dropLast_concat,List.map_append]
   simp
  rw [e,eg,eg2,List.length_append,List.length_append,show (A.map zjO).length+ [zjO g].length-1=(A.map zjO).length from rfl]
  have en:zad (A.map zjO++ [zjO g]) (A.map zjO).length=zjO g:=zjL (by rw [List.getElem?_append_right (Nat.le_refl _),Nat.sub_self];rfl)
  rw [en]
  refine ⟨Nat.succ_pos _,rfl,(λh=>by cases h),(λr h=> ?_),(λn h=>by cases h)⟩
  rw [zmz]
  unfold zjO at h⊢
  cases h
  rw [List.map_append];rfl
end
end Go.Ev

end

section
open Go.Proofs
namespace Go.Ev
noncomputable section
set_option maxRecDepth 100000
set_option maxHeartbeats 4000000
theorem zyS:∀(x y:Int),zag (zbo (λ_=>none) (λ_=>none) zaF) 4 (114:FuncId) [V.int IntKind.i64 x,V.int IntKind.i64 y] (V.int IntKind.i64 (zdh x y))=(((x=x->False)->((y=y->False)->0=
zdh x y)/\(((y=y->False)->False)->(-1)=zdh x y))/\(((x=x->False)->False)->((y=y->False)->1=zdh x y)/\(((y=y->False)->False)->(x<y->(-1)=zdh x y)/\((x<y->False)->(y<x->1=zdh x
y)/\((y<x->False)->0=zdh x y))))):=by intros;kernel_rfl
theorem zy1:∀(x y:Int),zag (zbo cm0 (λ_=>none) zaF) 4 (177:FuncId) [V.int IntKind.i64 x,V.int IntKind.i64 y] (V.int IntKind.i64 (zdh y x))=(True/\zdh y x=zdh y x):=by intros;kernel_rfl
theorem zy7:∀(x y:List UInt8),zag (zbo (λ_=>none) (λ_=>none) zaF) 4 (185:FuncId) [V.str x,V.str y] (V.int IntKind.i64 (zhb x y))=(((x=x->False)->((y=y->False)->0=zhb x y)/\(((y=
y->False)->False)->(-1)=zhb x y))/\(((x=x->False)->False)->((y=y->False)->1=zhb x y)/\(((y=y->False)->False)->(sLt x y->(-1)=zhb x y)/\((sLt x y->False)->((sLt x y\/x=y->False)->1=
zhb x y)/\(((sLt x y\/x=y->False)->False)->0=zhb x y))))):=by intros;kernel_rfl
theorem zA9:∀(l:D) (s:List UInt8),zag (zbo (λ_=>none) (λ_=>none) zaF) 3 (45:FuncId) [V.dat (29:TypeId) l,V.str s] (V.int IntKind.i64 (zm9 l s))=((∃(x:Nat),(x<=l.len/\zbD l s
(l.len-x) x=idx l s)/\(0=(x:Int)/\True)/\True)/\∀(x:Nat),x<=l.len/\zbD l s (l.len-x) x=idx l s->l.len-x<LIM/\((x:Int)<(l.len:Int)->0<=(x:Int)/\(x:Int)<(l.len:Int)/\(s=sAt
l x->(x:Int)=zm9 l s)/\((s=sAt l x->False)->fits64 ((x:Int)+1)/\∃(y:Nat),(y<=l.len/\zbD l s (l.len-y) y=idx l s)/\l.len-y<l.len-x/\((x:Int)+1=(y:Int)/\True)/\True))/\(((x:
Int)<(l.len:Int)->False)->(-1)=zm9 l s)):=by intros;kernel_rfl
theorem zza:∀(g:GD) (p:Int) (nm:D),zag (zbo cm0 (λ_=>none) zaF) 3 (215:FuncId) [pV g p,V.dpt (29:TypeId) nm] (V.int IntKind.i64 (↑(idx nm g.rk):Int))=(nm.len<=100/\(0<=zm9 nm g.rk->
zm9 nm g.rk=(↑(idx nm g.rk):Int))/\((0<=zm9 nm g.rk->False)->(nm.len:Int)=(↑(idx nm g.rk):Int))):=by intros;kernel_rfl
theorem zy2:∀(g:GD) (p:Int) (x:D),zag (zbo cm0 (λ_=>none) zaF) 3 (179:FuncId) [pV g p,V.dpt (69:TypeId) x] (V.prop (g.sd=cN x))=(g.sd=cN x↔g.sd=cN x):=by intros;kernel_rfl
theorem zy3:∀(g:GD) (p:Int),zag (zbo cm0 (λ_=>none) zaF) 3 (180:FuncId) [pV g p] (V.prop g.ho)=(g.ho↔g.ho):=by intros;kernel_rfl
theorem zzc:∀(g:GD) (p:Int),zag (zbo cm0 (λ_=>none) zaF) 3 (217:FuncId) [pV g p] (V.prop (g.si=0))=(g.si=0↔g.si=0):=by intros;kernel_rfl
theorem zy4:∀(g:GD) (p:Int) (x:D),zag (zbo cm0 (λ_=>none) (zvx (cNm x))) 6 (181:FuncId) [pV g p,V.dpt (69:TypeId) x] (V.prop (zrm g.tg (cNm x)))=((∃(x_1:Nat),(x_1<=g.tg.len/\∀(i:
Nat),i<x_1->zbG (cNm x) (sAt g.tg i)->False)/\(0=(x_1:Int)/\True)/\True)/\∀(x_1:Nat),(x_1<=g.tg.len/\∀(i:Nat),i<x_1->zbG (cNm x) (sAt g.tg i)->False)->g.tg.len-x_1<LIM/\((x_1:Int)<
(g.tg.len:Int)->0<=(x_1:Int)/\(x_1:Int)<(g.tg.len:Int)/\(cNm x).len<=100/\(zbG (cNm x) (sAt g.tg x_1)->(0<=(x_1:Int)↔zrm g.tg (cNm x)))/\((zbG (cNm x) (sAt g.tg x_1)->False)->fits64 ((x_1:
Int)+1)/\∃(y:Nat),(y<=g.tg.len/\∀(i:Nat),i<y->zbG (cNm x) (sAt g.tg i)->False)/\g.tg.len-y<g.tg.len-x_1/\((x_1:Int)+1=(y:Int)/\True)/\True))/\(((x_1:Int)<(g.tg.len:Int)->False)
->(false=true↔zrm g.tg (cNm x)))):=by intros;kernel_rfl
theorem zy5:∀(g:GD) (p:Int) (x:D),zag (zbo cm0 (λ_=>none) zaF) 3 (183:FuncId) [pV g p,V.dpt (69:TypeId) x] (V.prop (zbG (cNm x) g.ct))=((cNm x).len<=100/\(zbG (cNm x) g.ct↔zbG (cNm x)
g.ct)):=by intros;kernel_rfl
theorem zy8:∀(p:Int),zag (zbo cm0 (λ_=>none) zaF) 3 (187:FuncId) [V.int IntKind.i64 p] (V.int IntKind.i64 p)=(p=p):=by intros;kernel_rfl
theorem zy9:∀(p:Int) (x:D),zag (zbo cm0 (λ_=>none) zaF) 3 (188:FuncId) [V.int IntKind.i64 p,V.dpt (69:TypeId) x] (V.int IntKind.i64 (zpB p (cN x)))=(fits64 (2*cN x)/\fits64 (2*cN x+1)
/\fits64 (p*(2*cN x+1))/\fits64 (p*(2*cN x+1)+cN x)/\((64:Int)=0->False)/\(p*(2*cN x+1)+cN x).tmod 64=zpB p (cN x)):=by intros;kernel_rfl
theorem zzf:∀(p:Int),zag (zbo cm0 (λ_=>none) zaF) 3 (222:FuncId) [V.int IntKind.i64 p] (V.prop (inB p))=((0<=p->(p<64↔inB p))/\((0<=p->False)->(false=true↔inB p))):=by intros;kernel_rfl
theorem zzb:∀(a b:GD) (i j:Int) (r:D),zag (zbo cm0 cF1 zaF) 3 (216:FuncId) [pV a i,pV b j,V.dpt (227:TypeId) r] (V.int IntKind.i64 (zdh (zk1 r a) (zk1 r b)))=(okR r/\okR r/\True/\zdh
(zk1 r a) (zk1 r b)=zdh (zk1 r a) (zk1 r b)):=by intros;kernel_rfl
theorem zze:∀(a b:GD) (i j:Int) (n la:D),zag (zbo cm0 cF1 zaF) 3 (220:FuncId) [pV a i,pV b j,V.dpt (184:TypeId) n,V.dpt (4:TypeId) la] (V.int IntKind.i64 (zkQ (zdd n a) (zdd n b) la.asProp))
=((okN n/\a.tg.len<=100)/\(okN n/\b.tg.len<=100)/\((zdd n a↔zdd n b)->0=zkQ (zdd n a) (zdd n b) la.asProp)/\(((zdd n a↔zdd n b)->False)->(((zdd n a↔la.asProp)->False)->(-1)=zkQ (zdd n a)
(zdd n b) la.asProp)/\((((zdd n a↔la.asProp)->False)->False)->1=zkQ (zdd n a) (zdd n b) la.asProp))):=by intros;kernel_rfl
theorem zy6:∀(a b:GD) (i j:Int),zag (zbo cm0 cF1 zaF) 3 (184:FuncId) [pV a i,pV b j] (V.int IntKind.i64 (zhb a.nm b.nm))=(True/\zhb a.nm b.nm=zhb a.nm b.nm):=by intros;kernel_rfl
theorem zzg:∀(a b:GD) (i j r:Int) (e k:D),zag (zbo cm0 cF1 zaF) 3 (223:FuncId) [pV a i,pV b j,V.dpt (181:TypeId) e,V.dpt (80:TypeId) k] (V.int IntKind.i64 r)=(e=D.fn (222:FuncId) [] []/\
(((inB i->False)->False)->e=D.fn (222:FuncId) [] []/\((inB j->False)->0=r)/\(((inB j->False)->False)->(okK k/\inB i)/\(okK k/\inB j)/\True/\zdh (zqk k i) (zqk k j)=r))/\((inB i->False)->0=
r)):=by intros;kernel_rfl
theorem zzd:∀(a b:GD) (i j:Int) (u c:D),zag (zbo cm0 cF2 zaF) 4 (218:FuncId) [pV a i,pV b j,V.dpt (173:TypeId) u,V.dpt (142:TypeId) c] (V.int IntKind.i64 (orZ (zbs u a b i j) (ziZ c a.si
b.si)))=((ztq u/\a.tg.len<=100/\b.tg.len<=100)/\okC c/\(0:Int)<=0/\0<(↑(2:Nat):Int)/\0+0< [D.int (zbs u a b i j),D.int (ziZ c a.si b.si)].length/\(((zad [D.int (zbs u a b i j),D.int (ziZ
c a.si b.si)] (0+0)).asInt=0->False)->(zad [D.int (zbs u a b i j),D.int (ziZ c a.si b.si)] (0+0)).asInt=orZ (zbs u a b i j) (ziZ c a.si b.si))/\((((zad [D.int (zbs u a b i j),D.int (ziZ c a.si
b.si)] (0+0)).asInt=0->False)->False)->0<=Int.ofNat 1/\Int.ofNat 1<(↑(2:Nat):Int)/\0+(Int.ofNat 1).toNat< [D.int (zbs u a b i j),D.int (ziZ c a.si b.si)].length/\(((zad [D.int (zbs u a b i j),
D.int (ziZ c a.si b.si)] (0+(Int.ofNat 1).toNat)).asInt=0->False)->(zad [D.int (zbs u a b i j),D.int (ziZ c a.si b.si)] (0+(Int.ofNat 1).toNat)).asInt=orZ (zbs u a b i j) (ziZ c a.si b.si))/\((((zad
[D.int (zbs u a b i j),D.int (ziZ c a.si b.si)] (0+(Int.ofNat 1).toNat)).asInt=0->False)->False)->0=orZ (zbs u a b i j) (ziZ c a.si b.si)))):=by intros;kernel_rfl
theorem zy0:∀(a b:GD) (i j:Int) (s t:D),zag (zbo cm0 cF3 zaF) 3 (174:FuncId) [pV a i,pV b j,V.dpt (9:TypeId) s,V.dpt (173:TypeId) t] (V.int IntKind.i64 (zlH s.asStr t a b i j))=(((s.asStr=
[]->False)->(((a.rk=s.asStr->False)->False)->((b.rk=s.asStr->False)->0=zlH s.asStr t a b i j)/\(((b.rk=s.asStr->False)->False)->(zu4 t/\a.tg.len<=100/\b.tg.len<=100)/\zcR t a b i j=zlH
s.asStr t a b i j))/\((a.rk=s.asStr->False)->0=zlH s.asStr t a b i j))/\(((s.asStr= []->False)->False)->(zu4 t/\a.tg.len<=100/\b.tg.len<=100)/\zcR t a b i j=zlH s.asStr t a b i j)):=by intros;kernel_rfl
theorem zyV:∀(k:Int) (a:List UInt8) (la:Prop) (nm:D) (n:Int),zag (zbo cm0 (λ_=>none) zaF) 5 (143:FuncId) [V.agg [V.int IntKind.u8 k,V.str a,V.prop la,V.dat (29:TypeId) nm,V.int
IntKind.i64 n]] (V.fnd (173:TypeId) (zbN k a la nm n))=((k=1->D.fn 216 [227] [D.fn 215 [29] [nm]]=zbN k a la nm n)/\((k=1->False)->(k=2->D.fn 218 [173,142] [D.fn 220 [184,4] [D.fn 217 [] [],D.bool
(true=true)],D.fn 114 [] []]=zbN k a la nm n)/\((k=2->False)->(k=3->D.fn 218 [173,142] [D.fn 220 [184,4] [D.fn 217 [] [],D.bool (true=true)],D.fn 177 [] []]=zbN k a la nm n)/\((k=3->False)->
(k=4->D.fn 220 [184,4] [D.fn 179 [69] [D.sct [D.int k,D.str a,D.bool la,nm,D.int n]],D.bool la]=zbN k a la nm n)/\((k=4->False)->(k=5->D.fn 220 [184,4] [D.fn 180 [] [],D.bool la]=zbN k a la nm
n)/\((k=5->False)->(k=6->D.fn 220 [184,4] [D.fn 181 [69] [D.sct [D.int k,D.str a,D.bool la,nm,D.int n]],D.bool la]=zbN k a la nm n)/\((k=6->False)->(k=7->D.fn 220 [184,4] [D.fn 183 [69] [D.sct
[D.int k,D.str a,D.bool la,nm,D.int n]],D.bool la]=zbN k a la nm n)/\((k=7->False)->(k=8->D.fn 184 [] []=zbN k a la nm n)/\((k=8->False)->(k=9->D.fn 223 [181,80] [D.fn 222 [] [],D.fn 187 []
[]]=zbN k a la nm n)/\((k=9->False)->D.fn 223 [181,80] [D.fn 222 [] [],D.fn 188 [69] [D.sct [D.int k,D.str a,D.bool la,nm,D.int n]]]=zbN k a la nm n)))))))))):=by intros;kernel_rfl
theorem zyU:∀(s:List UInt8) (t:D),zag (zbo cm0 (λ_=>none) zaF) 3 (142:FuncId) [V.str s,V.fnd (173:TypeId) t] (V.fnd (173:TypeId) (zhj s t))=(D.fn 174 [9,173] [D.str s,t]=zhj s t):=by intros;kernel_rfl
theorem zjU:∀(x y:List UInt8),Op.bytesLess x y=false->x≠y->Op.bytesLess y x=true
 | [],[],_,h=>absurd rfl h
 | [],b::y,h,_=>by simp [Op.bytesLess] at h
 |a::x,[],_,_=>rfl
 |a::x,b::y,h,hn=>by
  unfold Op.bytesLess at h⊢
  by_cases e:a=b
  .subst e
   have hn':x≠y:=λe=>hn (by rw [e])
   simp only [Bool.or_eq_false_iff,Bool.and_eq_false_iff,beq_self_eq_true,Bool.true_eq_false,false_or] at h
   simp [zjU x y h.2 hn']
  .simp only [Bool.or_eq_false_iff,decide_eq_false_iff_not] at h
   have h1:¬a.toNat<b.toNat:=λk=>h.1 (UInt8.lt_iff_toNat_lt.2 k)
   have h2:a.toNat≠b.toNat:=λk=>e (UInt8.toNat_inj.1 k)
   have h3:b<a:=UInt8.lt_iff_toNat_lt.2 (by omega)
   simp [h3]
theorem zhR {x y:Int} {p q:Prop} [Decidable p] [Decidable q] (h1:p↔x<y) (h2:q↔y<x):zdh x y=if p then-1 else if q then 1 else 0:=by
 unfold zdh
 by_cases a:x<y
 .rw [if_pos a,if_pos (h1.2 a)]
 .rw [if_neg a,if_neg (λk=>a (h1.1 k))]
  by_cases b:y<x
  .rw [if_pos b,if_pos (h2.2 b)]
  .rw [if_neg b,if_neg (λk=>b (h2.1 k))]
theorem zt8 {x y:List UInt8} {p q:Prop} [Decidable p] [Decidable q] (h1:p↔sLt x y) (h2:q↔sLt y x):zhb x y=if p then-1 else if q then 1 else 0:=by
 unfold zhb
 by_cases a:sLt x y
 .rw [if_pos a,if_pos (h1.2 a)]
 .rw [if_neg a,if_neg (λk=>a (h1.1 k))]
  by_cases b:sLt y x
  .rw [if_pos b,if_pos (h2.2 b)]
  .rw [if_neg b,if_neg (λk=>b (h2.1 k))]
theorem zhy {l:D} {s:List UInt8} {x:Nat} (h:x<l.len) (hs:zbD l s (l.len-x) x=idx l s):(sAt l x=s->idx l s=x)/\(sAt l x≠s->zbD l s (l.len-(x+1)) (x+1)=idx l s):=by
 have e:l.len-x=(l.len-(x+1))+1:=by omega
 rw [e] at hs
 unfold zbD at hs
 constructor
 .intro k;rw [if_pos k] at hs;exact hs.symm
 .intro k;rw [if_neg k] at hs;exact hs
theorem zqn {l:D} {s:List UInt8} {x:Nat} (h:x=l.len) (hs:zbD l s (l.len-x) x=idx l s):idx l s=l.len:=by
 subst h
 rw [Nat.sub_self] at hs
 exact hs.symm
theorem zmv (l:D) (s:List UInt8):∀(f i:Nat),zbD l s f i<=i+f
 |0,i=>Nat.le_refl _
 |f+1,i=>by
  unfold zbD
  split
  .omega
  .have:=zmv l s f (i+1);omega
theorem zwq (l:D) (s:List UInt8):idx l s<=l.len:=by have:=zmv l s l.len 0;unfold idx;omega
theorem zcc {x n:Nat} (hx:x<=n) (h:(x:Int)<n->False):x=n:=by have h:¬((x:Int)<n):=h;omega
theorem zia {a b:Nat} (h:a<=100):a-b<LIM:=by unfold LIM;omega
theorem zz5 (x y:Int):zag (zbo (λ_=>none) (λ_=>none) zaF) 4 114 [.int .i64 x,.int .i64 y] (.int .i64 (zdh x y)):=by
 rw [zyS]
 exact ⟨λh=>absurd rfl h,λ_=>⟨λh=>absurd rfl h,λ_=>⟨λh=>by unfold zdh;rw [if_pos h],λh1=>⟨λh2=>by unfold zdh;rw [if_neg h1,if_pos h2],λh2=>by unfold zdh;rw [if_neg h1,if_neg h2]⟩⟩⟩⟩
theorem zAe (x y:Int):zag (zbo cm0 (λ_=>none) zaF) 4 177 [.int .i64 x,.int .i64 y] (.int .i64 (zdh y x)):=by
 rw [zy1];exact ⟨trivial,rfl⟩
theorem zAk (x y:List UInt8):zag (zbo (λ_=>none) (λ_=>none) zaF) 4 185 [.str x,.str y] (.int .i64 (zhb x y)):=by
 rw [zy7]
 refine ⟨λh=>absurd rfl h,λ_=>⟨λh=>absurd rfl h,λ_=>⟨λh=>by unfold zhb;rw [if_pos h],λh1=>⟨λh2=> ?_,λh2=> ?_⟩⟩⟩⟩
 .have h3:sLt y x:=⟨zjU x y (by cases hb:Op.bytesLess x y with|false=>rfl|true=>exact (h1 ⟨hb⟩).elim) (λe=>h2 (.inr e))⟩
  unfold zhb;rw [if_neg h1,if_pos h3]
 .rcases Classical.byContradiction h2 with h|h
  .exact (h1 h).elim
  .subst h;unfold zhb;rw [if_neg h1,if_neg h1]
theorem s45 (l:D) (s:List UInt8) (hl:l.len<=100):zag (zbo (λ_=>none) (λ_=>none) zaF) 3 45 [.dat 29 l,.str s] (.int .i64 (zm9 l s)):=by
 rw [zA9]
 refine ⟨⟨0,⟨Nat.zero_le _,rfl⟩,⟨rfl,trivial⟩,trivial⟩,λx hx=>⟨zia hl,λh=>⟨by omega,h,λe=> ?_,λe=>⟨by omega,x+1,⟨by omega,(zhy (by omega) hx.2).2 λk=>e k.symm⟩,by omega,⟨by omega,trivial⟩,trivial⟩⟩,λh=> ?_⟩⟩
 .have:=(zhy (by omega) hx.2).1 e.symm
  unfold zm9;rw [this,if_pos (by omega)]
 .have:=zqn (zcc hx.1 h) hx.2
  unfold zm9;rw [this,if_neg (by omega)]
theorem zAn (g:GD) (p:Int) (nm:D) (hl:nm.len<=100):zag (zbo cm0 (λ_=>none) zaF) 3 215 [pV g p,.dpt 29 nm] (.int .i64 (idx nm g.rk)):=by
 rw [zza]
 have:=zwq nm g.rk
 refine ⟨hl,λh=> ?_,λh=> ?_⟩
 .unfold zm9 at h⊢;split at h
  .rename_i k;rw [if_pos k]
  .omega
 .have h:¬0<=zm9 nm g.rk:=h
  unfold zm9 at h;split at h<;>omega
theorem zAf (g:GD) (p:Int) (x:D):zag (zbo cm0 (λ_=>none) zaF) 3 179 [pV g p,.dpt 69 x] (.prop (g.sd=cN x)):=by rw [zy2]
theorem zAg (g:GD) (p:Int):zag (zbo cm0 (λ_=>none) zaF) 3 180 [pV g p] (.prop g.ho):=by rw [zy3]
theorem zAp (g:GD) (p:Int):zag (zbo cm0 (λ_=>none) zaF) 3 217 [pV g p] (.prop (g.si=0)):=by rw [zzc]
theorem zAh (g:GD) (p:Int) (x:D) (h1:g.tg.len<=100) (h2:(cNm x).len<=100):zag (zbo cm0 (λ_=>none) (zvx (cNm x))) 6 181 [pV g p,.dpt 69 x] (.prop (zrm g.tg (cNm x))):=by
 rw [zy4]
 exact ⟨⟨0,⟨Nat.zero_le _,λi hi=>absurd hi (Nat.not_lt_zero _)⟩,⟨rfl,trivial⟩,trivial⟩,λy hy=>⟨zia h1,λh=>⟨by omega,h,h2,λk=>⟨λ_=>⟨y,by omega,k⟩,λ_=>by omega⟩,
  λk=>⟨by omega,y+1,⟨by omega,λi hi=>by
   rcases Nat.lt_or_ge i y with q|q
   .exact hy.2 i q
   .have:i=y:=by omega
    subst this;exact k⟩,by omega,⟨by omega,trivial⟩,trivial⟩⟩,
  λh=>⟨λe=>(by cases e),λe=>(by obtain ⟨i,a,b⟩:=e.out;have:=zcc hy.1 h;exact (hy.2 i (by omega) b).elim)⟩⟩⟩
theorem zAi (g:GD) (p:Int) (x:D) (h2:(cNm x).len<=100):zag (zbo cm0 (λ_=>none) zaF) 3 183 [pV g p,.dpt 69 x] (.prop (zbG (cNm x) g.ct)):=by
 rw [zy5];exact ⟨h2,Iff.rfl⟩
theorem zAl (p:Int):zag (zbo cm0 (λ_=>none) zaF) 3 187 [.int .i64 p] (.int .i64 p):=by rw [zy8]
theorem zuL {p n:Int} (h:inB p) (h1:0<=n) (h2:n<=63):0<=p*(2*n+1)/\p*(2*n+1)<=63*127:=by
 obtain ⟨a,b⟩:=h.out
 exact ⟨Int.mul_nonneg a (by omega),Int.mul_le_mul (by omega) (by omega) (by omega) (by omega)⟩
theorem zAm (p:Int) (x:D) (h:inB p) (h1:0<=cN x) (h2:cN x<=63):zag (zbo cm0 (λ_=>none) zaF) 3 188 [.int .i64 p,.dpt 69 x] (.int .i64 (zpB p (cN x))):=by
 rw [zy9]
 obtain ⟨a,b⟩:=zuL h h1 h2
 refine ⟨by omega,by omega,by omega,by omega,λe=>absurd e (by decide),rfl⟩
theorem zAs (p:Int):zag (zbo cm0 (λ_=>none) zaF) 3 222 [.int .i64 p] (.prop (inB p)):=by
 rw [zzf]
 exact ⟨λh=>⟨λk=>⟨h,k⟩,λk=>k.out.2⟩,λh=>⟨λe=>(by cases e),λk=>(h k.out.1).elim⟩⟩
theorem zAo (a b:GD) (i j:Int) (r:D) (h:okR r):zag (zbo cm0 cF1 zaF) 3 216 [pV a i,pV b j,.dpt 227 r] (.int .i64 (zdh (zk1 r a) (zk1 r b))):=by
 rw [zzb];exact ⟨h,h,trivial,rfl⟩
theorem zAr (a b:GD) (i j:Int) (n la:D) (h:okN n) (ha:a.tg.len<=100) (hb:b.tg.len<=100):zag (zbo cm0 cF1 zaF) 3 220 [pV a i,pV b j,.dpt 184 n,.dpt 4 la] (.int .i64 (zkQ (zdd n a) (zdd n b) la.asProp)):=by
 rw [zze]
 exact ⟨⟨h,ha⟩,⟨h,hb⟩,λk=>by unfold zkQ;rw [if_pos k],λk=>⟨λk2=>by unfold zkQ;rw [if_neg k,if_pos k2],λk2=>by unfold zkQ;rw [if_neg k,if_neg (λq=>k2 q)]⟩⟩
theorem zAj (a b:GD) (i j:Int):zag (zbo cm0 cF1 zaF) 3 184 [pV a i,pV b j] (.int .i64 (zhb a.nm b.nm)):=by rw [zy6];exact ⟨trivial,rfl⟩
open Classical in
theorem zAt (a b:GD) (i j:Int) (e k:D) (he:e= .fn 222 [] []) (hk:okK k):zag (zbo cm0 cF1 zaF) 3 223 [pV a i,pV b j,.dpt 181 e,.dpt 80 k] (.int .i64 (if inB i/\inB j then zdh (zqk k i) (zqk k j) else 0)):=by
 rw [zzg]
 exact ⟨he,λh=>⟨he,λh2=>by rw [if_neg (λq=>h2 q.2)],λh2=>⟨⟨hk,byContradiction h⟩,⟨hk,byContradiction h2⟩,trivial,by rw [if_pos ⟨byContradiction h,byContradiction h2⟩]⟩⟩,λh=>by rw [if_neg (λq=>h q.1)]⟩
theorem zAq (a b:GD) (i j:Int) (u c:D) (hu:ztq u) (hc:okC c) (ha:a.tg.len<=100) (hb:b.tg.len<=100):zag (zbo cm0 cF2 zaF) 4 218 [pV a i,pV b j,.dpt 173 u,.dpt 142 c] (.int .i64 (orZ (zbs u a b i j) (ziZ c a.si b.si))):=by
 rw [zzd]
 refine ⟨⟨hu,ha,hb⟩,hc,by decide,by decide,by simp,λh=> ?_,λh=>⟨by decide,by decide,by simp,λh2=> ?_,λh2=> ?_⟩⟩
 .have h:¬zbs u a b i j=0:=h
  unfold orZ;rw [if_pos h];rfl
 .have h:zbs u a b i j=0:=Classical.byContradiction h
  unfold orZ;rw [if_neg (λk=>k h)];rfl
 .have h:zbs u a b i j=0:=Classical.byContradiction h
  have h2:ziZ c a.si b.si=0:=Classical.byContradiction h2
  unfold orZ;rw [if_neg (λk=>k h),h2]
theorem zAd (a b:GD) (i j:Int) (s t:D) (ht:zu4 t) (ha:a.tg.len<=100) (hb:b.tg.len<=100):zag (zbo cm0 cF3 zaF) 3 174 [pV a i,pV b j,.dpt 9 s,.dpt 173 t] (.int .i64 (zlH s.asStr t a b i j)):=by
 rw [zy0]
 exact ⟨λh1=>⟨λh2=>⟨λh3=>by unfold zlH;rw [if_pos ⟨h1,.inr h3⟩],λh3=>⟨⟨ht,ha,hb⟩,by unfold zlH;rw [if_neg (λq=>q.2.elim h2 h3)]⟩⟩,λh2=>by unfold zlH;rw [if_pos ⟨h1,.inl h2⟩]⟩,
  λh1=>⟨⟨ht,ha,hb⟩,by unfold zlH;rw [if_neg (λq=>h1 q.1)]⟩⟩
theorem zz8 (k:Int) (a:List UInt8) (la:Prop) (nm:D) (n:Int):zag (zbo cm0 (λ_=>none) zaF) 5 143 [.agg [.int .u8 k,.str a,.prop la,.dat 29 nm,.int .i64 n]] (.fnd 173 (zbN k a la nm n)):=by
 rw [zyV]
 refine ⟨λh=>by unfold zbN;rw [if_pos h],λh1=>⟨λh=> ?_,λh2=>⟨λh=> ?_,λh3=>⟨λh=> ?_,λh4=>⟨λh=> ?_,λh5=>⟨λh=> ?_,λh6=>⟨λh=> ?_,λh7=>⟨λh=> ?_,λh8=>⟨λh=> ?_,λh9=> ?_⟩⟩⟩⟩⟩⟩⟩⟩⟩
 .unfold zbN;rw [if_neg h1,if_pos h];rfl
 .unfold zbN;rw [if_neg h1,if_neg h2,if_pos h];rfl
 .unfold zbN;rw [if_neg h1,if_neg h2,if_neg h3,if_pos h];rfl
 .unfold zbN;rw [if_neg h1,if_neg h2,if_neg h3,if_neg h4,if_pos h];rfl
 .unfold zbN;rw [if_neg h1,if_neg h2,if_neg h3,if_neg h4,if_neg h5,if_pos h];rfl
 .unfold zbN;rw [if_neg h1,if_neg h2,if_neg h3,if_neg h4,if_neg h5,if_neg h6,if_pos h];rfl
 .unfold zbN;rw [if_neg h1,if_neg h2,if_neg h3,if_neg h4,if_neg h5,if_neg h6,if_neg h7,if_pos h]
 .unfold zbN;rw [if_neg h1,if_neg h2,if_neg h3,if_neg h4,if_neg h5,if_neg h6,if_neg h7,if_neg h8,if_pos h];rfl
 .unfold zbN;rw [if_neg h1,if_neg h2,if_neg h3,if_neg h4,if_neg h5,if_neg h6,if_neg h7,if_neg h8,if_neg h9];rfl
theorem zz7 (s:List UInt8) (t:D):zag (zbo cm0 (λ_=>none) zaF) 3 142 [.str s,.fnd 173 t] (.fnd 173 (zhj s t)):=by rw [zyU];rfl
end
end Go.Ev

end

section
open Go.Proofs
namespace Go.Ev
noncomputable section
set_option maxRecDepth 100000
set_option maxHeartbeats 4000000
theorem zbZ (l:D) (n:Nat) (h:n<=l.len):(l.sub 0 n).len=n:=by
 cases l<;>simp [D.sub,D.len,D.asList] at h⊢ <;>omega
theorem zgU (l:D) (n i:Nat) (h:i<n):el (l.sub 0 n) i=el l i:=by
 cases l<;>simp [D.sub,el,D.asList,zad,List.getElem?_take,h]
theorem zqA (l:D) (n i:Nat) (h:i<n):sAt (l.sub 0 n) i=sAt l i:=congrArg D.asStr (zgU l n i h)
theorem zvq (l:D) (x:Nat) (h:x<=l.len) (s:List UInt8):zbG (l.sub 0 x) s↔ ∃k,k<x/\sAt l k=s:=by
 constructor
 .rintro ⟨k,h1,h2⟩
  rw [zbZ l x h] at h1
  rw [zqA l x k h1] at h2
  exact ⟨k,h1,h2⟩
 .rintro ⟨k,h1,h2⟩
  exact ⟨k,by rw [zbZ l x h];exact h1,by rw [zqA l x k h1];exact h2⟩
theorem zyQ:∀(l:D) (s:List UInt8),zag (ctx (λ_=>none) zdc) 3 (103:FuncId) [V.dat (29:TypeId) l,V.str s] (V.prop (zbG l s))=((∃(x:Nat),(x<=l.len/\∀(i:Nat),i<x->sAt l i=s->False)
/\(0=(x:Int)/\True)/\True)/\∀(x:Nat),(x<=l.len/\∀(i:Nat),i<x->sAt l i=s->False)->l.len-x<LIM/\((x:Int)<(l.len:Int)->0<=(x:Int)/\(x:Int)<(l.len:Int)/\(s=sAt l x->(0<=(x:
Int)↔zbG l s))/\((s=sAt l x->False)->fits64 ((x:Int)+1)/\∃(y:Nat),(y<=l.len/\∀(i:Nat),i<y->sAt l i=s->False)/\l.len-y<l.len-x/\((x:Int)+1=(y:Int)/\True)/\True))/\(((x:
Int)<(l.len:Int)->False)->(false=true↔zbG l s))):=by intros;kernel_rfl
theorem zyY:∀(l:D),zag (ctx cc1 zdc) 3 (169:FuncId) [V.dat (29:TypeId) l] (V.prop (zbi l))=((∃(x:Nat),(x<=l.len/\∀(i k:Nat),k<i->i<x->sAt l k=sAt l i->False)/\(0=(x:Int)/\
True)/\True)/\∀(x:Nat),(x<=l.len/\∀(i k:Nat),k<i->i<x->sAt l k=sAt l i->False)->l.len-x<LIM/\((x:Int)<(l.len:Int)->0<=(x:Int)/\(x:Int)<(l.len:Int)/\(0:Int)<=0/\0<=(x:
Int)/\(x:Int)<=(l.len:Int)/\(l.sub 0 x).len<=100/\(zbG (l.sub 0 x) (sAt l x)->(true=true↔zbi l))/\((zbG (l.sub 0 x) (sAt l x)->False)->fits64 ((x:Int)+1)/\∃(y:Nat),(y<=l.len/\∀(i k:
Nat),k<i->i<y->sAt l k=sAt l i->False)/\l.len-y<l.len-x/\((x:Int)+1=(y:Int)/\True)/\True))/\(((x:Int)<(l.len:Int)->False)->(false=true↔zbi l))):=by intros;kernel_rfl
theorem zyZ:∀(c:D) (s:List UInt8),zag (ctx cc1 (zpH s)) 6 (170:FuncId) [V.dat (22:TypeId) c,V.str s] (V.prop (zaP c c.len s))=((∃(x:Nat),(x<=c.len/\∀(k:Nat),k<x->cK (el c k)=1/\
zbG (cNm (el c k)) s->False)/\(0=(x:Int)/\True)/\True)/\∀(x:Nat),(x<=c.len/\∀(k:Nat),k<x->cK (el c k)=1/\zbG (cNm (el c k)) s->False)->c.len-x<LIM/\((x:Int)<(c.len:Int)->0<=(x:
Int)/\(x:Int)<(c.len:Int)/\(cK (el c x)=1->(cNm (el c x)).len<=100/\(zbG (cNm (el c x)) s->(0<=(x:Int)↔zaP c c.len s))/\((zbG (cNm (el c x)) s->False)->fits64 ((x:Int)+1)/\∃(y:Nat),(y
<=c.len/\∀(k:Nat),k<y->cK (el c k)=1/\zbG (cNm (el c k)) s->False)/\c.len-y<c.len-x/\((x:Int)+1=(y:Int)/\True)/\True))/\((cK (el c x)=1->False)->fits64 ((x:Int)+1)/\∃(y:Nat),
(y<=c.len/\∀(k:Nat),k<y->cK (el c k)=1/\zbG (cNm (el c k)) s->False)/\c.len-y<c.len-x/\((x:Int)+1=(y:Int)/\True)/\True))/\(((x:Int)<(c.len:Int)->False)->(false=true↔zaP c
c.len s))):=by intros;kernel_rfl
theorem zyu {s:List UInt8} {x:Nat} (hx:x<s.length) (hn:¬(97<=zap s x/\zap s x<=122)):¬zaY s:=λh=>hn (h.out.2.2 x hx)
theorem zz3 (l:D) (s:List UInt8) (h:l.len<=100):zag (ctx (λ_=>none) zdc) 3 103 [.dat 29 l,.str s] (.prop (zbG l s)):=by
 rw [zyQ]
 simp only [imp_false,Classical.not_not,true_and,and_true]
 refine ⟨⟨0,⟨by omega,λi hi=>by omega⟩,rfl⟩,λx ⟨hx,hinv⟩=>⟨by unfold LIM;omega,λhlt=>⟨by omega,hlt,λhe=>⟨λ_=>⟨x,by omega,he.symm⟩,λ_=>by omega⟩,λhn=>⟨by omega,x+1,⟨by omega,λi hi=> ?_⟩,by omega,by omega⟩⟩,λhge=>⟨λh=>by simp at h,λh=> ?_⟩⟩⟩
 .by_cases e:i=x
  .subst e;exact λh=>hn h.symm
  .exact hinv i (by omega)
 .obtain ⟨i,h1,h2⟩:=h.out;exact absurd h2 (hinv i (by omega))
theorem zr1 (k:Int) (a:List UInt8) (la:Prop) (m:Nat) (n:Int):zbq k a la m n↔((k=1/\1<=m/\m<=16/\n=0/\¬la/\a= [])\/((k=2\/k=3\/k=8\/k=9)/\m=0/\n=0/\¬la)\/
  (k=4/\m=0/\1<=n/\n<=2)\/(k=5/\m=0/\n=0)\/((k=6\/k=7)/\1<=m/\m<=16/\n=0)\/(k=10/\m=0/\0<=n/\n<=63/\¬la)):=⟨λh=>h.out,λh=>⟨h⟩⟩
theorem zAb (l:D) (h:l.len<=100):zag (ctx cc1 zdc) 3 169 [.dat 29 l] (.prop (zbi l)):=by
 rw [zyY]
 simp only [imp_false,Classical.not_not,true_and,and_true]
 refine ⟨⟨0,⟨by omega,λi k hk hi=>by omega⟩,rfl⟩,λx ⟨hx,hinv⟩=>⟨by unfold LIM;omega,λhlt=> ?_,λhge=>⟨λh=>by simp at h,λh=> ?_⟩⟩⟩
 .have hs:=zvq l x (by omega) (sAt l x)
  refine ⟨by omega,hlt,by omega,by omega,by omega,by rw [zbZ l x (by omega)];omega,λhh=>⟨λ_=> ?_,λ_=>by first|rfl|trivial⟩,λhn=>⟨by omega,x+1,⟨by omega,λi k hk hi=> ?_⟩,by omega,by omega⟩⟩
  .obtain ⟨k,h1,h2⟩:=hs.1 hh;exact ⟨x,k,h1,by omega,h2⟩
  .by_cases e:i=x
   .subst e;exact λh=>hn (hs.2 ⟨k,hk,h⟩)
   .exact hinv i k hk (by omega)
 .obtain ⟨i,k,h1,h2,h3⟩:=h.out;exact absurd h3 (hinv i k h1 (by omega))
theorem zAc (c:D) (s:List UInt8) (h:zaE c):zag (ctx cc1 (zpH s)) 6 170 [.dat 22 c,.str s] (.prop (zaP c c.len s)):=by
 have hlen:=h.out.1
 rw [zyZ]
 simp only [imp_false,Classical.not_not,true_and,and_true]
 have go:∀x,x<c.len->(∀k,k<x->¬(cK (el c k)=1/\zbG (cNm (el c k)) s))->¬(cK (el c x)=1/\zbG (cNm (el c x)) s)->∃y,(y<=c.len/\∀k,k<y->¬(cK (el c k)=1/\zbG (cNm (el c k)) s))/\c.len-y<c.len-x/\(x:Int)+1=(y:Int):=λx hx hinv hn=>⟨x+1,⟨by omega,λk hk=>by
  by_cases e:k=x
  .subst e;exact hn
  .exact hinv k (by omega)⟩,by omega,by omega⟩
 refine ⟨⟨0,⟨by omega,λi hi=>by omega⟩,rfl⟩,λx ⟨hx,hinv⟩=>⟨by unfold LIM;omega,λhlt=>⟨by omega,hlt,λhk=>⟨h.out.2 x (by omega),λhh=>⟨λ_=>⟨x,by omega,hk,hh⟩,λ_=>by omega⟩,λhn=>⟨by omega,go x (by omega) hinv λh=>hn h.2⟩⟩,λhk=>⟨by omega,go x (by omega) hinv λh=>hk h.1⟩⟩,λhge=>⟨λh=>by simp at h,λh=> ?_⟩⟩⟩
 obtain ⟨k,h1,h2⟩:=h.out;exact absurd h2 (hinv k (by omega))
end
end Go.Ev

end
