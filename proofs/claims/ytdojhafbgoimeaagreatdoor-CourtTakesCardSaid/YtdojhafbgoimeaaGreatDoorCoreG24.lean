/- Part of the proof. -/
import Derived.Test.YtdojhafbgoimeaaGreatDoorCoreG23
import Derived.Test.YtdojhafbgoimeaaGreatDoorCoreG22

section
open Go.Proofs
namespace Go.Ev
set_option maxRecDepth 100000
set_option maxHeartbeats 4000000
def zsa (s u:List UInt8):Prop:=(∃(x_1:Nat),(x_1<=u.length/\∀(i:Nat),i<x_1->(97:Int)<=zap u i/\zap u i<=(122:Int))/\(u=List.drop x_1 u/\True)/\zd8 (26:Nat)=zd8 (26:Nat)/\True)/\∀(x_1:Nat),
(x_1<=u.length/\∀(i:Nat),i<x_1->(97:Int)<=zap u i/\zap u i<=(122:Int))->u.length-x_1<LIM/\((0:Int)<(↑(List.drop x_1 u).length:Int)->(0:Int)<=(0:Int)/\(0:Int)
<(↑(List.drop x_1 u).length:Int)/\(0:Int)<=zap (List.drop x_1 u) (0:Nat)/\zap (List.drop x_1 u) (0:Nat)<(256:Int)/\(zap (List.drop x_1 u) (0:Nat)).toNat*1<(zd8 (26:
Nat)).length/\(((zad (zd8 (26:Nat)) ((zap (List.drop x_1 u) (0:Nat)).toNat*1)).asProp->False)->(List.drop x_1 u= []↔zaY s))/\((((zad (zd8 (26:Nat)) ((zap (List.drop x_1 u)
(0:Nat)).toNat*1)).asProp->False)->False)->(0:Int)<=(1:Int)/\(1:Int)<=(↑(List.drop x_1 u).length:Int)/\(↑(List.drop x_1 u).length:Int)<=(↑(List.drop x_1 u).length:Int)/\∃(y:
Nat),(y<=u.length/\∀(i:Nat),i<y->(97:Int)<=zap u i/\zap u i<=(122:Int))/\u.length-y<u.length-x_1/\(List.take ((List.drop x_1 u).length-Int.toNat (1:Int)) (List.drop
(Int.toNat (1:Int)) (List.drop x_1 u))=List.drop y u/\True)/\zd8 (26:Nat)=zd8 (26:Nat)/\True))/\(((0:Int)<(↑(List.drop x_1 u).length:Int)->False)->(List.drop x_1 u= []↔zaY
s))
theorem zyP:∀(s:List UInt8),zag (ctx cc0 zdc) 6 (102:FuncId) [V.str s] (V.prop (zaY s))=(((s= []->False)->((s.length:Int)<=12->((s= []->False)->(∃(x:Nat),x.le 26/\(0=(x:Int)/\True)
/\List.replicate 256 (D.bool False)=zd8 x/\True)/\∀(x:Nat),x.le 26->26-x<LIM/\((x:Int)<26->0<=(x:Int)/\(x:Int)<26/\(128<=zap zkM x->False/\False/\(([]:List UInt8)= []↔zaY s))
/\((128<=zap zkM x->False)->0<=zap zkM x/\zap zkM x<256/\(zap zkM x).toNat*1<(zd8 x).length/\fits64 ((x:Int)+1)/\∃(y:Nat),y.le 26/\26-y<26-x/\((x:Int)+1=(y:Int)
/\True)/\(zd8 x).set ((zap zkM x).toNat*1) (D.bool (true=true))=zd8 y/\True))/\(((x:Int)<26->False)->(∃(x_1:Nat),(x_1<=s.length/\∀(i:Nat),x_1<=i->i<s.length->97<=zap s i/\zap
s i<=122)/\(s=List.take x_1 s/\True)/\zd8 x=zd8 26/\True)/\∀(x:Nat),(x<=s.length/\∀(i:Nat),x<=i->i<s.length->97<=zap s i/\zap s i<=122)->x<LIM/\(0<(↑(List.take x s).length:Int)
->fits64 ((↑(List.take x s).length:Int)-1)/\0<=(↑(List.take x s).length:Int)-1/\(↑(List.take x s).length:Int)-1<(↑(List.take x s).length:Int)/\0<=zap (List.take x s) ((↑(List.take x s).length:
Int)-1).toNat/\zap (List.take x s) ((↑(List.take x s).length:Int)-1).toNat<256/\(zap (List.take x s) ((↑(List.take x s).length:Int)-1).toNat).toNat*1<(zd8 26).length/\(((zad (zd8 26) ((zap
(List.take x s) ((↑(List.take x s).length:Int)-1).toNat).toNat*1)).asProp->False)->zsa s (List.take x s))/\((((zad (zd8 26) ((zap (List.take x s) ((↑(List.take x s).length:Int)-1).toNat).toNat*
1)).asProp->False)->False)->fits64 ((↑(List.take x s).length:Int)-1)/\(0:Int)<=0/\0<=(↑(List.take x s).length:Int)-1/\(↑(List.take x s).length:Int)-1<=(↑(List.take x s).length:Int)/\∃(y:Nat),
(y<=s.length/\∀(i:Nat),y<=i->i<s.length->97<=zap s i/\zap s i<=122)/\y<x/\(List.take ((↑(List.take x s).length:Int)-1).toNat (List.drop 0 (List.take x s))=List.take y s/\True)/\zd8 26=
zd8 26/\True))/\((0<(↑(List.take x s).length:Int)->False)->zsa s (List.take x s))))/\(s= []->(s= []↔zaY s)))/\(((s.length:Int)<=12->False)->(false=true↔zaY s)))/\(((s= []->False)->
False)->(false=true↔zaY s))):=by intros;kernel_rfl
theorem zyX:∀(k:Int) (a:List UInt8) (la:Prop) (nm:D) (n:Int),zag (ctx (λ_=>none) zdc) 3 (168:FuncId) [V.agg [V.int IntKind.u8 k,V.str a,V.prop la,V.dat (29:TypeId) nm,V.int IntKind.i64
n]] (V.prop (zbq k a la nm.len n))=(((k<1->False)->(10<k->(false=true↔zbq k a la nm.len n))/\((10<k->False)->0<=k/\k<(↑(11:Nat):Int)/\((((zad zb8 k.toNat).fld 4).asProp↔0<(nm.len:
Int))->((nm.len:Int)<=16->(((zad zb8 k.toNat).fld 1).asInt<=n->(n<=((zad zb8 k.toNat).fld 2).asInt->(((cNm (zad zb8 k.toNat)).asProp->False)->((la->False)->(((zad zb8 k.toNat).fld 5).asProp->
((a= []->False)->False↔zbq k a la nm.len n))/\((((zad zb8 k.toNat).fld 5).asProp->False)->((!false)=true↔zbq k a la nm.len n)))/\(((la->False)->False)->(false=true↔zbq k a la nm.len n)))/\
((cNm (zad zb8 k.toNat)).asProp->(((zad zb8 k.toNat).fld 5).asProp->((a= []->False)->False↔zbq k a la nm.len n))/\((((zad zb8 k.toNat).fld 5).asProp->False)->((!false)=true↔zbq k a la nm.len
n))))/\((n<=((zad zb8 k.toNat).fld 2).asInt->False)->(false=true↔zbq k a la nm.len n)))/\((((zad zb8 k.toNat).fld 1).asInt<=n->False)->(false=true↔zbq k a la nm.len n)))/\(((nm.len:Int)<=
16->False)->(false=true↔zbq k a la nm.len n)))/\(((((zad zb8 k.toNat).fld 4).asProp↔0<(nm.len:Int))->False)->(false=true↔zbq k a la nm.len n))))/\(k<1->(false=true↔zbq k a la nm.len
n))):=by intros;kernel_rfl
theorem zeW (x:Nat):(zd8 x).length=256:=by unfold zd8;simp
theorem zqr:List.replicate 256 (D.bool False)=zd8 0:=by
 unfold zd8
 have:(λk:Nat=>D.bool (97<=k/\k<97+0))=λ_=>D.bool False:=funext λk=>congrArg D.bool (propext ⟨λh=>by omega,λh=>h.elim⟩)
 rw [this,List.map_const',List.length_range]
theorem zmy (y:Nat) {i:Nat} (h:i<256):(zd8 y)[i]? =some (D.bool (97<=i/\i<97+y)):=by
 unfold zd8;rw [List.getElem?_map,List.getElem?_range h];rfl
theorem zsD (x:Nat) (hx:x<26):(zd8 x).set (97+x) (D.bool True)=zd8 (x+1):=by
 refine List.ext_getElem? λi=> ?_
 rw [List.getElem?_set]
 by_cases hi:i<256
 .rw [zmy x hi,zmy (x+1) hi]
  split
  .rw [if_pos (by rw [zeW];omega)]
   exact congrArg (λp=>some (D.bool p)) (propext ⟨λ_=>by omega,λ_=>trivial⟩)
  .exact congrArg (λp=>some (D.bool p)) (propext ⟨λ_=>by omega,λ_=>by omega⟩)
 .rw [if_neg (by omega),List.getElem?_eq_none (by rw [zeW];omega),List.getElem?_eq_none (by rw [zeW];omega)]
theorem zvk {n:Nat} (h:n<256):(zad (zd8 26) n).asProp=(97<=n/\n<97+26):=by
 unfold zad zd8
 rw [List.getElem?_map,List.getElem?_range h];rfl
theorem zuQ:∀x:Nat,x<26->zap zkM x=97+x:=by decide+kernel
theorem zkr (s:List UInt8) (i:Nat):0<=zap s i/\zap s i<256:=by
 unfold zap
 have:=((s[i]?).getD 0).toNat_lt
 omega
theorem zi9 (s:List UInt8) (x i:Nat) (h:i<x):zap (s.take x) i=zap s i:=by
 unfold zap;rw [List.getElem?_take_of_lt h]
theorem zn3 (s:List UInt8) (y:Nat):zap (s.drop y) 0=zap s y:=by
 unfold zap;rw [List.getElem?_drop];rfl
theorem zpM {s:List UInt8} {i:Nat}:(zad (zd8 26) ((zap s i).toNat*1)).asProp↔(97<=zap s i/\zap s i<=122):=by
 have:=zkr s i
 rw [zvk (by omega)]
 omega
theorem zrR {u:List UInt8} {y:Nat}:u.drop y= []↔u.length<=y:=List.drop_eq_nil_iff
theorem zpE {s u:List UInt8} (hl:u.length<=12) (h:(u= []/\zaY s)\/(0<u.length/\¬zaY s/\¬(97<=zap u (u.length-1)/\zap u (u.length-1)<=122))):zsa s u:=by
 have stop:∀y,y<=u.length->(∀i,i<y->97<=zap u i/\zap u i<=122)->(u.drop y= []↔zaY s):=λy hy hinv=>by
  rw [zrR]
  rcases h with ⟨h1,h2⟩| ⟨h1,h2,h3⟩
  .subst h1;exact ⟨λ_=>h2,λ_=>Nat.zero_le _⟩
  .exact ⟨λhh=>absurd (hinv _ (by omega)) h3,λhh=>absurd hh h2⟩
 unfold zsa
 simp only [imp_false,Classical.not_not,true_and,and_true,zpM,zeW]
 refine ⟨⟨0,⟨by omega,λi hi=>by omega⟩,rfl⟩,λx ⟨hx,hinv⟩=>⟨by unfold LIM;omega,λhlt=> ?_,λhge=>stop x hx hinv⟩⟩
 have hb:=zkr (u.drop x) 0
 have hd:(u.drop x).length=u.length-x:=List.length_drop
 refine ⟨by omega,hlt,by omega,by omega,by omega,λhn=>stop x hx hinv,λhm=>⟨by omega,by omega,by omega,x+1,⟨by omega,λi hi=> ?_⟩,by omega, ?_⟩⟩
 .by_cases e:i=x
  .subst e;rw [zn3] at hm;exact hm
  .exact hinv i (by omega)
 .rw [List.drop_drop,List.take_of_length_le (by rw [List.length_drop,List.length_drop];simp;omega)]
  first|rfl| (congr 1;simp;omega)
theorem zz2 (s:List UInt8):zag (ctx cc0 zdc) 6 102 [.str s] (.prop (zaY s)):=by
 rw [zyP]
 simp only [imp_false,Classical.not_not,and_true,zpM,zeW]
 have bad:¬(1<=s.length/\s.length<=12)->(false=true↔zaY s):=λhn=>⟨λh=>by simp at h,λh=>absurd ⟨h.out.1,h.out.2.1⟩ hn⟩
 refine ⟨λhne=>⟨λhl=>⟨λ_=>⟨⟨0,Nat.zero_le _,rfl,zqr⟩,λx hx=> ?_⟩,λh=>absurd h hne⟩,λhl=>bad (by omega)⟩,λhe=>bad (by rw [he];simp)⟩
 have hx:x<=26:=hx
 have hpos:0<s.length:=List.length_pos_iff.2 hne
 refine ⟨by unfold LIM;omega,λhlt=> ?_,λhge=> ?_⟩
 .have hb:=zuQ x (by omega)
  refine ⟨by omega,hlt,λh=>by omega,λ_=>⟨by omega,by omega,by omega,by omega,x+1,show x+1<=26 by omega,by omega,by omega, ?_⟩⟩
  rw [hb,show ((97:Int)+(x:Int)).toNat*1=97+x by omega]
  exact zsD x (by omega)
 .have hx26:x=26:=by omega
  subst hx26
  refine ⟨⟨s.length,⟨Nat.le_refl _,λi h1 h2=>by omega⟩,(List.take_of_length_le (Nat.le_refl _)).symm,rfl⟩,λx ⟨hx,hinv⟩=> ?_⟩
  have ht:(s.take x).length=x:=List.length_take_of_le hx
  have hb:=zkr (s.take x) (((s.take x).length:Int)-1).toNat
  rw [ht] at hb⊢
  have hlast:0<x->zap (s.take x) ((x:Int)-1).toNat=zap s (x-1):=λh=>by
   rw [show ((x:Int)-1).toNat=x-1 by omega,zi9 s x (x-1) (by omega)]
  refine ⟨by unfold LIM;omega,λhlt=>⟨by omega,by omega,by omega,hb.1,hb.2,by omega,λhn=> ?_,λhm=>⟨by omega,by omega,by omega,by omega,x-1,⟨by omega,λi h1 h2=> ?_⟩,by omega, ?_⟩⟩,λhge=> ?_⟩
  .have hl:=hlast (by omega)
   rw [hl] at hn
   refine zpE (by omega) (.inr ⟨by omega,zyu (show x-1<s.length by omega) hn, ?_⟩)
   rw [ht,zi9 s x (x-1) (by omega)];exact hn
  .by_cases e:i=x-1
   .subst e;rw [hlast (by omega)] at hm;exact hm
   .exact hinv i (by omega) h2
  .rw [List.drop_zero,List.take_take];congr 1;omega
  .have:x=0:=by omega
   subst this
   exact zpE (by simp) (.inl ⟨rfl,⟨by omega,by omega,λi hi=>hinv i (by omega) hi⟩⟩)
theorem fm4:∀k:Int,1<=k->k<=10->(((zad zb8 k.toNat).fld 4).asProp↔(k=1\/k=6\/k=7)):=λk h1 h2=>by
 have:k=1\/k=2\/k=3\/k=4\/k=5\/k=6\/k=7\/k=8\/k=9\/k=10:=by omega
 rcases this with rfl|rfl|rfl|rfl|rfl|rfl|rfl|rfl|rfl|rfl<;>first| (show (true=true↔_);simp;done)| (show (false=true↔_);simp;done)
theorem fm3:∀k:Int,1<=k->k<=10->((cNm (zad zb8 k.toNat)).asProp↔(k=4\/k=5\/k=6\/k=7)):=λk h1 h2=>by
 have:k=1\/k=2\/k=3\/k=4\/k=5\/k=6\/k=7\/k=8\/k=9\/k=10:=by omega
 rcases this with rfl|rfl|rfl|rfl|rfl|rfl|rfl|rfl|rfl|rfl<;>first| (show (true=true↔_);simp;done)| (show (false=true↔_);simp;done)
theorem fm5:∀k:Int,1<=k->k<=10->(((zad zb8 k.toNat).fld 5).asProp↔k=1):=λk h1 h2=>by
 have:k=1\/k=2\/k=3\/k=4\/k=5\/k=6\/k=7\/k=8\/k=9\/k=10:=by omega
 rcases this with rfl|rfl|rfl|rfl|rfl|rfl|rfl|rfl|rfl|rfl<;>first| (show (true=true↔_);simp;done)| (show (false=true↔_);simp;done)
theorem fm1:∀k:Int,1<=k->k<=10->((zad zb8 k.toNat).fld 1).asInt=if k=4 then 1 else 0:=λk h1 h2=>by
 have:k=1\/k=2\/k=3\/k=4\/k=5\/k=6\/k=7\/k=8\/k=9\/k=10:=by omega
 rcases this with rfl|rfl|rfl|rfl|rfl|rfl|rfl|rfl|rfl|rfl<;>rfl
theorem fm2:∀k:Int,1<=k->k<=10->((zad zb8 k.toNat).fld 2).asInt=if k=4 then 2 else if k=10 then 63 else 0:=λk h1 h2=>by
 have:k=1\/k=2\/k=3\/k=4\/k=5\/k=6\/k=7\/k=8\/k=9\/k=10:=by omega
 rcases this with rfl|rfl|rfl|rfl|rfl|rfl|rfl|rfl|rfl|rfl<;>rfl
set_option maxHeartbeats 8000000 in
theorem zAa (k:Int) (a:List UInt8) (la:Prop) (nm:D) (n:Int):zag (ctx (λ_=>none) zdc) 3 168 [.agg [.int .u8 k,.str a,.prop la,.dat 29 nm,.int .i64 n]] (.prop (zbq k a la nm.len n)):=by
 rw [zyX]
 simp only [zr1,imp_false,Classical.not_not,Bool.false_eq_true,false_iff,Bool.not_false]
 refine ⟨λh1=>⟨λh2=>by omega,λh2=>⟨by omega,by omega, ?_⟩⟩,λh1=>by omega⟩
 rw [fm1 k (by omega) (by omega),fm2 k (by omega) (by omega)]
 simp only [fm3 k (by omega) (by omega),fm4 k (by omega) (by omega),fm5 k (by omega) (by omega)]
 generalize (a= [])=A at*
 generalize nm.len=m
 have hk:k=1\/k=2\/k=3\/k=4\/k=5\/k=6\/k=7\/k=8\/k=9\/k=10:=by omega
 clear h1 h2
 rcases hk with rfl|rfl|rfl|rfl|rfl|rfl|rfl|rfl|rfl|rfl<;>by_cases hA:A<;>by_cases hla:la<;>simp [hA,hla]<;>omega
end Go.Ev

end

section
open Go.Proofs
namespace Go.Ev
set_option maxRecDepth 100000
set_option maxHeartbeats 4000000
theorem zyT:∀(b:D) (k:Int) (a:List UInt8) (la:Prop) (nm:D) (n:Int),zag (ctx cc2 zdc) 6 (130:FuncId) [V.dat (22:TypeId) b,V.agg [V.int IntKind.u8 k,V.str a,V.prop la,V.dat (29:TypeId) nm,
V.int IntKind.i64 n]] (V.int IntKind.i64 (zcH b b.len k a la nm n))=(True/\((zbq k a la nm.len n->False)->30=zcH b b.len k a la nm n)/\(((zbq k a la nm.len n->False)->False)->(∃(x:Nat),(x<=nm.len/\
∀(i:Nat),i<x->zaY (sAt nm i))/\(0=(x:Int)/\True)/\True)/\∀(x:Nat),(x<=nm.len/\∀(i:Nat),i<x->zaY (sAt nm i))->nm.len-x<LIM/\((x:Int)<(nm.len:Int)->0<=(x:Int)/\(x:Int)<
(nm.len:Int)/\True/\((zaY (sAt nm x)->False)->((0<=(x:Int)->False)->((a= []->False)->True/\((zaY a->False)->4=zcH b b.len k a la nm n)/\(((zaY a->False)->False)->nm.len<=100/\(zbi nm->
5=zcH b b.len k a la nm n)/\((zbi nm->False)->((a= []->False)->zaE b/\((zaP b b.len a->False)->31=zcH b b.len k a la nm n)/\(((zaP b b.len a->False)->False)->0=zcH b b.len k a la nm
n))/\(((a= []->False)->False)->0=zcH b b.len k a la nm n))))/\(((a= []->False)->False)->nm.len<=100/\(zbi nm->5=zcH b b.len k a la nm n)/\((zbi nm->False)->((a= []->False)->zaE b/\
((zaP b b.len a->False)->31=zcH b b.len k a la nm n)/\(((zaP b b.len a->False)->False)->0=zcH b b.len k a la nm n))/\(((a= []->False)->False)->0=zcH b b.len k a la nm n))))/\(0<=(x:Int)->
4=zcH b b.len k a la nm n))/\(((zaY (sAt nm x)->False)->False)->fits64 ((x:Int)+1)/\∃(y:Nat),(y<=nm.len/\∀(i:Nat),i<y->zaY (sAt nm i))/\nm.len-y<nm.len-x/\((x:Int)+1=(y:Int)/\
True)/\True))/\(((x:Int)<(nm.len:Int)->False)->((a= []->False)->True/\((zaY a->False)->4=zcH b b.len k a la nm n)/\(((zaY a->False)->False)->nm.len<=100/\(zbi nm->5=zcH b b.len k a la
nm n)/\((zbi nm->False)->((a= []->False)->zaE b/\((zaP b b.len a->False)->31=zcH b b.len k a la nm n)/\(((zaP b b.len a->False)->False)->0=zcH b b.len k a la nm n))/\(((a= []->False)->
False)->0=zcH b b.len k a la nm n))))/\(((a= []->False)->False)->nm.len<=100/\(zbi nm->5=zcH b b.len k a la nm n)/\((zbi nm->False)->((a= []->False)->zaE b/\((zaP b b.len a->False)->
31=zcH b b.len k a la nm n)/\(((zaP b b.len a->False)->False)->0=zcH b b.len k a la nm n))/\(((a= []->False)->False)->0=zcH b b.len k a la nm n)))))):=by intros;kernel_rfl
theorem zBg:∀(c:D),zag (ctx cc3 zdc) 5 (98:FuncId) [V.dat (22:TypeId) c] (V.tup [V.int IntKind.i64 (zbm c).fst,V.int IntKind.i64 (zbm c).snd])=((32<(c.len:Int)->0=(zbm c).fst/\7=(zbm
c).snd/\True)/\((32<(c.len:Int)->False)->(∃(x:Nat),(x<=c.len/\zbM c (c.len-x) x=zbM c c.len 0)/\(0=(x:Int)/\True)/\True)/\∀(x:Nat),x<=c.len/\zbM c (c.len-x) x=zbM c c.len 0->
c.len-x<LIM/\((x:Int)<(c.len:Int)->0<=(x:Int)/\(x:Int)<(c.len:Int)/\(0:Int)<=0/\0<=(x:Int)/\(x:Int)<=(c.len:Int)/\(zaE (c.sub 0 x)/\(cNm (el c x)).len<=100)/\((zcH (c.sub 0 x)
(c.sub 0 x).len (cK (el c x)) (cA (el c x)) (cL (el c x)) (cNm (el c x)) (cN (el c x))=0->False)->(x:Int)=(zbm c).fst/\zcH (c.sub 0 x) (c.sub 0 x).len (cK (el c x)) (cA (el c x)) (cL (el c x)) (cNm (el c x))
(cN (el c x))=(zbm c).snd/\True)/\(((zcH (c.sub 0 x) (c.sub 0 x).len (cK (el c x)) (cA (el c x)) (cL (el c x)) (cNm (el c x)) (cN (el c x))=0->False)->False)->fits64 ((x:Int)+1)/\∃(y:Nat),(y<=c.len/\
zbM c (c.len-y) y=zbM c c.len 0)/\c.len-y<c.len-x/\((x:Int)+1=(y:Int)/\True)/\True))/\(((x:Int)<(c.len:Int)->False)->0=(zbm c).fst/\0=(zbm c).snd/\True))):=by intros;kernel_rfl
section
variable {c:D} {i:Nat} {k:Int} {a:List UInt8} {la:Prop} {nm:D} {n:Int}
theorem e30 (h:¬zbq k a la nm.len n):zcH c i k a la nm n=30:=by unfold zcH;rw [if_pos h]
theorem e4 (h:zbq k a la nm.len n) (hb:zfP nm\/(a≠ []/\¬zaY a)):zcH c i k a la nm n=4:=by unfold zcH;rw [if_neg (λhn=>hn h),if_pos hb]
theorem e5 (h:zbq k a la nm.len n) (hb:¬(zfP nm\/(a≠ []/\¬zaY a))) (ht:zbi nm):zcH c i k a la nm n=5:=by unfold zcH;rw [if_neg (λhn=>hn h),if_neg hb,if_pos ht]
theorem e31 (h:zbq k a la nm.len n) (hb:¬(zfP nm\/(a≠ []/\¬zaY a))) (ht:¬zbi nm) (ha:a≠ []) (hl:¬zaP c i a):zcH c i k a la nm n=31:=by unfold zcH;rw [if_neg (λhn=>hn h),if_neg hb,if_neg ht,if_pos ⟨ha,hl⟩]
theorem e0 (h:zbq k a la nm.len n) (hb:¬(zfP nm\/(a≠ []/\¬zaY a))) (ht:¬zbi nm) (hl:a= []\/zaP c i a):zcH c i k a la nm n=0:=by
 unfold zcH;rw [if_neg (λhn=>hn h),if_neg hb,if_neg ht,if_neg (λhh=>hl.elim hh.1 hh.2)]
end
theorem zz6 (b:D) (k:Int) (a:List UInt8) (la:Prop) (nm:D) (n:Int) (h:zaE b) (hnl:nm.len<=100):zag (ctx cc2 zdc) 6 130 [.dat 22 b,.agg [.int .u8 k,.str a,.prop la,.dat 29 nm,.int .i64 n]] (.int .i64 (zcH b b.len k a la nm n)):=by
 rw [zyT]
 simp only [imp_false,Classical.not_not,true_and,and_true]
 refine ⟨λhf=>(e30 hf).symm,λhf=>⟨⟨0,⟨by omega,λi hi=>by omega⟩,rfl⟩,λx ⟨hx,hinv⟩=>⟨by unfold LIM;omega,λhlt=>⟨by omega,hlt,λhn=>⟨λh0=>absurd (by omega) h0,λ_=>(e4 hf (.inl ⟨x,by omega,hn⟩)).symm⟩,λhn=>⟨by omega,x+1,⟨by omega,λj hj=> ?_⟩,by omega,by omega⟩⟩,λhge=>⟨λha=>⟨λhn=>(e4 hf (.inr ⟨ha,hn⟩)).symm,λhn=> ?_⟩,λha=> ?_⟩⟩⟩⟩
 .by_cases e:j=x
  .subst e;exact hn
  .exact hinv j (by omega)
 all_goals
  have hA:¬(a≠ []/\¬zaY a):=by first|exact λh=>h.2 hn|exact λh=>h.1 ha
  have hbad:¬(zfP nm\/(a≠ []/\¬zaY a)):=λh=>h.elim (λ⟨j,h1,h2⟩=>h2 (hinv j (by omega))) hA
  exact ⟨hnl,λht=>(e5 hf hbad ht).symm,λht=>⟨λha=>⟨h,λhl=>(e31 hf hbad ht ha hl).symm,λhl=>(e0 hf hbad ht (.inr hl)).symm⟩,λha=>(e0 hf hbad ht (.inl ha)).symm⟩⟩
theorem zjV (l:D) (x:Nat) (hx:x<l.len):zbM l (l.len-x) x=if zhT l x≠0 then ((x:Int),zhT l x) else zbM l (l.len-(x+1)) (x+1):=by
 have:l.len-x=(l.len-(x+1))+1:=by omega
 rw [this];rfl
theorem zqo {l:D} {x:Nat} (hl:¬(32:Int)<l.len) (hx:x<l.len) (hinv:zbM l (l.len-x) x=zbM l l.len 0) {e:Int} (he:zhT l x=e) (hn:e≠0):(zbm l).1=x/\(zbm l).2=e:=by
 have hs:=zjV l x hx
 rw [hinv,if_pos (by rw [he];exact hn),he] at hs
 have:zbm l=((x:Int),e):=by unfold zbm;rw [if_neg (by omega),hs]
 rw [this];exact ⟨rfl,rfl⟩
theorem zvi {l:D} {x:Nat} (hx:x<l.len) (hinv:zbM l (l.len-x) x=zbM l l.len 0) (he:zhT l x=0):zbM l (l.len-(x+1)) (x+1)=zbM l l.len 0:=by
 have hs:=zjV l x hx
 rw [hinv,if_neg (λh=>h he)] at hs
 exact hs.symm
theorem zsB {l:D} {x:Nat} (hl:¬(32:Int)<l.len) (hx:l.len<=x) (hinv:zbM l (l.len-x) x=zbM l l.len 0):(zbm l).1=0/\(zbm l).2=0:=by
 have:l.len-x=0:=by omega
 rw [this] at hinv
 have:zbm l=(0,0):=by unfold zbm;rw [if_neg (by omega),<-hinv];rfl
 rw [this];exact ⟨rfl,rfl⟩
theorem zrq {l:D} (hl:(32:Int)<l.len):(zbm l).1=0/\(zbm l).2=7:=by
 have:zbm l=(0,7):=by unfold zbm;rw [if_pos (by omega)]
 rw [this];exact ⟨rfl,rfl⟩
theorem znp (c:D) (x:Nat) (h:x<=c.len) (a:List UInt8):zaP (c.sub 0 x) (c.sub 0 x).len a=zaP c x a:=propext (by
 rw [zbZ c x h]
 exact ⟨λ⟨⟨k,h1,h2⟩⟩=>⟨k,h1,by rw [zgU c x k h1] at h2;exact h2⟩,λ⟨⟨k,h1,h2⟩⟩=>⟨k,h1,by rw [zgU c x k h1];exact h2⟩⟩)
theorem zvp (c:D) (x:Nat) (h:x<=c.len):zcH (c.sub 0 x) (c.sub 0 x).len (cK (el c x)) (cA (el c x)) (cL (el c x)) (cNm (el c x)) (cN (el c x))=zhT c x:=by
 unfold zhT zcH
 rw [znp c x h]
theorem zqB {c:D} (h:zaE c) (x:Nat) (hx:x<=c.len):zaE (c.sub 0 x):=⟨by rw [zbZ c x hx];exact Nat.le_trans hx h.out.1,λi hi=>by rw [zbZ c x hx] at hi;rw [zgU c x i hi];exact h.out.2 i (by omega)⟩
theorem s98 (c:D) (h:zaE c):zag (ctx cc3 zdc) 5 98 [.dat 22 c] (.tup [.int .i64 (zbm c).1,.int .i64 (zbm c).2]):=by
 have hlen:=h.out.1
 rw [zBg]
 simp only [imp_false,Classical.not_not,true_and,and_true]
 refine ⟨λhl=>by have:=zrq hl;exact ⟨this.1.symm,this.2.symm⟩,λhl=>⟨⟨0,⟨by omega,rfl⟩,rfl⟩,λx ⟨hx,hinv⟩=>⟨by unfold LIM;omega,λhlt=> ?_,λhge=> ?_⟩⟩⟩
 .rw [zvp c x (by omega)]
  refine ⟨by omega,hlt,by omega,by omega,by omega,⟨zqB h x (by omega),h.out.2 x (by omega)⟩,λhe=> ?_,λhe=>⟨by omega,x+1,⟨by omega,zvi (by omega) hinv he⟩,by omega,by omega⟩⟩
  have:=zqo hl (by omega) hinv rfl he;exact ⟨this.1.symm,this.2.symm⟩
 .have:=zsB hl (by omega) hinv;exact ⟨this.1.symm,this.2.symm⟩
end Go.Ev

end

section
open Go.Proofs
namespace Go.Ev
set_option maxRecDepth 100000
set_option maxHeartbeats 4000000
theorem zib {k:Int} {nm:D} {n:Int} {g:GD}:naP k nm n g↔((k=4/\g.sd=n)\/(k=5/\g.ho)\/(k=7/\zbG nm g.ct)\/((k≠4/\k≠5/\k≠7)/\zrm g.tg nm)):=⟨λh=>h.out,λh=>⟨h⟩⟩
theorem zaC {k:Int} {la:Prop} {nm:D} {n:Int} {a b:GD} {i j:Int}:zmY k la nm n a b i j↔((k=1/\idx nm a.rk<idx nm b.rk)\/(k=2/\a.si≠0/\(b.si=0\/a.si<b.si))\/(k=3/\a.si≠0/\(b.si=0\/b.si<a.si))\/(k=8/\sLt a.nm b.nm)\/(k=9/\inB i/\inB j/\i<j)\/
  (k=10/\inB i/\inB j/\zpB i n<zpB j n)\/((k≠1/\k≠2/\k≠3/\k≠8/\k≠9/\k≠10)/\((la/\¬naP k nm n a/\naP k nm n b)\/(¬la/\naP k nm n a/\¬naP k nm n b)))):=⟨λh=>h.out,λh=>⟨h⟩⟩
theorem za4 (c:D) (n:Nat):(zaJ c n).length=n:=by simp [zaJ]
theorem zlu (c:D) (n:Nat):zaJ c (n+1)=zaJ c n++ [zlt c n]:=by unfold zaJ;rw [List.range_succ,List.map_append];rfl
theorem zqY {c:D} {x:Nat} (h:x<c.len):(zaJ c x++List.replicate (c.len-x) D.nil).set x (zlt c x)=zaJ c (x+1)++List.replicate (c.len-(x+1)) D.nil:=by
 rw [show c.len-x=(c.len-(x+1))+1 by omega,List.replicate_succ,List.set_append_right _ _ (by rw [za4];exact Nat.le_refl _),za4,Nat.sub_self,List.set_cons_zero,zlu,List.append_assoc];rfl
theorem zf9 {c:D} {n k:Nat} (h:k<n):el (.list (zaJ c n)) k=zlt c k:=by
 unfold el zad zaJ
 show ((List.map (λi=>zlt c i) (List.range n))[k]?).getD .nil=_
 rw [List.getElem?_map,List.getElem?_range h];rfl
theorem zmx {f:Nat->Int} {n x:Nat} (h:x<n) (hs:zb9 f (n-x) x=zb9 f n 0):(f x≠0->zb9 f n 0=(((x:Nat):Int),f x))/\(f x=0->zb9 f (n-(x+1)) (x+1)=zb9 f n 0):=by
 have hu:zb9 f ((n-(x+1))+1) x=if f x≠0 then (((x:Nat):Int),f x) else zb9 f (n-(x+1)) (x+1):=rfl
 rw [show n-x=(n-(x+1))+1 by omega,hu] at hs
 constructor
 .intro k;rw [if_pos k] at hs;exact hs.symm
 .intro k;rw [if_neg (λq=>q k)] at hs;exact hs
theorem zvj {f:Nat->Int} {n x:Nat} (h:x=n) (hs:zb9 f (n-x) x=zb9 f n 0):zb9 f n 0=(-1,0):=by
 subst h
 rw [Nat.sub_self] at hs
 exact hs.symm
theorem zfn {f g:Nat->Int} {n:Nat} (h:∀k,k<n->f k=g k):∀(m i:Nat),i+m<=n->zb9 f m i=zb9 g m i
 |0,_,_=>rfl
 |m+1,i,hi=>by unfold zb9;rw [h i (by omega),zfn h m (i+1) (by omega)]
theorem zjW {l:D}:∀(f i:Nat),(zbM l f i).2=0->∀k,i<=k->k<i+f->zhT l k=0
 |0,i,_,k,h1,h2=>by omega
 |f+1,i,h,k,h1,h2=>by
  unfold zbM at h
  by_cases e:zhT l i=0
  .rw [if_neg (λq=>q e)] at h
   by_cases q:k=i
   .subst q;exact e
   .exact zjW f (i+1) h k (by omega) (by omega)
  .rw [if_pos e] at h;exact (e h).elim
theorem zfV {c:D} (h:(zbm c).2=0) {x:Nat} (hx:x<c.len):zbq (cK (el c x)) (cA (el c x)) (cL (el c x)) (cNm (el c x)).len (cN (el c x)):=by
 unfold zbm at h
 split at h
 .cases h
 .have:=zjW c.len 0 h x (Nat.zero_le _) (by omega)
  unfold zhT zcH at this
  by_cases q:zbq (cK (el c x)) (cA (el c x)) (cL (el c x)) (cNm (el c x)).len (cN (el c x))
  .exact q
  .rw [if_pos q] at this;cases this
theorem zr2 {k:Int} {a:List UInt8} {la:Prop} {m:Nat} {n:Int} (h:zbq k a la m n):k=10->0<=n/\n<=63:=λe=>by
 rcases h.out with h|h|h|h|h|h
 .omega
 .omega
 .omega
 .omega
 .omega
 .exact ⟨h.2.2.1,h.2.2.2.1⟩
theorem zgx {k:Int} {a:List UInt8} {la:Prop} {m:Nat} {n:Int} (h:zbq k a la m n):1<=k/\k<=10:=by
 rcases h.out with h|h|h|h|h|h<;>omega
theorem zho (g:FuncId) (ts:List TypeId) (ds:List D):idD (.fn g ts ds)=g:=rfl
theorem zql (r:D) (a b:GD) (i j:Int):zbs (.fn 216 [227] [r]) a b i j=zdh (zk1 r a) (zk1 r b):=by
 unfold zbs;rw [zho,if_pos rfl];rfl
theorem zcr (m:D) (la:Prop) (a b:GD) (i j:Int):zbs (.fn 220 [184,4] [m,.bool la]) a b i j=zkQ (zdd m a) (zdd m b) la:=by
 unfold zbs;rw [zho,if_neg (show ¬(220:Nat)=216 by decide),if_pos rfl];rfl
theorem zjS (a b:GD) (i j:Int):zbs (.fn 184 [] []) a b i j=zhb a.nm b.nm:=by
 unfold zbs;rw [zho,if_neg (show ¬(184:Nat)=216 by decide),if_neg (show ¬(184:Nat)=220 by decide),if_pos rfl]
open Classical in
theorem zgM (e k:D) (a b:GD) (i j:Int):zbs (.fn 223 [181,80] [e,k]) a b i j=if inB i/\inB j then zdh (zqk k i) (zqk k j) else 0:=by
 unfold zbs;rw [zho,if_neg (show ¬(223:Nat)=216 by decide),if_neg (show ¬(223:Nat)=220 by decide),if_neg (show ¬(223:Nat)=184 by decide)];rfl
theorem zgN (u c:D) (a b:GD) (i j:Int):zcR (.fn 218 [173,142] [u,c]) a b i j=orZ (zbs u a b i j) (ziZ c a.si b.si):=by
 unfold zcR;rw [zho,if_pos rfl];rfl
theorem zc3 {g:FuncId} {ts:List TypeId} {ds:List D} (h:g≠218) (a b:GD) (i j:Int):zcR (.fn g ts ds) a b i j=zbs (.fn g ts ds) a b i j:=by unfold zcR;rw [zho,if_neg h]
theorem zmq (x:D) (g:GD):zdd (.fn 179 [69] [x]) g↔g.sd=cN x:=⟨λh=>by rcases h.out with h|h|h|h|h;exact h.2;all_goals (have:=h.1;cases this),λh=>⟨.inl ⟨rfl,h⟩⟩⟩
theorem zmr (g:GD):zdd (.fn 180 [] []) g↔g.ho:=⟨λh=>by rcases h.out with h|h|h|h|h;(have:=h.1;cases this);exact h.2;all_goals (have:=h.1;cases this),λh=>⟨.inr (.inl ⟨rfl,h⟩)⟩⟩
theorem zms (x:D) (g:GD):zdd (.fn 181 [69] [x]) g↔zrm g.tg (cNm x):=⟨λh=>by rcases h.out with h|h|h|h|h;(have:=h.1;cases this);(have:=h.1;cases this);exact h.2;all_goals (have:=h.1;cases this),λh=>⟨.inr (.inr (.inl ⟨rfl,h⟩))⟩⟩
theorem zmt (x:D) (g:GD):zdd (.fn 183 [69] [x]) g↔zbG (cNm x) g.ct:=⟨λh=>by rcases h.out with h|h|h|h|h;(have:=h.1;cases this);(have:=h.1;cases this);(have:=h.1;cases this);exact h.2;(have:=h.1;cases this),λh=>⟨.inr (.inr (.inr (.inl ⟨rfl,h⟩)))⟩⟩
theorem zeV (g:GD):zdd (.fn 217 [] []) g↔g.si=0:=⟨λh=>by rcases h.out with h|h|h|h|h;(have:=h.1;cases this);(have:=h.1;cases this);(have:=h.1;cases this);(have:=h.1;cases this);exact h.2,λh=>⟨.inr (.inr (.inr (.inr ⟨rfl,h⟩)))⟩⟩
open Classical in
theorem zic {p q la A B:Prop} (h1:A↔((la/\¬p/\q)\/(¬la/\p/\¬q))) (h2:B↔((la/\¬q/\p)\/(¬la/\q/\¬p))):zkQ p q la=if A then-1 else if B then 1 else 0:=by
 unfold zkQ
 by_cases hp:p<;>by_cases hq:q<;>by_cases hl:la<;>simp [h1,h2,hp,hq,hl]
open Classical in
theorem zrb {x y u w:Int} {A B:Prop} (h1:A↔(x≠0/\(y=0\/u<w))) (h2:B↔(y≠0/\(x=0\/w<u))) {p q:Prop} (hp:p↔x=0) (hq:q↔y=0) (h0:x=0->y=0->u=w):orZ (zkQ p q True) (zdh u w)=if A then-1 else if B then 1 else 0:=by
 unfold orZ zkQ
 by_cases hx:x=0<;>by_cases hy:y=0
 .have:=h0 hx hy
  subst this
  simp [h1,h2,hp,hq,hx,hy,zdh]
 .simp [h1,h2,hp,hq,hx,hy]
 .simp [h1,h2,hp,hq,hx,hy]
 .have e:zdh u w=if A then-1 else if B then 1 else 0:=zhR (h1.trans (by simp [hx,hy])) (h2.trans (by simp [hx,hy]))
  rw [<-e]
  simp [hp,hq,hx,hy]
open Classical in
theorem zsz {k:Int} (h1:1<=k) (h2:k<=10) (s:List UInt8) (la:Prop) (nm:D) (n:Int) (a b:GD) (i j:Int):
  zcR (zbN k s la nm n) a b i j=if zmY k la nm n a b i j then-1 else if zmY k la nm n b a j i then 1 else 0:=by
 have hk:k=1\/k=2\/k=3\/k=4\/k=5\/k=6\/k=7\/k=8\/k=9\/k=10:=by omega
 rcases hk with rfl|rfl|rfl|rfl|rfl|rfl|rfl|rfl|rfl|rfl
 .show zcR (.fn 216 [227] [.fn 215 [29] [nm]]) a b i j=_
  rw [zc3 (by decide),zql]
  exact zhR (by rw [zaC];simp;exact (Int.ofNat_lt).symm) (by rw [zaC];simp;exact (Int.ofNat_lt).symm)
 .show zcR (.fn 218 [173,142] [.fn 220 [184,4] [.fn 217 [] [],.bool (true=true)],.fn 114 [] []]) a b i j=_
  rw [zgN,zcr,show (true=true)=True from eq_true rfl]
  exact zrb (x:=a.si) (y:=b.si) (by rw [zaC];simp) (by rw [zaC];simp) (zeV a) (zeV b) (λh k=>by rw [h,k])
 .show zcR (.fn 218 [173,142] [.fn 220 [184,4] [.fn 217 [] [],.bool (true=true)],.fn 177 [] []]) a b i j=_
  rw [zgN,zcr,show (true=true)=True from eq_true rfl]
  exact zrb (x:=a.si) (y:=b.si) (u:=b.si) (w:=a.si) (by rw [zaC];simp) (by rw [zaC];simp) (zeV a) (zeV b) (λh k=>by rw [h,k])
 .show zcR (.fn 220 [184,4] [.fn 179 [69] [xD 4 s la nm n],.bool la]) a b i j=_
  rw [zc3 (by decide),zcr]
  have e:∀g,zdd (.fn 179 [69] [xD 4 s la nm n]) g↔naP 4 nm n g:=λg=>(zmq _ g).trans (by rw [zib];simp;rfl)
  exact zic (by rw [zaC,e,e];simp) (by rw [zaC,e,e];simp)
 .show zcR (.fn 220 [184,4] [.fn 180 [] [],.bool la]) a b i j=_
  rw [zc3 (by decide),zcr]
  have e:∀g,zdd (.fn 180 [] []) g↔naP 5 nm n g:=λg=>(zmr g).trans (by rw [zib];simp)
  exact zic (by rw [zaC,e,e];simp) (by rw [zaC,e,e];simp)
 .show zcR (.fn 220 [184,4] [.fn 181 [69] [xD 6 s la nm n],.bool la]) a b i j=_
  rw [zc3 (by decide),zcr]
  have e:∀g,zdd (.fn 181 [69] [xD 6 s la nm n]) g↔naP 6 nm n g:=λg=>(zms _ g).trans (by rw [zib];simp;rfl)
  exact zic (by rw [zaC,e,e];simp) (by rw [zaC,e,e];simp)
 .show zcR (.fn 220 [184,4] [.fn 183 [69] [xD 7 s la nm n],.bool la]) a b i j=_
  rw [zc3 (by decide),zcr]
  have e:∀g,zdd (.fn 183 [69] [xD 7 s la nm n]) g↔naP 7 nm n g:=λg=>(zmt _ g).trans (by rw [zib];simp;rfl)
  exact zic (by rw [zaC,e,e];simp) (by rw [zaC,e,e];simp)
 .show zcR (.fn 184 [] []) a b i j=_
  rw [zc3 (by decide),zjS]
  exact zt8 (by rw [zaC];simp) (by rw [zaC];simp)
 .show zcR (.fn 223 [181,80] [.fn 222 [] [],.fn 187 [] []]) a b i j=_
  rw [zc3 (by decide),zgM]
  by_cases q:inB i/\inB j
  .rw [if_pos q]
   exact zhR (by rw [zaC];simp [q.1,q.2];rfl) (by rw [zaC];simp [q.1,q.2];rfl)
  .rw [if_neg q,if_neg (by rw [zaC];simp;exact λx y=>absurd ⟨x,y⟩ q),if_neg (by rw [zaC];simp;exact λx y=>absurd ⟨y,x⟩ q)]
 .show zcR (.fn 223 [181,80] [.fn 222 [] [],.fn 188 [69] [xD 10 s la nm n]]) a b i j=_
  rw [zc3 (by decide),zgM]
  by_cases q:inB i/\inB j
  .rw [if_pos q]
   exact zhR (by rw [zaC];simp [q.1,q.2];rfl) (by rw [zaC];simp [q.1,q.2];rfl)
  .rw [if_neg q,if_neg (by rw [zaC];simp;exact λx y=>absurd ⟨x,y⟩ q),if_neg (by rw [zaC];simp;exact λx y=>absurd ⟨y,x⟩ q)]
theorem ztA {c:D} (h:(zbm c).2=0) {x:Nat} (hx:x<c.len) (a b:GD) (i j:Int):zk0 (zlt c x) a b i j=clE c a b i j x:=by
 have hf:=zgx (zfV h hx)
 show zlH (cA (el c x)) (zbN _ _ _ _ _) a b i j=_
 unfold zlH clE clZ
 rw [zsz hf.1 hf.2]
theorem zu5 {k:Int} {s:List UInt8} {la:Prop} {nm:D} {n:Int} (hm:nm.len<=100) (hn:k=10->0<=n/\n<=63) (h1:1<=k) (h2:k<=10):zu4 (zbN k s la nm n):=by
 have hk:k=1\/k=2\/k=3\/k=4\/k=5\/k=6\/k=7\/k=8\/k=9\/k=10:=by omega
 rcases hk with rfl|rfl|rfl|rfl|rfl|rfl|rfl|rfl|rfl|rfl
 .exact ⟨.inl ⟨.inl ⟨.fn 215 [29] [nm],rfl,⟨nm,rfl,hm⟩⟩⟩⟩
 .exact ⟨.inr ⟨zkR (true=true) (.fn 217 [] []),.fn 114 [] [],rfl,⟨.inr (.inl ⟨_,_,rfl,⟨.inr (.inr (.inr (.inr rfl)))⟩⟩)⟩,⟨.inl rfl⟩⟩⟩
 .exact ⟨.inr ⟨zkR (true=true) (.fn 217 [] []),.fn 177 [] [],rfl,⟨.inr (.inl ⟨_,_,rfl,⟨.inr (.inr (.inr (.inr rfl)))⟩⟩)⟩,⟨.inr rfl⟩⟩⟩
 .exact ⟨.inl ⟨.inr (.inl ⟨_,_,rfl,⟨.inl ⟨_,rfl⟩⟩⟩)⟩⟩
 .exact ⟨.inl ⟨.inr (.inl ⟨_,_,rfl,⟨.inr (.inl rfl)⟩⟩)⟩⟩
 .exact ⟨.inl ⟨.inr (.inl ⟨_,_,rfl,⟨.inr (.inr (.inl ⟨_,rfl,hm⟩))⟩⟩)⟩⟩
 .exact ⟨.inl ⟨.inr (.inl ⟨_,_,rfl,⟨.inr (.inr (.inr (.inl ⟨_,rfl,hm⟩)))⟩⟩)⟩⟩
 .exact ⟨.inl ⟨.inr (.inr (.inl rfl))⟩⟩
 .exact ⟨.inl ⟨.inr (.inr (.inr ⟨_,rfl,⟨.inl rfl⟩⟩))⟩⟩
 .exact ⟨.inl ⟨.inr (.inr (.inr ⟨_,rfl,⟨.inr ⟨_,rfl,hn rfl⟩⟩⟩))⟩⟩
theorem zmg {c:D} (hs:zaE c) (h:(zbm c).2=0) {x:Nat} (hx:x<c.len):okA (zlt c x):=
 ⟨_,_,rfl,zu5 (hs.out.2 x hx) (zr2 (zfV h hx)) (zgx (zfV h hx)).1 (zgx (zfV h hx)).2⟩
end Go.Ev

end

section
open Go.Proofs
namespace Go.Ev
set_option maxRecDepth 100000
set_option maxHeartbeats 4000000
theorem zBd:∀(c:D),zag (ctx cn0 zec) 5 (93:FuncId) [V.dat (22:TypeId) c] (V.dat (127:TypeId) (D.list (zaJ c c.len)))=(0<=(c.len:Int)/\(c.len:Int)<=(c.len:Int)/\(c.len:Int)<=16777216/\
8*c.len<=281474976710656/\(∃(x:Nat),x.le c.len/\(0=(x:Int)/\True)/\List.replicate c.len D.nil=zaJ c x++List.replicate (c.len-x) D.nil/\True)/\∀(x:Nat),x.le c.len->c.len-x<LIM/\((x:
Int)<(c.len:Int)->0<=(x:Int)/\(x:Int)<(c.len:Int)/\True/\True/\0<=(x:Int)/\(x:Int)<(c.len:Int)/\x<(zaJ c x++List.replicate (c.len-x) D.nil).length/\fits64 ((x:Int)+1)/\∃(y:
Nat),y.le c.len/\c.len-y<c.len-x/\((x:Int)+1=(y:Int)/\True)/\(zaJ c x++List.replicate (c.len-x) D.nil).set x (zhj (cA (el c x)) (zbN (cK (el c x)) (cA (el c x)) (cL (el c x)) (cNm (el c x))
(cN (el c x))))=zaJ c y++List.replicate (c.len-y) D.nil/\True)/\(((x:Int)<(c.len:Int)->False)->0+c.len<=(zaJ c x++List.replicate (c.len-x) D.nil).length/\D.list (List.take c.len (zaJ c x
++List.replicate (c.len-x) D.nil))=D.list (zaJ c c.len))):=by intros;kernel_rfl
theorem zBc:∀(ts:D) (a b:GD) (i j:Int) (f:Nat->Int),zag (zbo cm0 cF4 (zqp f)) 3 (92:FuncId) [V.dat (127:TypeId) ts,pV a i,pV b j] (V.tup [V.int IntKind.i64 (zb9 f ts.len 0).fst,V.int
IntKind.i64 (zb9 f ts.len 0).snd])=((∃(x:Nat),(x<=ts.len/\zb9 f (ts.len-x) x=zb9 f ts.len 0)/\(0=(x:Int)/\True)/\True)/\∀(x:Nat),x<=ts.len/\zb9 f (ts.len-x) x=zb9 f ts.len 0->ts.len-
x<LIM/\((x:Int)<(ts.len:Int)->0<=(x:Int)/\(x:Int)<(ts.len:Int)/\(okA (el ts x)/\a.tg.len<=100/\b.tg.len<=100)/\((zk0 (el ts x) a b i j=0->False)->(x:Int)=(zb9 f ts.len 0).fst/\zk0
(el ts x) a b i j=(zb9 f ts.len 0).snd/\True)/\(((zk0 (el ts x) a b i j=0->False)->False)->fits64 ((x:Int)+1)/\∃(y:Nat),(y<=ts.len/\zb9 f (ts.len-y) y=zb9 f ts.len 0)/\ts.len-y<ts.len-x
/\((x:Int)+1=(y:Int)/\True)/\True))/\(((x:Int)<(ts.len:Int)->False)->(-1)=(zb9 f ts.len 0).fst/\0=(zb9 f ts.len 0).snd/\True)):=by intros;kernel_rfl
theorem zBb:∀(c:D),zag (ctx cc4 zec) 4 (91:FuncId) [V.dat (22:TypeId) c] (V.prop ((zbm c).snd=0))=(zaE c/\((zbm c).snd=0↔(zbm c).snd=0)):=by intros;kernel_rfl
theorem zA6:∀(c:D) (a b:GD) (i j:Int),zag (ctx cn1 zec) 4 (31:FuncId) [V.dat (22:TypeId) c,gV a,gV b,V.int IntKind.i64 i,V.int IntKind.i64 j] (V.tup [V.int IntKind.i64 (zf3 c a b i j).fst,V.int
IntKind.i64 (zf3 c a b i j).snd])=(zaE c/\(((zbm c).snd=0->False)->0=(zf3 c a b i j).fst/\0=(zf3 c a b i j).snd/\True)/\((((zbm c).snd=0->False)->False)->c.len<=100/\(((zaJ c c.len).length
<=100/\∀(k:Nat),k<(zaJ c c.len).length->okA (el (D.list (zaJ c c.len)) k))/\a.tg.len<=100/\b.tg.len<=100)/\(zb9 (λ(k:Nat)=>zk0 (el (D.list (zaJ c c.len)) k) a b i j) (zaJ c c.len).length
0).fst=(zf3 c a b i j).fst/\(zb9 (λ(k:Nat)=>zk0 (el (D.list (zaJ c c.len)) k) a b i j) (zaJ c c.len).length 0).snd=(zf3 c a b i j).snd/\True)):=by intros;kernel_rfl
theorem zA7:∀(c:D) (a b:GD) (i j:Int),zag (ctx cn2 zec) 4 (32:FuncId) [V.dat (22:TypeId) c,gV a,gV b,V.int IntKind.i64 i,V.int IntKind.i64 j] (V.int IntKind.i64 (zf3 c a b i j).snd)=((zaE c
/\a.tg.len<=100/\b.tg.len<=100)/\(zf3 c a b i j).snd=(zf3 c a b i j).snd):=by intros;kernel_rfl
theorem s93 (c:D) (h:c.len<=100):zag (ctx cn0 zec) 5 93 [.dat 22 c] (.dat 127 (.list (zaJ c c.len))):=by
 rw [zBd]
 refine ⟨by omega,Int.le_refl _,by omega,by omega,⟨0,Nat.zero_le _,⟨rfl,trivial⟩,rfl,trivial⟩,λx hx=>⟨zia h,λk=>⟨by omega,k,trivial,trivial,by omega,k, ?_,by omega,x+1, ?_,by omega,⟨by omega,trivial⟩,zqY (by omega),trivial⟩,λk=> ?_⟩⟩
 .rw [List.length_append,za4,List.length_replicate];omega
 .show x+1<=c.len;omega
 .have e:=zcc hx k
  subst e
  rw [Nat.sub_self,List.replicate_zero,List.append_nil,za4]
  exact ⟨by omega,by rw [List.take_of_length_le (by rw [za4];exact Nat.le_refl _)]⟩
theorem s92 (ts:D) (a b:GD) (i j:Int) (h:ts.len<=100) (ho:∀k,k<ts.len->okA (el ts k)) (ha:a.tg.len<=100) (hb:b.tg.len<=100):
  zag (zbo cm0 cF4 (zqp (λk=>zk0 (el ts k) a b i j))) 3 92 [.dat 127 ts,pV a i,pV b j] (.tup [.int .i64 (zb9 (λk=>zk0 (el ts k) a b i j) ts.len 0).1,.int .i64 (zb9 (λk=>zk0 (el ts k) a b i j) ts.len 0).2]):=by
 rw [zBc]
 refine ⟨⟨0,⟨Nat.zero_le _,rfl⟩,⟨rfl,trivial⟩,trivial⟩,λx hx=>⟨zia h,λk=>⟨by omega,k,⟨ho x (by omega),ha,hb⟩,λe=> ?_,λe=>⟨by omega,x+1,⟨by omega,(zmx (by omega) hx.2).2 (Classical.byContradiction e)⟩,by omega,⟨by omega,trivial⟩,trivial⟩⟩,λk=> ?_⟩⟩
 .rw [(zmx (by omega) hx.2).1 e];exact ⟨rfl,rfl,trivial⟩
 .rw [zvj (zcc hx.1 k) hx.2];exact ⟨rfl,rfl,trivial⟩
theorem s91 (c:D) (h:zaE c):zag (ctx cc4 zec) 4 91 [.dat 22 c] (.prop ((zbm c).2=0)):=by rw [zBb];exact ⟨h,Iff.rfl⟩
theorem s31 (c:D) (a b:GD) (i j:Int) (hs:zaE c) (ha:a.tg.len<=100) (hb:b.tg.len<=100):zag (ctx cn1 zec) 4 31 [.dat 22 c,gV a,gV b,.int .i64 i,.int .i64 j] (.tup [.int .i64 (zf3 c a b i j).1,.int .i64 (zf3 c a b i j).2]):=by
 have hlen:=hs.out.1
 rw [zA6]
 refine ⟨hs,λh=>by unfold zf3;rw [if_neg h];exact ⟨rfl,rfl,trivial⟩,λh=> ?_⟩
 have h:(zbm c).2=0:=Classical.byContradiction h
 have key:zb9 (λk=>zk0 (el (.list (zaJ c c.len)) k) a b i j) (zaJ c c.len).length 0=zf3 c a b i j:=by
  unfold zf3
  rw [if_pos h,za4]
  exact zfn (λk hk=>by rw [zf9 hk,ztA h hk]) _ _ (by omega)
 exact ⟨hlen,⟨⟨by rw [za4];exact hlen,λk hk=>by rw [za4] at hk;rw [zf9 hk];exact zmg hs h hk⟩,ha,hb⟩,by rw [key],by rw [key],trivial⟩
theorem s32 (c:D) (a b:GD) (i j:Int) (hs:zaE c) (ha:a.tg.len<=100) (hb:b.tg.len<=100):zag (ctx cn2 zec) 4 32 [.dat 22 c,gV a,gV b,.int .i64 i,.int .i64 j] (.int .i64 (zf3 c a b i j).2):=by
 rw [zA7];exact ⟨⟨hs,ha,hb⟩,rfl⟩
theorem zdL (l:List D):(zbC l).asList=l:=by cases l<;>rfl
end Go.Ev

end
