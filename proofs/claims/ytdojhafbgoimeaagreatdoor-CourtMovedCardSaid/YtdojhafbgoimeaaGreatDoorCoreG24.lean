/- Part of the proof. -/
import Derived.Test.YtdojhafbgoimeaaGreatDoorCoreG23
import Derived.Test.YtdojhafbgoimeaaGreatDoorCoreG22

section
open Go.Proofs
namespace Go.Ev
set_option maxRecDepth 100000
set_option maxHeartbeats 4000000
def zrl (s u:List UInt8):Prop:=(∃(x_1:Nat),(x_1<=u.length/\∀(i:Nat),i<x_1->(97:Int)<=zao u i/\zao u i<=(122:Int))/\(u=List.drop x_1 u/\True)/\zd5 (26:Nat)=zd5 (26:Nat)/\True)/\∀(x_1:Nat),
(x_1<=u.length/\∀(i:Nat),i<x_1->(97:Int)<=zao u i/\zao u i<=(122:Int))->u.length-x_1<LIM/\((0:Int)<(↑(List.drop x_1 u).length:Int)->(0:Int)<=(0:Int)/\(0:Int)
<(↑(List.drop x_1 u).length:Int)/\(0:Int)<=zao (List.drop x_1 u) (0:Nat)/\zao (List.drop x_1 u) (0:Nat)<(256:Int)/\(zao (List.drop x_1 u) (0:Nat)).toNat*1<(zd5 (26:
Nat)).length/\(((zad (zd5 (26:Nat)) ((zao (List.drop x_1 u) (0:Nat)).toNat*1)).asProp->False)->(List.drop x_1 u= []↔za4 s))/\((((zad (zd5 (26:Nat)) ((zao (List.drop x_1 u)
(0:Nat)).toNat*1)).asProp->False)->False)->(0:Int)<=(1:Int)/\(1:Int)<=(↑(List.drop x_1 u).length:Int)/\(↑(List.drop x_1 u).length:Int)<=(↑(List.drop x_1 u).length:Int)/\∃(y:
Nat),(y<=u.length/\∀(i:Nat),i<y->(97:Int)<=zao u i/\zao u i<=(122:Int))/\u.length-y<u.length-x_1/\(List.take ((List.drop x_1 u).length-Int.toNat (1:Int)) (List.drop
(Int.toNat (1:Int)) (List.drop x_1 u))=List.drop y u/\True)/\zd5 (26:Nat)=zd5 (26:Nat)/\True))/\(((0:Int)<(↑(List.drop x_1 u).length:Int)->False)->(List.drop x_1 u= []↔za4
s))
theorem zwZ:∀(s:List UInt8),zah (ctx cc0 zdf) 6 (102:FuncId) [V.str s] (V.prop (za4 s))=(((s= []->False)->((s.length:Int)<=12->((s= []->False)->(∃(x:Nat),x.le 26/\(0=(x:Int)/\True)
/\List.replicate 256 (D.bool False)=zd5 x/\True)/\∀(x:Nat),x.le 26->26-x<LIM/\((x:Int)<26->0<=(x:Int)/\(x:Int)<26/\(128<=zao zkn x->False/\False/\(([]:List UInt8)= []↔za4 s))
/\((128<=zao zkn x->False)->0<=zao zkn x/\zao zkn x<256/\(zao zkn x).toNat*1<(zd5 x).length/\fits64 ((x:Int)+1)/\∃(y:Nat),y.le 26/\26-y<26-x/\((x:Int)+1=(y:Int)
/\True)/\(zd5 x).set ((zao zkn x).toNat*1) (D.bool (true=true))=zd5 y/\True))/\(((x:Int)<26->False)->(∃(x_1:Nat),(x_1<=s.length/\∀(i:Nat),x_1<=i->i<s.length->97<=zao s i/\zao
s i<=122)/\(s=List.take x_1 s/\True)/\zd5 x=zd5 26/\True)/\∀(x:Nat),(x<=s.length/\∀(i:Nat),x<=i->i<s.length->97<=zao s i/\zao s i<=122)->x<LIM/\(0<(↑(List.take x s).length:Int)
->fits64 ((↑(List.take x s).length:Int)-1)/\0<=(↑(List.take x s).length:Int)-1/\(↑(List.take x s).length:Int)-1<(↑(List.take x s).length:Int)/\0<=zao (List.take x s) ((↑(List.take x s).length:
Int)-1).toNat/\zao (List.take x s) ((↑(List.take x s).length:Int)-1).toNat<256/\(zao (List.take x s) ((↑(List.take x s).length:Int)-1).toNat).toNat*1<(zd5 26).length/\(((zad (zd5 26) ((zao
(List.take x s) ((↑(List.take x s).length:Int)-1).toNat).toNat*1)).asProp->False)->zrl s (List.take x s))/\((((zad (zd5 26) ((zao (List.take x s) ((↑(List.take x s).length:Int)-1).toNat).toNat*
1)).asProp->False)->False)->fits64 ((↑(List.take x s).length:Int)-1)/\(0:Int)<=0/\0<=(↑(List.take x s).length:Int)-1/\(↑(List.take x s).length:Int)-1<=(↑(List.take x s).length:Int)/\∃(y:Nat),
(y<=s.length/\∀(i:Nat),y<=i->i<s.length->97<=zao s i/\zao s i<=122)/\y<x/\(List.take ((↑(List.take x s).length:Int)-1).toNat (List.drop 0 (List.take x s))=List.take y s/\True)/\zd5 26=
zd5 26/\True))/\((0<(↑(List.take x s).length:Int)->False)->zrl s (List.take x s))))/\(s= []->(s= []↔za4 s)))/\(((s.length:Int)<=12->False)->(false=true↔za4 s)))/\(((s= []->False)->
False)->(false=true↔za4 s))):=by intros;kernel_rfl
theorem zw5:∀(k:Int) (a:List UInt8) (la:Prop) (nm:D) (n:Int),zah (ctx (λ_=>none) zdf) 3 (168:FuncId) [V.agg [V.int IntKind.u8 k,V.str a,V.prop la,V.dat (29:TypeId) nm,V.int IntKind.i64
n]] (V.prop (zbo k a la nm.len n))=(((k<1->False)->(10<k->(false=true↔zbo k a la nm.len n))/\((10<k->False)->0<=k/\k<(↑(11:Nat):Int)/\((((zad zb6 k.toNat).fld 4).asProp↔0<(nm.len:
Int))->((nm.len:Int)<=16->(((zad zb6 k.toNat).fld 1).asInt<=n->(n<=((zad zb6 k.toNat).fld 2).asInt->(((cNm (zad zb6 k.toNat)).asProp->False)->((la->False)->(((zad zb6 k.toNat).fld 5).asProp->
((a= []->False)->False↔zbo k a la nm.len n))/\((((zad zb6 k.toNat).fld 5).asProp->False)->((!false)=true↔zbo k a la nm.len n)))/\(((la->False)->False)->(false=true↔zbo k a la nm.len n)))/\
((cNm (zad zb6 k.toNat)).asProp->(((zad zb6 k.toNat).fld 5).asProp->((a= []->False)->False↔zbo k a la nm.len n))/\((((zad zb6 k.toNat).fld 5).asProp->False)->((!false)=true↔zbo k a la nm.len
n))))/\((n<=((zad zb6 k.toNat).fld 2).asInt->False)->(false=true↔zbo k a la nm.len n)))/\((((zad zb6 k.toNat).fld 1).asInt<=n->False)->(false=true↔zbo k a la nm.len n)))/\(((nm.len:Int)<=
16->False)->(false=true↔zbo k a la nm.len n)))/\(((((zad zb6 k.toNat).fld 4).asProp↔0<(nm.len:Int))->False)->(false=true↔zbo k a la nm.len n))))/\(k<1->(false=true↔zbo k a la nm.len
n))):=by intros;kernel_rfl
theorem zeL (x:Nat):(zd5 x).length=256:=by unfold zd5;simp
theorem zpA:List.replicate 256 (D.bool False)=zd5 0:=by
 unfold zd5
 have:(λk:Nat=>D.bool (97<=k/\k<97+0))=λ_=>D.bool False:=funext λk=>congrArg D.bool (propext ⟨λh=>by omega,λh=>h.elim⟩)
 rw [this,List.map_const',List.length_range]
theorem zl1 (y:Nat) {i:Nat} (h:i<256):(zd5 y)[i]? =some (D.bool (97<=i/\i<97+y)):=by
 unfold zd5;rw [List.getElem?_map,List.getElem?_range h];rfl
theorem zrQ (x:Nat) (hx:x<26):(zd5 x).set (97+x) (D.bool True)=zd5 (x+1):=by
 refine List.ext_getElem? λi=> ?_
 rw [List.getElem?_set]
 by_cases hi:i<256
 .rw [zl1 x hi,zl1 (x+1) hi]
  split
  .rw [if_pos (by rw [zeL];omega)]
   exact congrArg (λp=>some (D.bool p)) (propext ⟨λ_=>by omega,λ_=>trivial⟩)
  .exact congrArg (λp=>some (D.bool p)) (propext ⟨λ_=>by omega,λ_=>by omega⟩)
 .rw [if_neg (by omega),List.getElem?_eq_none (by rw [zeL];omega),List.getElem?_eq_none (by rw [zeL];omega)]
theorem zug {n:Nat} (h:n<256):(zad (zd5 26) n).asProp=(97<=n/\n<97+26):=by
 unfold zad zd5
 rw [List.getElem?_map,List.getElem?_range h];rfl
theorem ztP:∀x:Nat,x<26->zao zkn x=97+x:=by decide+kernel
theorem zj6 (s:List UInt8) (i:Nat):0<=zao s i/\zao s i<256:=by
 unfold zao
 have:=((s[i]?).getD 0).toNat_lt
 omega
theorem ziS (s:List UInt8) (x i:Nat) (h:i<x):zao (s.take x) i=zao s i:=by
 unfold zao;rw [List.getElem?_take_of_lt h]
theorem znv (s:List UInt8) (y:Nat):zao (s.drop y) 0=zao s y:=by
 unfold zao;rw [List.getElem?_drop];rfl
theorem zo1 {s:List UInt8} {i:Nat}:(zad (zd5 26) ((zao s i).toNat*1)).asProp↔(97<=zao s i/\zao s i<=122):=by
 have:=zj6 s i
 rw [zug (by omega)]
 omega
theorem zq3 {u:List UInt8} {y:Nat}:u.drop y= []↔u.length<=y:=List.drop_eq_nil_iff
theorem zoU {s u:List UInt8} (hl:u.length<=12) (h:(u= []/\za4 s)\/(0<u.length/\¬za4 s/\¬(97<=zao u (u.length-1)/\zao u (u.length-1)<=122))):zrl s u:=by
 have stop:∀y,y<=u.length->(∀i,i<y->97<=zao u i/\zao u i<=122)->(u.drop y= []↔za4 s):=λy hy hinv=>by
  rw [zq3]
  rcases h with ⟨h1,h2⟩| ⟨h1,h2,h3⟩
  .subst h1;exact ⟨λ_=>h2,λ_=>Nat.zero_le _⟩
  .exact ⟨λhh=>absurd (hinv _ (by omega)) h3,λhh=>absurd hh h2⟩
 unfold zrl
 simp only [imp_false,Classical.not_not,true_and,and_true,zo1,zeL]
 refine ⟨⟨0,⟨by omega,λi hi=>by omega⟩,rfl⟩,λx ⟨hx,hinv⟩=>⟨by unfold LIM;omega,λhlt=> ?_,λhge=>stop x hx hinv⟩⟩
 have hb:=zj6 (u.drop x) 0
 have hd:(u.drop x).length=u.length-x:=List.length_drop
 refine ⟨by omega,hlt,by omega,by omega,by omega,λhn=>stop x hx hinv,λhm=>⟨by omega,by omega,by omega,x+1,⟨by omega,λi hi=> ?_⟩,by omega, ?_⟩⟩
 .by_cases e:i=x
  .subst e;rw [znv] at hm;exact hm
  .exact hinv i (by omega)
 .rw [List.drop_drop,List.take_of_length_le (by rw [List.length_drop,List.length_drop];simp;omega)]
  first|rfl| (congr 1;simp;omega)
theorem zx4 (s:List UInt8):zah (ctx cc0 zdf) 6 102 [.str s] (.prop (za4 s)):=by
 rw [zwZ]
 simp only [imp_false,Classical.not_not,and_true,zo1,zeL]
 have bad:¬(1<=s.length/\s.length<=12)->(false=true↔za4 s):=λhn=>⟨λh=>by simp at h,λh=>absurd ⟨h.out.1,h.out.2.1⟩ hn⟩
 refine ⟨λhne=>⟨λhl=>⟨λ_=>⟨⟨0,Nat.zero_le _,rfl,zpA⟩,λx hx=> ?_⟩,λh=>absurd h hne⟩,λhl=>bad (by omega)⟩,λhe=>bad (by rw [he];simp)⟩
 have hx:x<=26:=hx
 have hpos:0<s.length:=List.length_pos_iff.2 hne
 refine ⟨by unfold LIM;omega,λhlt=> ?_,λhge=> ?_⟩
 .have hb:=ztP x (by omega)
  refine ⟨by omega,hlt,λh=>by omega,λ_=>⟨by omega,by omega,by omega,by omega,x+1,show x+1<=26 by omega,by omega,by omega, ?_⟩⟩
  rw [hb,show ((97:Int)+(x:Int)).toNat*1=97+x by omega]
  exact zrQ x (by omega)
 .have hx26:x=26:=by omega
  subst hx26
  refine ⟨⟨s.length,⟨Nat.le_refl _,λi h1 h2=>by omega⟩,(List.take_of_length_le (Nat.le_refl _)).symm,rfl⟩,λx ⟨hx,hinv⟩=> ?_⟩
  have ht:(s.take x).length=x:=List.length_take_of_le hx
  have hb:=zj6 (s.take x) (((s.take x).length:Int)-1).toNat
  rw [ht] at hb⊢
  have hlast:0<x->zao (s.take x) ((x:Int)-1).toNat=zao s (x-1):=λh=>by
   rw [show ((x:Int)-1).toNat=x-1 by omega,ziS s x (x-1) (by omega)]
  refine ⟨by unfold LIM;omega,λhlt=>⟨by omega,by omega,by omega,hb.1,hb.2,by omega,λhn=> ?_,λhm=>⟨by omega,by omega,by omega,by omega,x-1,⟨by omega,λi h1 h2=> ?_⟩,by omega, ?_⟩⟩,λhge=> ?_⟩
  .have hl:=hlast (by omega)
   rw [hl] at hn
   refine zoU (by omega) (.inr ⟨by omega,zwM (show x-1<s.length by omega) hn, ?_⟩)
   rw [ht,ziS s x (x-1) (by omega)];exact hn
  .by_cases e:i=x-1
   .subst e;rw [hlast (by omega)] at hm;exact hm
   .exact hinv i (by omega) h2
  .rw [List.drop_zero,List.take_take];congr 1;omega
  .have:x=0:=by omega
   subst this
   exact zoU (by simp) (.inl ⟨rfl,⟨by omega,by omega,λi hi=>hinv i (by omega) hi⟩⟩)
theorem fm4:∀k:Int,1<=k->k<=10->(((zad zb6 k.toNat).fld 4).asProp↔(k=1\/k=6\/k=7)):=λk h1 h2=>by
 have:k=1\/k=2\/k=3\/k=4\/k=5\/k=6\/k=7\/k=8\/k=9\/k=10:=by omega
 rcases this with rfl|rfl|rfl|rfl|rfl|rfl|rfl|rfl|rfl|rfl<;>first| (show (true=true↔_);simp;done)| (show (false=true↔_);simp;done)
theorem fm3:∀k:Int,1<=k->k<=10->((cNm (zad zb6 k.toNat)).asProp↔(k=4\/k=5\/k=6\/k=7)):=λk h1 h2=>by
 have:k=1\/k=2\/k=3\/k=4\/k=5\/k=6\/k=7\/k=8\/k=9\/k=10:=by omega
 rcases this with rfl|rfl|rfl|rfl|rfl|rfl|rfl|rfl|rfl|rfl<;>first| (show (true=true↔_);simp;done)| (show (false=true↔_);simp;done)
theorem fm5:∀k:Int,1<=k->k<=10->(((zad zb6 k.toNat).fld 5).asProp↔k=1):=λk h1 h2=>by
 have:k=1\/k=2\/k=3\/k=4\/k=5\/k=6\/k=7\/k=8\/k=9\/k=10:=by omega
 rcases this with rfl|rfl|rfl|rfl|rfl|rfl|rfl|rfl|rfl|rfl<;>first| (show (true=true↔_);simp;done)| (show (false=true↔_);simp;done)
theorem fm1:∀k:Int,1<=k->k<=10->((zad zb6 k.toNat).fld 1).asInt=if k=4 then 1 else 0:=λk h1 h2=>by
 have:k=1\/k=2\/k=3\/k=4\/k=5\/k=6\/k=7\/k=8\/k=9\/k=10:=by omega
 rcases this with rfl|rfl|rfl|rfl|rfl|rfl|rfl|rfl|rfl|rfl<;>rfl
theorem fm2:∀k:Int,1<=k->k<=10->((zad zb6 k.toNat).fld 2).asInt=if k=4 then 2 else if k=10 then 63 else 0:=λk h1 h2=>by
 have:k=1\/k=2\/k=3\/k=4\/k=5\/k=6\/k=7\/k=8\/k=9\/k=10:=by omega
 rcases this with rfl|rfl|rfl|rfl|rfl|rfl|rfl|rfl|rfl|rfl<;>rfl
set_option maxHeartbeats 8000000 in
theorem zya (k:Int) (a:List UInt8) (la:Prop) (nm:D) (n:Int):zah (ctx (λ_=>none) zdf) 3 168 [.agg [.int .u8 k,.str a,.prop la,.dat 29 nm,.int .i64 n]] (.prop (zbo k a la nm.len n)):=by
 rw [zw5]
 simp only [zrd,imp_false,Classical.not_not,Bool.false_eq_true,false_iff,Bool.not_false]
 refine ⟨λh1=>⟨λh2=>by omega,λh2=>⟨by omega,by omega, ?_⟩⟩,λh1=>by omega⟩
 rw [fm1 k (by omega) (by omega),fm2 k (by omega) (by omega)]
 simp only [fm3 k (by omega) (by omega),fm4 k (by omega) (by omega),fm5 k (by omega) (by omega)]
 generalize (a= [])=A at*
 generalize nm.len=m
 have hk:k=1\/k=2\/k=3\/k=4\/k=5\/k=6\/k=7\/k=8\/k=9\/k=10:=by omega
 clear h1 h2
 rcases hk with rfl|rfl|rfl|rfl|rfl|rfl|rfl|rfl|rfl|rfl<;>by_cases hA:A<;>by_cases hla:la<;>simp [hA,hla]<;>omega
end Go.Ev

end

section
open Go.Proofs
namespace Go.Ev
set_option maxRecDepth 100000
set_option maxHeartbeats 4000000
theorem zw2:∀(b:D) (k:Int) (a:List UInt8) (la:Prop) (nm:D) (n:Int),zah (ctx cc2 zdf) 6 (130:FuncId) [V.dat (22:TypeId) b,V.agg [V.int IntKind.u8 k,V.str a,V.prop la,V.dat (29:TypeId) nm,
V.int IntKind.i64 n]] (V.int IntKind.i64 (zcG b b.len k a la nm n))=(True/\((zbo k a la nm.len n->False)->30=zcG b b.len k a la nm n)/\(((zbo k a la nm.len n->False)->False)->(∃(x:Nat),(x<=nm.len/\
∀(i:Nat),i<x->za4 (sAt nm i))/\(0=(x:Int)/\True)/\True)/\∀(x:Nat),(x<=nm.len/\∀(i:Nat),i<x->za4 (sAt nm i))->nm.len-x<LIM/\((x:Int)<(nm.len:Int)->0<=(x:Int)/\(x:Int)<
(nm.len:Int)/\True/\((za4 (sAt nm x)->False)->((0<=(x:Int)->False)->((a= []->False)->True/\((za4 a->False)->4=zcG b b.len k a la nm n)/\(((za4 a->False)->False)->nm.len<=100/\(zbi nm->
5=zcG b b.len k a la nm n)/\((zbi nm->False)->((a= []->False)->zaX b/\((zaM b b.len a->False)->31=zcG b b.len k a la nm n)/\(((zaM b b.len a->False)->False)->0=zcG b b.len k a la nm
n))/\(((a= []->False)->False)->0=zcG b b.len k a la nm n))))/\(((a= []->False)->False)->nm.len<=100/\(zbi nm->5=zcG b b.len k a la nm n)/\((zbi nm->False)->((a= []->False)->zaX b/\
((zaM b b.len a->False)->31=zcG b b.len k a la nm n)/\(((zaM b b.len a->False)->False)->0=zcG b b.len k a la nm n))/\(((a= []->False)->False)->0=zcG b b.len k a la nm n))))/\(0<=(x:Int)->
4=zcG b b.len k a la nm n))/\(((za4 (sAt nm x)->False)->False)->fits64 ((x:Int)+1)/\∃(y:Nat),(y<=nm.len/\∀(i:Nat),i<y->za4 (sAt nm i))/\nm.len-y<nm.len-x/\((x:Int)+1=(y:Int)/\
True)/\True))/\(((x:Int)<(nm.len:Int)->False)->((a= []->False)->True/\((za4 a->False)->4=zcG b b.len k a la nm n)/\(((za4 a->False)->False)->nm.len<=100/\(zbi nm->5=zcG b b.len k a la
nm n)/\((zbi nm->False)->((a= []->False)->zaX b/\((zaM b b.len a->False)->31=zcG b b.len k a la nm n)/\(((zaM b b.len a->False)->False)->0=zcG b b.len k a la nm n))/\(((a= []->False)->
False)->0=zcG b b.len k a la nm n))))/\(((a= []->False)->False)->nm.len<=100/\(zbi nm->5=zcG b b.len k a la nm n)/\((zbi nm->False)->((a= []->False)->zaX b/\((zaM b b.len a->False)->
31=zcG b b.len k a la nm n)/\(((zaM b b.len a->False)->False)->0=zcG b b.len k a la nm n))/\(((a= []->False)->False)->0=zcG b b.len k a la nm n)))))):=by intros;kernel_rfl
theorem zzg:∀(c:D),zah (ctx cc3 zdf) 5 (98:FuncId) [V.dat (22:TypeId) c] (V.tup [V.int IntKind.i64 (zbB c).fst,V.int IntKind.i64 (zbB c).snd])=((32<(c.len:Int)->0=(zbB c).fst/\7=(zbB
c).snd/\True)/\((32<(c.len:Int)->False)->(∃(x:Nat),(x<=c.len/\zbL c (c.len-x) x=zbL c c.len 0)/\(0=(x:Int)/\True)/\True)/\∀(x:Nat),x<=c.len/\zbL c (c.len-x) x=zbL c c.len 0->
c.len-x<LIM/\((x:Int)<(c.len:Int)->0<=(x:Int)/\(x:Int)<(c.len:Int)/\(0:Int)<=0/\0<=(x:Int)/\(x:Int)<=(c.len:Int)/\(zaX (c.sub 0 x)/\(cNm (el c x)).len<=100)/\((zcG (c.sub 0 x)
(c.sub 0 x).len (cK (el c x)) (cA (el c x)) (cL (el c x)) (cNm (el c x)) (cN (el c x))=0->False)->(x:Int)=(zbB c).fst/\zcG (c.sub 0 x) (c.sub 0 x).len (cK (el c x)) (cA (el c x)) (cL (el c x)) (cNm (el c x))
(cN (el c x))=(zbB c).snd/\True)/\(((zcG (c.sub 0 x) (c.sub 0 x).len (cK (el c x)) (cA (el c x)) (cL (el c x)) (cNm (el c x)) (cN (el c x))=0->False)->False)->fits64 ((x:Int)+1)/\∃(y:Nat),(y<=c.len/\
zbL c (c.len-y) y=zbL c c.len 0)/\c.len-y<c.len-x/\((x:Int)+1=(y:Int)/\True)/\True))/\(((x:Int)<(c.len:Int)->False)->0=(zbB c).fst/\0=(zbB c).snd/\True))):=by intros;kernel_rfl
section
variable {c:D} {i:Nat} {k:Int} {a:List UInt8} {la:Prop} {nm:D} {n:Int}
theorem e30 (h:¬zbo k a la nm.len n):zcG c i k a la nm n=30:=by unfold zcG;rw [if_pos h]
theorem e4 (h:zbo k a la nm.len n) (hb:zfB nm\/(a≠ []/\¬za4 a)):zcG c i k a la nm n=4:=by unfold zcG;rw [if_neg (λhn=>hn h),if_pos hb]
theorem e5 (h:zbo k a la nm.len n) (hb:¬(zfB nm\/(a≠ []/\¬za4 a))) (ht:zbi nm):zcG c i k a la nm n=5:=by unfold zcG;rw [if_neg (λhn=>hn h),if_neg hb,if_pos ht]
theorem e31 (h:zbo k a la nm.len n) (hb:¬(zfB nm\/(a≠ []/\¬za4 a))) (ht:¬zbi nm) (ha:a≠ []) (hl:¬zaM c i a):zcG c i k a la nm n=31:=by unfold zcG;rw [if_neg (λhn=>hn h),if_neg hb,if_neg ht,if_pos ⟨ha,hl⟩]
theorem e0 (h:zbo k a la nm.len n) (hb:¬(zfB nm\/(a≠ []/\¬za4 a))) (ht:¬zbi nm) (hl:a= []\/zaM c i a):zcG c i k a la nm n=0:=by
 unfold zcG;rw [if_neg (λhn=>hn h),if_neg hb,if_neg ht,if_neg (λhh=>hl.elim hh.1 hh.2)]
end
theorem zx7 (b:D) (k:Int) (a:List UInt8) (la:Prop) (nm:D) (n:Int) (h:zaX b) (hnl:nm.len<=100):zah (ctx cc2 zdf) 6 130 [.dat 22 b,.agg [.int .u8 k,.str a,.prop la,.dat 29 nm,.int .i64 n]] (.int .i64 (zcG b b.len k a la nm n)):=by
 rw [zw2]
 simp only [imp_false,Classical.not_not,true_and,and_true]
 refine ⟨λhf=>(e30 hf).symm,λhf=>⟨⟨0,⟨by omega,λi hi=>by omega⟩,rfl⟩,λx ⟨hx,hinv⟩=>⟨by unfold LIM;omega,λhlt=>⟨by omega,hlt,λhn=>⟨λh0=>absurd (by omega) h0,λ_=>(e4 hf (.inl ⟨x,by omega,hn⟩)).symm⟩,λhn=>⟨by omega,x+1,⟨by omega,λj hj=> ?_⟩,by omega,by omega⟩⟩,λhge=>⟨λha=>⟨λhn=>(e4 hf (.inr ⟨ha,hn⟩)).symm,λhn=> ?_⟩,λha=> ?_⟩⟩⟩⟩
 .by_cases e:j=x
  .subst e;exact hn
  .exact hinv j (by omega)
 all_goals
  have hA:¬(a≠ []/\¬za4 a):=by first|exact λh=>h.2 hn|exact λh=>h.1 ha
  have hbad:¬(zfB nm\/(a≠ []/\¬za4 a)):=λh=>h.elim (λ⟨j,h1,h2⟩=>h2 (hinv j (by omega))) hA
  exact ⟨hnl,λht=>(e5 hf hbad ht).symm,λht=>⟨λha=>⟨h,λhl=>(e31 hf hbad ht ha hl).symm,λhl=>(e0 hf hbad ht (.inr hl)).symm⟩,λha=>(e0 hf hbad ht (.inl ha)).symm⟩⟩
theorem zjA (l:D) (x:Nat) (hx:x<l.len):zbL l (l.len-x) x=if zg0 l x≠0 then ((x:Int),zg0 l x) else zbL l (l.len-(x+1)) (x+1):=by
 have:l.len-x=(l.len-(x+1))+1:=by omega
 rw [this];rfl
theorem zpx {l:D} {x:Nat} (hl:¬(32:Int)<l.len) (hx:x<l.len) (hinv:zbL l (l.len-x) x=zbL l l.len 0) {e:Int} (he:zg0 l x=e) (hn:e≠0):(zbB l).1=x/\(zbB l).2=e:=by
 have hs:=zjA l x hx
 rw [hinv,if_pos (by rw [he];exact hn),he] at hs
 have:zbB l=((x:Int),e):=by unfold zbB;rw [if_neg (by omega),hs]
 rw [this];exact ⟨rfl,rfl⟩
theorem zud {l:D} {x:Nat} (hx:x<l.len) (hinv:zbL l (l.len-x) x=zbL l l.len 0) (he:zg0 l x=0):zbL l (l.len-(x+1)) (x+1)=zbL l l.len 0:=by
 have hs:=zjA l x hx
 rw [hinv,if_neg (λh=>h he)] at hs
 exact hs.symm
theorem zrO {l:D} {x:Nat} (hl:¬(32:Int)<l.len) (hx:l.len<=x) (hinv:zbL l (l.len-x) x=zbL l l.len 0):(zbB l).1=0/\(zbB l).2=0:=by
 have:l.len-x=0:=by omega
 rw [this] at hinv
 have:zbB l=(0,0):=by unfold zbB;rw [if_neg (by omega),<-hinv];rfl
 rw [this];exact ⟨rfl,rfl⟩
theorem zqy {l:D} (hl:(32:Int)<l.len):(zbB l).1=0/\(zbB l).2=7:=by
 have:zbB l=(0,7):=by unfold zbB;rw [if_pos (by omega)]
 rw [this];exact ⟨rfl,rfl⟩
theorem zmO (c:D) (x:Nat) (h:x<=c.len) (a:List UInt8):zaM (c.sub 0 x) (c.sub 0 x).len a=zaM c x a:=propext (by
 rw [zcI c x h]
 exact ⟨λ⟨⟨k,h1,h2⟩⟩=>⟨k,h1,by rw [zhv c x k h1] at h2;exact h2⟩,λ⟨⟨k,h1,h2⟩⟩=>⟨k,h1,by rw [zhv c x k h1];exact h2⟩⟩)
theorem zul (c:D) (x:Nat) (h:x<=c.len):zcG (c.sub 0 x) (c.sub 0 x).len (cK (el c x)) (cA (el c x)) (cL (el c x)) (cNm (el c x)) (cN (el c x))=zg0 c x:=by
 unfold zg0 zcG
 rw [zmO c x h]
theorem zpM {c:D} (h:zaX c) (x:Nat) (hx:x<=c.len):zaX (c.sub 0 x):=⟨by rw [zcI c x hx];exact Nat.le_trans hx h.out.1,λi hi=>by rw [zcI c x hx] at hi;rw [zhv c x i hi];exact h.out.2 i (by omega)⟩
theorem s98 (c:D) (h:zaX c):zah (ctx cc3 zdf) 5 98 [.dat 22 c] (.tup [.int .i64 (zbB c).1,.int .i64 (zbB c).2]):=by
 have hlen:=h.out.1
 rw [zzg]
 simp only [imp_false,Classical.not_not,true_and,and_true]
 refine ⟨λhl=>by have:=zqy hl;exact ⟨this.1.symm,this.2.symm⟩,λhl=>⟨⟨0,⟨by omega,rfl⟩,rfl⟩,λx ⟨hx,hinv⟩=>⟨by unfold LIM;omega,λhlt=> ?_,λhge=> ?_⟩⟩⟩
 .rw [zul c x (by omega)]
  refine ⟨by omega,hlt,by omega,by omega,by omega,⟨zpM h x (by omega),h.out.2 x (by omega)⟩,λhe=> ?_,λhe=>⟨by omega,x+1,⟨by omega,zud (by omega) hinv he⟩,by omega,by omega⟩⟩
  have:=zpx hl (by omega) hinv rfl he;exact ⟨this.1.symm,this.2.symm⟩
 .have:=zrO hl (by omega) hinv;exact ⟨this.1.symm,this.2.symm⟩
end Go.Ev

end

section
open Go.Proofs
namespace Go.Ev
set_option maxRecDepth 100000
set_option maxHeartbeats 4000000
theorem zh1 {k:Int} {nm:D} {n:Int} {g:GD}:naP k nm n g↔((k=4/\g.sd=n)\/(k=5/\g.ho)\/(k=7/\zdg nm g.ct)\/((k≠4/\k≠5/\k≠7)/\zqt g.tg nm)):=⟨λh=>h.out,λh=>⟨h⟩⟩
theorem zaA {k:Int} {la:Prop} {nm:D} {n:Int} {a b:GD} {i j:Int}:ziH k la nm n a b i j↔((k=1/\idx nm a.rk<idx nm b.rk)\/(k=2/\a.si≠0/\(b.si=0\/a.si<b.si))\/(k=3/\a.si≠0/\(b.si=0\/b.si<a.si))\/(k=8/\sLt a.nm b.nm)\/(k=9/\inB i/\inB j/\i<j)\/
  (k=10/\inB i/\inB j/\zoR i n<zoR j n)\/((k≠1/\k≠2/\k≠3/\k≠8/\k≠9/\k≠10)/\((la/\¬naP k nm n a/\naP k nm n b)\/(¬la/\naP k nm n a/\¬naP k nm n b)))):=⟨λh=>h.out,λh=>⟨h⟩⟩
theorem zbA (c:D) (n:Nat):(za7 c n).length=n:=by simp [za7]
theorem zk3 (c:D) (n:Nat):za7 c (n+1)=za7 c n++ [zk2 c n]:=by unfold za7;rw [List.range_succ,List.map_append];rfl
theorem zp9 {c:D} {x:Nat} (h:x<c.len):(za7 c x++List.replicate (c.len-x) D.nil).set x (zk2 c x)=za7 c (x+1)++List.replicate (c.len-(x+1)) D.nil:=by
 rw [show c.len-x=(c.len-(x+1))+1 by omega,List.replicate_succ,List.set_append_right _ _ (by rw [zbA];exact Nat.le_refl _),zbA,Nat.sub_self,List.set_cons_zero,zk3,List.append_assoc];rfl
theorem zmf {c:D} {n k:Nat} (h:k<n):el (.list (za7 c n)) k=zk2 c k:=by
 unfold el zad za7
 show ((List.map (λi=>zk2 c i) (List.range n))[k]?).getD .nil=_
 rw [List.getElem?_map,List.getElem?_range h];rfl
theorem zl0 {f:Nat->Int} {n x:Nat} (h:x<n) (hs:zcg f (n-x) x=zcg f n 0):(f x≠0->zcg f n 0=(((x:Nat):Int),f x))/\(f x=0->zcg f (n-(x+1)) (x+1)=zcg f n 0):=by
 have hu:zcg f ((n-(x+1))+1) x=if f x≠0 then (((x:Nat):Int),f x) else zcg f (n-(x+1)) (x+1):=rfl
 rw [show n-x=(n-(x+1))+1 by omega,hu] at hs
 constructor
 .intro k;rw [if_pos k] at hs;exact hs.symm
 .intro k;rw [if_neg (λq=>q k)] at hs;exact hs
theorem zue {f:Nat->Int} {n x:Nat} (h:x=n) (hs:zcg f (n-x) x=zcg f n 0):zcg f n 0=(-1,0):=by
 subst h
 rw [Nat.sub_self] at hs
 exact hs.symm
theorem zhq {f g:Nat->Int} {n:Nat} (h:∀k,k<n->f k=g k):∀(m i:Nat),i+m<=n->zcg f m i=zcg g m i
 |0,_,_=>rfl
 |m+1,i,hi=>by unfold zcg;rw [h i (by omega),zhq h m (i+1) (by omega)]
theorem zgz {l:D}:∀(f i:Nat),(zbL l f i).2=0->∀k,i<=k->k<i+f->zg0 l k=0
 |0,i,_,k,h1,h2=>by omega
 |f+1,i,h,k,h1,h2=>by
  unfold zbL at h
  by_cases e:zg0 l i=0
  .rw [if_neg (λq=>q e)] at h
   by_cases q:k=i
   .subst q;exact e
   .exact zgz f (i+1) h k (by omega) (by omega)
  .rw [if_pos e] at h;exact (e h).elim
theorem zfH {c:D} (h:(zbB c).2=0) {x:Nat} (hx:x<c.len):zbo (cK (el c x)) (cA (el c x)) (cL (el c x)) (cNm (el c x)).len (cN (el c x)):=by
 unfold zbB at h
 split at h
 .cases h
 .have:=zgz c.len 0 h x (Nat.zero_le _) (by omega)
  unfold zg0 zcG at this
  by_cases q:zbo (cK (el c x)) (cA (el c x)) (cL (el c x)) (cNm (el c x)).len (cN (el c x))
  .exact q
  .rw [if_pos q] at this;cases this
theorem zre {k:Int} {a:List UInt8} {la:Prop} {m:Nat} {n:Int} (h:zbo k a la m n):k=10->0<=n/\n<=63:=λe=>by
 rcases h.out with h|h|h|h|h|h
 .omega
 .omega
 .omega
 .omega
 .omega
 .exact ⟨h.2.2.1,h.2.2.2.1⟩
theorem zgg {k:Int} {a:List UInt8} {la:Prop} {m:Nat} {n:Int} (h:zbo k a la m n):1<=k/\k<=10:=by
 rcases h.out with h|h|h|h|h|h<;>omega
theorem zhe (g:FuncId) (ts:List TypeId) (ds:List D):idD (.fn g ts ds)=g:=rfl
theorem zpu (r:D) (a b:GD) (i j:Int):zbq (.fn 216 [227] [r]) a b i j=zdk (zkB r a) (zkB r b):=by
 unfold zbq;rw [zhe,if_pos rfl];rfl
theorem zco (m:D) (la:Prop) (a b:GD) (i j:Int):zbq (.fn 220 [184,4] [m,.bool la]) a b i j=zks (zdh m a) (zdh m b) la:=by
 unfold zbq;rw [zhe,if_neg (show ¬(220:Nat)=216 by decide),if_pos rfl];rfl
theorem zjx (a b:GD) (i j:Int):zbq (.fn 184 [] []) a b i j=zgY a.nm b.nm:=by
 unfold zbq;rw [zhe,if_neg (show ¬(184:Nat)=216 by decide),if_neg (show ¬(184:Nat)=220 by decide),if_pos rfl]
open Classical in
theorem zgx (e k:D) (a b:GD) (i j:Int):zbq (.fn 223 [181,80] [e,k]) a b i j=if inB i/\inB j then zdk (zpt k i) (zpt k j) else 0:=by
 unfold zbq;rw [zhe,if_neg (show ¬(223:Nat)=216 by decide),if_neg (show ¬(223:Nat)=220 by decide),if_neg (show ¬(223:Nat)=184 by decide)];rfl
theorem zgy (u c:D) (a b:GD) (i j:Int):zcR (.fn 218 [173,142] [u,c]) a b i j=orZ (zbq u a b i j) (ziJ c a.si b.si):=by
 unfold zcR;rw [zhe,if_pos rfl];rfl
theorem zc2 {g:FuncId} {ts:List TypeId} {ds:List D} (h:g≠218) (a b:GD) (i j:Int):zcR (.fn g ts ds) a b i j=zbq (.fn g ts ds) a b i j:=by unfold zcR;rw [zhe,if_neg h]
theorem zlT (x:D) (g:GD):zdh (.fn 179 [69] [x]) g↔g.sd=cN x:=⟨λh=>by rcases h.out with h|h|h|h|h;exact h.2;all_goals (have:=h.1;cases this),λh=>⟨.inl ⟨rfl,h⟩⟩⟩
theorem zlU (g:GD):zdh (.fn 180 [] []) g↔g.ho:=⟨λh=>by rcases h.out with h|h|h|h|h;(have:=h.1;cases this);exact h.2;all_goals (have:=h.1;cases this),λh=>⟨.inr (.inl ⟨rfl,h⟩)⟩⟩
theorem zlV (x:D) (g:GD):zdh (.fn 181 [69] [x]) g↔zqt g.tg (cNm x):=⟨λh=>by rcases h.out with h|h|h|h|h;(have:=h.1;cases this);(have:=h.1;cases this);exact h.2;all_goals (have:=h.1;cases this),λh=>⟨.inr (.inr (.inl ⟨rfl,h⟩))⟩⟩
theorem zlW (x:D) (g:GD):zdh (.fn 183 [69] [x]) g↔zdg (cNm x) g.ct:=⟨λh=>by rcases h.out with h|h|h|h|h;(have:=h.1;cases this);(have:=h.1;cases this);(have:=h.1;cases this);exact h.2;(have:=h.1;cases this),λh=>⟨.inr (.inr (.inr (.inl ⟨rfl,h⟩)))⟩⟩
theorem zeK (g:GD):zdh (.fn 217 [] []) g↔g.si=0:=⟨λh=>by rcases h.out with h|h|h|h|h;(have:=h.1;cases this);(have:=h.1;cases this);(have:=h.1;cases this);(have:=h.1;cases this);exact h.2,λh=>⟨.inr (.inr (.inr (.inr ⟨rfl,h⟩)))⟩⟩
open Classical in
theorem zh2 {p q la A B:Prop} (h1:A↔((la/\¬p/\q)\/(¬la/\p/\¬q))) (h2:B↔((la/\¬q/\p)\/(¬la/\q/\¬p))):zks p q la=if A then-1 else if B then 1 else 0:=by
 unfold zks
 by_cases hp:p<;>by_cases hq:q<;>by_cases hl:la<;>simp [h1,h2,hp,hq,hl]
open Classical in
theorem zqi {x y u w:Int} {A B:Prop} (h1:A↔(x≠0/\(y=0\/u<w))) (h2:B↔(y≠0/\(x=0\/w<u))) {p q:Prop} (hp:p↔x=0) (hq:q↔y=0) (h0:x=0->y=0->u=w):orZ (zks p q True) (zdk u w)=if A then-1 else if B then 1 else 0:=by
 unfold orZ zks
 by_cases hx:x=0<;>by_cases hy:y=0
 .have:=h0 hx hy
  subst this
  simp [h1,h2,hp,hq,hx,hy,zdk]
 .simp [h1,h2,hp,hq,hx,hy]
 .simp [h1,h2,hp,hq,hx,hy]
 .have e:zdk u w=if A then-1 else if B then 1 else 0:=zhH (h1.trans (by simp [hx,hy])) (h2.trans (by simp [hx,hy]))
  rw [<-e]
  simp [hp,hq,hx,hy]
open Classical in
theorem zrN {k:Int} (h1:1<=k) (h2:k<=10) (s:List UInt8) (la:Prop) (nm:D) (n:Int) (a b:GD) (i j:Int):
  zcR (zbM k s la nm n) a b i j=if ziH k la nm n a b i j then-1 else if ziH k la nm n b a j i then 1 else 0:=by
 have hk:k=1\/k=2\/k=3\/k=4\/k=5\/k=6\/k=7\/k=8\/k=9\/k=10:=by omega
 rcases hk with rfl|rfl|rfl|rfl|rfl|rfl|rfl|rfl|rfl|rfl
 .show zcR (.fn 216 [227] [.fn 215 [29] [nm]]) a b i j=_
  rw [zc2 (by decide),zpu]
  exact zhH (by rw [zaA];simp;exact (Int.ofNat_lt).symm) (by rw [zaA];simp;exact (Int.ofNat_lt).symm)
 .show zcR (.fn 218 [173,142] [.fn 220 [184,4] [.fn 217 [] [],.bool (true=true)],.fn 114 [] []]) a b i j=_
  rw [zgy,zco,show (true=true)=True from eq_true rfl]
  exact zqi (x:=a.si) (y:=b.si) (by rw [zaA];simp) (by rw [zaA];simp) (zeK a) (zeK b) (λh k=>by rw [h,k])
 .show zcR (.fn 218 [173,142] [.fn 220 [184,4] [.fn 217 [] [],.bool (true=true)],.fn 177 [] []]) a b i j=_
  rw [zgy,zco,show (true=true)=True from eq_true rfl]
  exact zqi (x:=a.si) (y:=b.si) (u:=b.si) (w:=a.si) (by rw [zaA];simp) (by rw [zaA];simp) (zeK a) (zeK b) (λh k=>by rw [h,k])
 .show zcR (.fn 220 [184,4] [.fn 179 [69] [xD 4 s la nm n],.bool la]) a b i j=_
  rw [zc2 (by decide),zco]
  have e:∀g,zdh (.fn 179 [69] [xD 4 s la nm n]) g↔naP 4 nm n g:=λg=>(zlT _ g).trans (by rw [zh1];simp;rfl)
  exact zh2 (by rw [zaA,e,e];simp) (by rw [zaA,e,e];simp)
 .show zcR (.fn 220 [184,4] [.fn 180 [] [],.bool la]) a b i j=_
  rw [zc2 (by decide),zco]
  have e:∀g,zdh (.fn 180 [] []) g↔naP 5 nm n g:=λg=>(zlU g).trans (by rw [zh1];simp)
  exact zh2 (by rw [zaA,e,e];simp) (by rw [zaA,e,e];simp)
 .show zcR (.fn 220 [184,4] [.fn 181 [69] [xD 6 s la nm n],.bool la]) a b i j=_
  rw [zc2 (by decide),zco]
  have e:∀g,zdh (.fn 181 [69] [xD 6 s la nm n]) g↔naP 6 nm n g:=λg=>(zlV _ g).trans (by rw [zh1];simp;rfl)
  exact zh2 (by rw [zaA,e,e];simp) (by rw [zaA,e,e];simp)
 .show zcR (.fn 220 [184,4] [.fn 183 [69] [xD 7 s la nm n],.bool la]) a b i j=_
  rw [zc2 (by decide),zco]
  have e:∀g,zdh (.fn 183 [69] [xD 7 s la nm n]) g↔naP 7 nm n g:=λg=>(zlW _ g).trans (by rw [zh1];simp;rfl)
  exact zh2 (by rw [zaA,e,e];simp) (by rw [zaA,e,e];simp)
 .show zcR (.fn 184 [] []) a b i j=_
  rw [zc2 (by decide),zjx]
  exact ztb (by rw [zaA];simp) (by rw [zaA];simp)
 .show zcR (.fn 223 [181,80] [.fn 222 [] [],.fn 187 [] []]) a b i j=_
  rw [zc2 (by decide),zgx]
  by_cases q:inB i/\inB j
  .rw [if_pos q]
   exact zhH (by rw [zaA];simp [q.1,q.2];rfl) (by rw [zaA];simp [q.1,q.2];rfl)
  .rw [if_neg q,if_neg (by rw [zaA];simp;exact λx y=>absurd ⟨x,y⟩ q),if_neg (by rw [zaA];simp;exact λx y=>absurd ⟨y,x⟩ q)]
 .show zcR (.fn 223 [181,80] [.fn 222 [] [],.fn 188 [69] [xD 10 s la nm n]]) a b i j=_
  rw [zc2 (by decide),zgx]
  by_cases q:inB i/\inB j
  .rw [if_pos q]
   exact zhH (by rw [zaA];simp [q.1,q.2];rfl) (by rw [zaA];simp [q.1,q.2];rfl)
  .rw [if_neg q,if_neg (by rw [zaA];simp;exact λx y=>absurd ⟨x,y⟩ q),if_neg (by rw [zaA];simp;exact λx y=>absurd ⟨y,x⟩ q)]
theorem zvq {c:D} (h:(zbB c).2=0) {x:Nat} (hx:x<c.len) (a b:GD) (i j:Int):zne (zk2 c x) a b i j=clE c a b i j x:=by
 have hf:=zgg (zfH h hx)
 show zle (cA (el c x)) (zbM _ _ _ _ _) a b i j=_
 unfold zle clE clZ
 rw [zrN hf.1 hf.2]
theorem zt1 {k:Int} {s:List UInt8} {la:Prop} {nm:D} {n:Int} (hm:nm.len<=100) (hn:k=10->0<=n/\n<=63) (h1:1<=k) (h2:k<=10):zt0 (zbM k s la nm n):=by
 have hk:k=1\/k=2\/k=3\/k=4\/k=5\/k=6\/k=7\/k=8\/k=9\/k=10:=by omega
 rcases hk with rfl|rfl|rfl|rfl|rfl|rfl|rfl|rfl|rfl|rfl
 .exact ⟨.inl ⟨.inl ⟨.fn 215 [29] [nm],rfl,⟨nm,rfl,hm⟩⟩⟩⟩
 .exact ⟨.inr ⟨zkt (true=true) (.fn 217 [] []),.fn 114 [] [],rfl,⟨.inr (.inl ⟨_,_,rfl,⟨.inr (.inr (.inr (.inr rfl)))⟩⟩)⟩,⟨.inl rfl⟩⟩⟩
 .exact ⟨.inr ⟨zkt (true=true) (.fn 217 [] []),.fn 177 [] [],rfl,⟨.inr (.inl ⟨_,_,rfl,⟨.inr (.inr (.inr (.inr rfl)))⟩⟩)⟩,⟨.inr rfl⟩⟩⟩
 .exact ⟨.inl ⟨.inr (.inl ⟨_,_,rfl,⟨.inl ⟨_,rfl⟩⟩⟩)⟩⟩
 .exact ⟨.inl ⟨.inr (.inl ⟨_,_,rfl,⟨.inr (.inl rfl)⟩⟩)⟩⟩
 .exact ⟨.inl ⟨.inr (.inl ⟨_,_,rfl,⟨.inr (.inr (.inl ⟨_,rfl,hm⟩))⟩⟩)⟩⟩
 .exact ⟨.inl ⟨.inr (.inl ⟨_,_,rfl,⟨.inr (.inr (.inr (.inl ⟨_,rfl,hm⟩)))⟩⟩)⟩⟩
 .exact ⟨.inl ⟨.inr (.inr (.inl rfl))⟩⟩
 .exact ⟨.inl ⟨.inr (.inr (.inr ⟨_,rfl,⟨.inl rfl⟩⟩))⟩⟩
 .exact ⟨.inl ⟨.inr (.inr (.inr ⟨_,rfl,⟨.inr ⟨_,rfl,hn rfl⟩⟩⟩))⟩⟩
theorem zry {c:D} (hs:zaX c) (h:(zbB c).2=0) {x:Nat} (hx:x<c.len):okA (zk2 c x):=
 ⟨_,_,rfl,zt1 (hs.out.2 x hx) (zre (zfH h hx)) (zgg (zfH h hx)).1 (zgg (zfH h hx)).2⟩
end Go.Ev

end

section
open Go.Proofs
namespace Go.Ev
set_option maxRecDepth 100000
set_option maxHeartbeats 4000000
theorem zzd:∀(c:D),zah (ctx cn0 zj9) 5 (93:FuncId) [V.dat (22:TypeId) c] (V.dat (127:TypeId) (D.list (za7 c c.len)))=(0<=(c.len:Int)/\(c.len:Int)<=(c.len:Int)/\(c.len:Int)<=16777216/\
8*c.len<=281474976710656/\(∃(x:Nat),x.le c.len/\(0=(x:Int)/\True)/\List.replicate c.len D.nil=za7 c x++List.replicate (c.len-x) D.nil/\True)/\∀(x:Nat),x.le c.len->c.len-x<LIM/\((x:
Int)<(c.len:Int)->0<=(x:Int)/\(x:Int)<(c.len:Int)/\True/\True/\0<=(x:Int)/\(x:Int)<(c.len:Int)/\x<(za7 c x++List.replicate (c.len-x) D.nil).length/\fits64 ((x:Int)+1)/\∃(y:
Nat),y.le c.len/\c.len-y<c.len-x/\((x:Int)+1=(y:Int)/\True)/\(za7 c x++List.replicate (c.len-x) D.nil).set x (zg9 (cA (el c x)) (zbM (cK (el c x)) (cA (el c x)) (cL (el c x)) (cNm (el c x))
(cN (el c x))))=za7 c y++List.replicate (c.len-y) D.nil/\True)/\(((x:Int)<(c.len:Int)->False)->0+c.len<=(za7 c x++List.replicate (c.len-x) D.nil).length/\D.list (List.take c.len (za7 c x
++List.replicate (c.len-x) D.nil))=D.list (za7 c c.len))):=by intros;kernel_rfl
theorem zzc:∀(ts:D) (a b:GD) (i j:Int) (f:Nat->Int),zah (zbm cm0 cF4 (zpy f)) 3 (92:FuncId) [V.dat (127:TypeId) ts,pV a i,pV b j] (V.tup [V.int IntKind.i64 (zcg f ts.len 0).fst,V.int
IntKind.i64 (zcg f ts.len 0).snd])=((∃(x:Nat),(x<=ts.len/\zcg f (ts.len-x) x=zcg f ts.len 0)/\(0=(x:Int)/\True)/\True)/\∀(x:Nat),x<=ts.len/\zcg f (ts.len-x) x=zcg f ts.len 0->ts.len-
x<LIM/\((x:Int)<(ts.len:Int)->0<=(x:Int)/\(x:Int)<(ts.len:Int)/\(okA (el ts x)/\a.tg.len<=100/\b.tg.len<=100)/\((zne (el ts x) a b i j=0->False)->(x:Int)=(zcg f ts.len 0).fst/\zne
(el ts x) a b i j=(zcg f ts.len 0).snd/\True)/\(((zne (el ts x) a b i j=0->False)->False)->fits64 ((x:Int)+1)/\∃(y:Nat),(y<=ts.len/\zcg f (ts.len-y) y=zcg f ts.len 0)/\ts.len-y<ts.len-x
/\((x:Int)+1=(y:Int)/\True)/\True))/\(((x:Int)<(ts.len:Int)->False)->(-1)=(zcg f ts.len 0).fst/\0=(zcg f ts.len 0).snd/\True)):=by intros;kernel_rfl
theorem zzb:∀(c:D),zah (ctx cc4 zj9) 4 (91:FuncId) [V.dat (22:TypeId) c] (V.prop ((zbB c).snd=0))=(zaX c/\((zbB c).snd=0↔(zbB c).snd=0)):=by intros;kernel_rfl
theorem s93 (c:D) (h:c.len<=100):zah (ctx cn0 zj9) 5 93 [.dat 22 c] (.dat 127 (.list (za7 c c.len))):=by
 rw [zzd]
 refine ⟨by omega,Int.le_refl _,by omega,by omega,⟨0,Nat.zero_le _,⟨rfl,trivial⟩,rfl,trivial⟩,λx hx=>⟨zh0 h,λk=>⟨by omega,k,trivial,trivial,by omega,k, ?_,by omega,x+1, ?_,by omega,⟨by omega,trivial⟩,zp9 (by omega),trivial⟩,λk=> ?_⟩⟩
 .rw [List.length_append,zbA,List.length_replicate];omega
 .show x+1<=c.len;omega
 .have e:=zgT hx k
  subst e
  rw [Nat.sub_self,List.replicate_zero,List.append_nil,zbA]
  exact ⟨by omega,by rw [List.take_of_length_le (by rw [zbA];exact Nat.le_refl _)]⟩
theorem s92 (ts:D) (a b:GD) (i j:Int) (h:ts.len<=100) (ho:∀k,k<ts.len->okA (el ts k)) (ha:a.tg.len<=100) (hb:b.tg.len<=100):
  zah (zbm cm0 cF4 (zpy (λk=>zne (el ts k) a b i j))) 3 92 [.dat 127 ts,pV a i,pV b j] (.tup [.int .i64 (zcg (λk=>zne (el ts k) a b i j) ts.len 0).1,.int .i64 (zcg (λk=>zne (el ts k) a b i j) ts.len 0).2]):=by
 rw [zzc]
 refine ⟨⟨0,⟨Nat.zero_le _,rfl⟩,⟨rfl,trivial⟩,trivial⟩,λx hx=>⟨zh0 h,λk=>⟨by omega,k,⟨ho x (by omega),ha,hb⟩,λe=> ?_,λe=>⟨by omega,x+1,⟨by omega,(zl0 (by omega) hx.2).2 (Classical.byContradiction e)⟩,by omega,⟨by omega,trivial⟩,trivial⟩⟩,λk=> ?_⟩⟩
 .rw [(zl0 (by omega) hx.2).1 e];exact ⟨rfl,rfl,trivial⟩
 .rw [zue (zgT hx.1 k) hx.2];exact ⟨rfl,rfl,trivial⟩
theorem s91 (c:D) (h:zaX c):zah (ctx cc4 zj9) 4 91 [.dat 22 c] (.prop ((zbB c).2=0)):=by rw [zzb];exact ⟨h,Iff.rfl⟩
theorem zfN (l:List D):(za6 l).asList=l:=by cases l<;>rfl
end Go.Ev

end
