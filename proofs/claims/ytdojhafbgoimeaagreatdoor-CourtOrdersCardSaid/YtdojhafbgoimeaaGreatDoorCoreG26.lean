/- Part of the proof. -/
import Derived.Test.YtdojhafbgoimeaaGreatDoorCoreG24
import Derived.Test.YtdojhafbgoimeaaGreatDoorCoreG22
import Derived.Test.YtdojhafbgoimeaaGreatDoorCoreCcC

section
open Go.Proofs
namespace Go.Ev
set_option maxRecDepth 100000
set_option maxHeartbeats 4000000
theorem zcL {k:Int} {nm:D} {n:Int} {g:GD}:naP k nm n g↔((k=4/\g.sd=n)\/(k=5/\g.ho)\/(k=7/\zbk nm g.ct)\/((k≠4/\k≠5/\k≠7)/\zok g.tg nm)):=⟨λh=>h.out,λh=>⟨h⟩⟩
theorem zah {k:Int} {la:Prop} {nm:D} {n:Int} {a b:GD} {i j:Int}:zb5 k la nm n a b i j↔((k=1/\idx nm a.rk<idx nm b.rk)\/(k=2/\a.si≠0/\(b.si=0\/a.si<b.si))\/(k=3/\a.si≠0/\(b.si=0\/b.si<a.si))\/(k=8/\sLt a.nm b.nm)\/(k=9/\inB i/\inB j/\i<j)\/
  (k=10/\inB i/\inB j/\znT i n<znT j n)\/((k≠1/\k≠2/\k≠3/\k≠8/\k≠9/\k≠10)/\((la/\¬naP k nm n a/\naP k nm n b)\/(¬la/\naP k nm n a/\¬naP k nm n b)))):=⟨λh=>h.out,λh=>⟨h⟩⟩
theorem zc9 {p:Int}:inB p↔(0<=p/\p<=63):=⟨λh=>⟨h.out.1,by have:=h.out.2;omega⟩,λh=>⟨h.1,by omega⟩⟩
theorem za7 (c:D) (n:Nat):(zaG c n).length=n:=by simp [zaG]
theorem zkR (c:D) (n:Nat):zaG c (n+1)=zaG c n++ [zlo c n]:=by unfold zaG;rw [List.range_succ,List.map_append];rfl
theorem zqh {c:D} {x:Nat} (h:x<c.len):(zaG c x++List.replicate (c.len-x) D.nil).set x (zlo c x)=zaG c (x+1)++List.replicate (c.len-(x+1)) D.nil:=by
 rw [show c.len-x=(c.len-(x+1))+1 by omega,List.replicate_succ,List.set_append_right _ _ (by rw [za7];exact Nat.le_refl _),za7,Nat.sub_self,List.set_cons_zero,zkR,List.append_assoc];rfl
theorem zgv {c:D} {n k:Nat} (h:k<n):el (.list (zaG c n)) k=zlo c k:=by
 unfold el zai zaG
 show ((List.map (λi=>zlo c i) (List.range n))[k]?).getD .nil=_
 rw [List.getElem?_map,List.getElem?_range h];rfl
theorem ziH {f:Nat->Int} {n x:Nat} (h:x<n) (hs:zaM f (n-x) x=zaM f n 0):(f x≠0->zaM f n 0=(((x:Nat):Int),f x))/\(f x=0->zaM f (n-(x+1)) (x+1)=zaM f n 0):=by
 have hu:zaM f ((n-(x+1))+1) x=if f x≠0 then (((x:Nat):Int),f x) else zaM f (n-(x+1)) (x+1):=rfl
 rw [show n-x=(n-(x+1))+1 by omega,hu] at hs
 constructor
 .intro k;rw [if_pos k] at hs;exact hs.symm
 .intro k;rw [if_neg (λq=>q k)] at hs;exact hs
theorem zrm {f:Nat->Int} {n x:Nat} (h:x=n) (hs:zaM f (n-x) x=zaM f n 0):zaM f n 0=(-1,0):=by
 subst h
 rw [Nat.sub_self] at hs
 exact hs.symm
theorem zes {f g:Nat->Int} {n:Nat} (h:∀k,k<n->f k=g k):∀(m i:Nat),i+m<=n->zaM f m i=zaM g m i
 |0,_,_=>rfl
 |m+1,i,hi=>by unfold zaM;rw [h i (by omega),zes h m (i+1) (by omega)]
theorem zkF {l:D}:∀(f i:Nat),(zbr l f i).2=0->∀k,i<=k->k<i+f->zdI l k=0
 |0,i,_,k,h1,h2=>by omega
 |f+1,i,h,k,h1,h2=>by
  unfold zbr at h
  by_cases e:zdI l i=0
  .rw [if_neg (λq=>q e)] at h
   by_cases q:k=i
   .subst q;exact e
   .exact zkF f (i+1) h k (by omega) (by omega)
  .rw [if_pos e] at h;exact (e h).elim
theorem zfj {c:D} (h:(zaK c).2=0) {x:Nat} (hx:x<c.len):zay (cK (el c x)) (cA (el c x)) (cL (el c x)) (cNm (el c x)).len (cN (el c x)):=by
 unfold zaK at h
 split at h
 .cases h
 .have:=zkF c.len 0 h x (Nat.zero_le _) (by omega)
  unfold zdI zcH at this
  by_cases q:zay (cK (el c x)) (cA (el c x)) (cL (el c x)) (cNm (el c x)).len (cN (el c x))
  .exact q
  .rw [if_pos q] at this;cases this
theorem zl2 {k:Int} {a:List UInt8} {la:Prop} {m:Nat} {n:Int} (h:zay k a la m n):k=10->0<=n/\n<=63:=λe=>by
 rcases h.out with h|h|h|h|h|h
 .omega
 .omega
 .omega
 .omega
 .omega
 .exact ⟨h.2.2.1,h.2.2.2.1⟩
theorem zha {k:Int} {a:List UInt8} {la:Prop} {m:Nat} {n:Int} (h:zay k a la m n):1<=k/\k<=10:=by
 rcases h.out with h|h|h|h|h|h<;>omega
theorem zhX (g:FuncId) (ts:List TypeId) (ds:List D):idD (.fn g ts ds)=g:=rfl
theorem zrg (r:D) (a b:GD) (i j:Int):zby (.fn 216 [227] [r]) a b i j=zdN (zkZ r a) (zkZ r b):=by
 unfold zby;rw [zhX,if_pos rfl];rfl
theorem zcE (m:D) (la:Prop) (a b:GD) (i j:Int):zby (.fn 220 [184,4] [m,.bool la]) a b i j=zk5 (zdK m a) (zdK m b) la:=by
 unfold zby;rw [zhX,if_neg (show¬(220:Nat)=216 by decide),if_pos rfl];rfl
theorem zkc (a b:GD) (i j:Int):zby (.fn 184 [] []) a b i j=zhL a.nm b.nm:=by
 unfold zby;rw [zhX,if_neg (show¬(184:Nat)=216 by decide),if_neg (show¬(184:Nat)=220 by decide),if_pos rfl]
open Classical in
theorem zht (e k:D) (a b:GD) (i j:Int):zby (.fn 223 [181,80] [e,k]) a b i j=if inB i/\inB j then zdN (zoK k i) (zoK k j) else 0:=by
 unfold zby;rw [zhX,if_neg (show¬(223:Nat)=216 by decide),if_neg (show¬(223:Nat)=220 by decide),if_neg (show¬(223:Nat)=184 by decide)];rfl
theorem zg6 (u c:D) (a b:GD) (i j:Int):zdh (.fn 218 [173,142] [u,c]) a b i j=orZ (zby u a b i j) (zjr c a.si b.si):=by
 unfold zdh;rw [zhX,if_pos rfl];rfl
theorem zdD {g:FuncId} {ts:List TypeId} {ds:List D} (h:g≠218) (a b:GD) (i j:Int):zdh (.fn g ts ds) a b i j=zby (.fn g ts ds) a b i j:=by unfold zdh;rw [zhX,if_neg h]
theorem zmT (x:D) (g:GD):zdK (.fn 179 [69] [x]) g↔g.sd=cN x:=⟨λh=>by rcases h.out with h|h|h|h|h;exact h.2;all_goals (have:=h.1;cases this),λh=>⟨.inl ⟨rfl,h⟩⟩⟩
theorem zm6 (g:GD):zdK (.fn 180 [] []) g↔g.ho:=⟨λh=>by rcases h.out with h|h|h|h|h;(have:=h.1;cases this);exact h.2;all_goals (have:=h.1;cases this),λh=>⟨.inr (.inl ⟨rfl,h⟩)⟩⟩
theorem zmo (x:D) (g:GD):zdK (.fn 181 [69] [x]) g↔zok g.tg (cNm x):=⟨λh=>by rcases h.out with h|h|h|h|h;(have:=h.1;cases this);(have:=h.1;cases this);exact h.2;all_goals (have:=h.1;cases this),λh=>⟨.inr (.inr (.inl ⟨rfl,h⟩))⟩⟩
theorem zmG (x:D) (g:GD):zdK (.fn 183 [69] [x]) g↔zbk (cNm x) g.ct:=⟨λh=>by rcases h.out with h|h|h|h|h;(have:=h.1;cases this);(have:=h.1;cases this);(have:=h.1;cases this);exact h.2;(have:=h.1;cases this),λh=>⟨.inr (.inr (.inr (.inl ⟨rfl,h⟩)))⟩⟩
theorem zfo (g:GD):zdK (.fn 217 [] []) g↔g.si=0:=⟨λh=>by rcases h.out with h|h|h|h|h;(have:=h.1;cases this);(have:=h.1;cases this);(have:=h.1;cases this);(have:=h.1;cases this);exact h.2,λh=>⟨.inr (.inr (.inr (.inr ⟨rfl,h⟩)))⟩⟩
open Classical in
theorem zim {p q la A B:Prop} (h1:A↔((la/\¬p/\q)\/(¬la/\p/\¬q))) (h2:B↔((la/\¬q/\p)\/(¬la/\q/\¬p))):zk5 p q la=if A then-1 else if B then 1 else 0:=by
 unfold zk5
 by_cases hp:p<;>by_cases hq:q<;>by_cases hl:la<;>simp [h1,h2,hp,hq,hl]
open Classical in
theorem zoC {x y u w:Int} {A B:Prop} (h1:A↔(x≠0/\(y=0\/u<w))) (h2:B↔(y≠0/\(x=0\/w<u))) {p q:Prop} (hp:p↔x=0) (hq:q↔y=0) (h0:x=0->y=0->u=w):orZ (zk5 p q True) (zdN u w)=if A then-1 else if B then 1 else 0:=by
 unfold orZ zk5
 by_cases hx:x=0<;>by_cases hy:y=0
 .have:=h0 hx hy
  subst this
  simp [h1,h2,hp,hq,hx,hy,zdN]
 .simp [h1,h2,hp,hq,hx,hy]
 .simp [h1,h2,hp,hq,hx,hy]
 .have e:zdN u w=if A then-1 else if B then 1 else 0:=zjf (h1.trans (by simp [hx,hy])) (h2.trans (by simp [hx,hy]))
  rw [<-e]
  simp [hp,hq,hx,hy]
theorem ztm (p n:Int):(p*(n+n+1)+n).tmod 64=znT p n:=by unfold znT;rw [show n+n+1=2*n+1 by omega]
open Classical in
theorem zsN {k:Int} (h1:1<=k) (h2:k<=10) (s:List UInt8) (la:Prop) (nm:D) (n:Int) (a b:GD) (i j:Int):
  zdh (zbY k s la nm n) a b i j=if zb5 k la nm n a b i j then-1 else if zb5 k la nm n b a j i then 1 else 0:=by
 have hk:k=1\/k=2\/k=3\/k=4\/k=5\/k=6\/k=7\/k=8\/k=9\/k=10:=by omega
 rcases hk with rfl|rfl|rfl|rfl|rfl|rfl|rfl|rfl|rfl|rfl
 .show zdh (.fn 216 [227] [.fn 215 [29] [nm]]) a b i j=_
  rw [zdD (by decide),zrg]
  exact zjf (by rw [zah];simp;exact (Int.ofNat_lt).symm) (by rw [zah];simp;exact (Int.ofNat_lt).symm)
 .show zdh (.fn 218 [173,142] [.fn 220 [184,4] [.fn 217 [] [],.bool (true=true)],.fn 114 [] []]) a b i j=_
  rw [zg6,zcE,show (true=true)=True from eq_true rfl]
  exact zoC (x:=a.si) (y:=b.si) (by rw [zah];simp) (by rw [zah];simp) (zfo a) (zfo b) (λh k=>by rw [h,k])
 .show zdh (.fn 218 [173,142] [.fn 220 [184,4] [.fn 217 [] [],.bool (true=true)],.fn 177 [] []]) a b i j=_
  rw [zg6,zcE,show (true=true)=True from eq_true rfl]
  exact zoC (x:=a.si) (y:=b.si) (u:=b.si) (w:=a.si) (by rw [zah];simp) (by rw [zah];simp) (zfo a) (zfo b) (λh k=>by rw [h,k])
 .show zdh (.fn 220 [184,4] [.fn 179 [69] [xD 4 s la nm n],.bool la]) a b i j=_
  rw [zdD (by decide),zcE]
  have e:∀g,zdK (.fn 179 [69] [xD 4 s la nm n]) g↔naP 4 nm n g:=λg=>(zmT _ g).trans (by rw [zcL];simp;rfl)
  exact zim (by rw [zah,e,e];simp) (by rw [zah,e,e];simp)
 .show zdh (.fn 220 [184,4] [.fn 180 [] [],.bool la]) a b i j=_
  rw [zdD (by decide),zcE]
  have e:∀g,zdK (.fn 180 [] []) g↔naP 5 nm n g:=λg=>(zm6 g).trans (by rw [zcL];simp)
  exact zim (by rw [zah,e,e];simp) (by rw [zah,e,e];simp)
 .show zdh (.fn 220 [184,4] [.fn 181 [69] [xD 6 s la nm n],.bool la]) a b i j=_
  rw [zdD (by decide),zcE]
  have e:∀g,zdK (.fn 181 [69] [xD 6 s la nm n]) g↔naP 6 nm n g:=λg=>(zmo _ g).trans (by rw [zcL];simp;rfl)
  exact zim (by rw [zah,e,e];simp) (by rw [zah,e,e];simp)
 .show zdh (.fn 220 [184,4] [.fn 183 [69] [xD 7 s la nm n],.bool la]) a b i j=_
  rw [zdD (by decide),zcE]
  have e:∀g,zdK (.fn 183 [69] [xD 7 s la nm n]) g↔naP 7 nm n g:=λg=>(zmG _ g).trans (by rw [zcL];simp;rfl)
  exact zim (by rw [zah,e,e];simp) (by rw [zah,e,e];simp)
 .show zdh (.fn 184 [] []) a b i j=_
  rw [zdD (by decide),zkc]
  exact zuj (by rw [zah];simp) (by rw [zah];simp)
 .show zdh (.fn 223 [181,80] [.fn 222 [] [],.fn 187 [] []]) a b i j=_
  rw [zdD (by decide),zht]
  by_cases q:inB i/\inB j
  .rw [if_pos q]
   exact zjf (by rw [zah];simp [q.1,q.2];rfl) (by rw [zah];simp [q.1,q.2];rfl)
  .rw [if_neg q,if_neg (by rw [zah];simp;exact λx y=>absurd ⟨x,y⟩ q),if_neg (by rw [zah];simp;exact λx y=>absurd ⟨y,x⟩ q)]
 .show zdh (.fn 223 [181,80] [.fn 222 [] [],.fn 188 [69] [xD 10 s la nm n]]) a b i j=_
  rw [zdD (by decide),zht]
  by_cases q:inB i/\inB j
  .rw [if_pos q]
   exact zjf (by rw [zah];simp [q.1,q.2];rfl) (by rw [zah];simp [q.1,q.2];rfl)
  .rw [if_neg q,if_neg (by rw [zah];simp;exact λx y=>absurd ⟨x,y⟩ q),if_neg (by rw [zah];simp;exact λx y=>absurd ⟨y,x⟩ q)]
theorem ztl {c:D} (h:(zaK c).2=0) {x:Nat} (hx:x<c.len) (a b:GD) (i j:Int):zoj (zlo c x) a b i j=clE c a b i j x:=by
 have hf:=zha (zfj h hx)
 show zmX (cA (el c x)) (zbY _ _ _ _ _) a b i j=_
 unfold zmX clE clZ
 rw [zsN hf.1 hf.2]
theorem zuW {k:Int} {s:List UInt8} {la:Prop} {nm:D} {n:Int} (hm:nm.len<=100) (hn:k=10->0<=n/\n<=63) (h1:1<=k) (h2:k<=10):zug (zbY k s la nm n):=by
 have hk:k=1\/k=2\/k=3\/k=4\/k=5\/k=6\/k=7\/k=8\/k=9\/k=10:=by omega
 rcases hk with rfl|rfl|rfl|rfl|rfl|rfl|rfl|rfl|rfl|rfl
 .exact ⟨.inl ⟨.inl ⟨.fn 215 [29] [nm],rfl,⟨nm,rfl,hm⟩⟩⟩⟩
 .exact ⟨.inr ⟨zlc (true=true) (.fn 217 [] []),.fn 114 [] [],rfl,⟨.inr (.inl ⟨_,_,rfl,⟨.inr (.inr (.inr (.inr rfl)))⟩⟩)⟩,⟨.inl rfl⟩⟩⟩
 .exact ⟨.inr ⟨zlc (true=true) (.fn 217 [] []),.fn 177 [] [],rfl,⟨.inr (.inl ⟨_,_,rfl,⟨.inr (.inr (.inr (.inr rfl)))⟩⟩)⟩,⟨.inr rfl⟩⟩⟩
 .exact ⟨.inl ⟨.inr (.inl ⟨_,_,rfl,⟨.inl ⟨_,rfl⟩⟩⟩)⟩⟩
 .exact ⟨.inl ⟨.inr (.inl ⟨_,_,rfl,⟨.inr (.inl rfl)⟩⟩)⟩⟩
 .exact ⟨.inl ⟨.inr (.inl ⟨_,_,rfl,⟨.inr (.inr (.inl ⟨_,rfl,hm⟩))⟩⟩)⟩⟩
 .exact ⟨.inl ⟨.inr (.inl ⟨_,_,rfl,⟨.inr (.inr (.inr (.inl ⟨_,rfl,hm⟩)))⟩⟩)⟩⟩
 .exact ⟨.inl ⟨.inr (.inr (.inl rfl))⟩⟩
 .exact ⟨.inl ⟨.inr (.inr (.inr ⟨_,rfl,⟨.inl rfl⟩⟩))⟩⟩
 .exact ⟨.inl ⟨.inr (.inr (.inr ⟨_,rfl,⟨.inr ⟨_,rfl,hn rfl⟩⟩⟩))⟩⟩
theorem zmw {c:D} (hs:zan c) (h:(zaK c).2=0) {x:Nat} (hx:x<c.len):okA (zlo c x):=
 ⟨_,_,rfl,zuW (hs.out.2 x hx) (zl2 (zfj h hx)) (zha (zfj h hx)).1 (zha (zfj h hx)).2⟩
end Go.Ev

end

section
open Go.Proofs
namespace Go.Ev
set_option maxRecDepth 100000
set_option maxHeartbeats 4000000
theorem zzy:∀(c:D),zac (ctx cn0 zb0) 5 (93:FuncId) [V.dat (22:TypeId) c] (V.dat (127:TypeId) (D.list (zaG c c.len)))=(0<=(c.len:Int)/\(c.len:Int)<=(c.len:Int)/\(c.len:Int)<=16777216/\
8*c.len<=281474976710656/\(∃(x:Nat),x.le c.len/\(0=(x:Int)/\True)/\List.replicate c.len D.nil=zaG c x++List.replicate (c.len-x) D.nil/\True)/\∀(x:Nat),x.le c.len->c.len-x<LIM/\((x:
Int)<(c.len:Int)->0<=(x:Int)/\(x:Int)<(c.len:Int)/\True/\True/\0<=(x:Int)/\(x:Int)<(c.len:Int)/\x<(zaG c x++List.replicate (c.len-x) D.nil).length/\fits64 ((x:Int)+1)/\∃(y:
Nat),y.le c.len/\c.len-y<c.len-x/\((x:Int)+1=(y:Int)/\True)/\(zaG c x++List.replicate (c.len-x) D.nil).set x (zh8 (cA (el c x)) (zbY (cK (el c x)) (cA (el c x)) (cL (el c x)) (cNm (el c x))
(cN (el c x))))=zaG c y++List.replicate (c.len-y) D.nil/\True)/\(((x:Int)<(c.len:Int)->False)->0+c.len<=(zaG c x++List.replicate (c.len-x) D.nil).length/\D.list (List.take c.len (zaG c x
++List.replicate (c.len-x) D.nil))=D.list (zaG c c.len))):=by intros;kernel_rfl
theorem zAd:∀(ts:D) (a b:GD) (i j:Int) (f:Nat->Int),zac (zbs cm0 cF4 (zh0 f)) 3 (92:FuncId) [V.dat (127:TypeId) ts,pV a i,pV b j] (V.tup [V.int IntKind.i64 (zaM f ts.len 0).fst,V.int
IntKind.i64 (zaM f ts.len 0).snd])=((∃(x:Nat),(x<=ts.len/\zaM f (ts.len-x) x=zaM f ts.len 0)/\(0=(x:Int)/\True)/\True)/\∀(x:Nat),x<=ts.len/\zaM f (ts.len-x) x=zaM f ts.len 0->ts.len-
x<LIM/\((x:Int)<(ts.len:Int)->0<=(x:Int)/\(x:Int)<(ts.len:Int)/\(okA (el ts x)/\a.tg.len<=100/\b.tg.len<=100)/\((zoj (el ts x) a b i j=0->False)->(x:Int)=(zaM f ts.len 0).fst/\zoj
(el ts x) a b i j=(zaM f ts.len 0).snd/\True)/\(((zoj (el ts x) a b i j=0->False)->False)->fits64 ((x:Int)+1)/\∃(y:Nat),(y<=ts.len/\zaM f (ts.len-y) y=zaM f ts.len 0)/\ts.len-y<ts.len-x
/\((x:Int)+1=(y:Int)/\True)/\True))/\(((x:Int)<(ts.len:Int)->False)->(-1)=(zaM f ts.len 0).fst/\0=(zaM f ts.len 0).snd/\True)):=by intros;kernel_rfl
theorem zz2:∀(c:D),zac (ctx cc4 zb0) 4 (91:FuncId) [V.dat (22:TypeId) c] (V.prop ((zaK c).snd=0))=(zan c/\((zaK c).snd=0↔(zaK c).snd=0)):=by intros;kernel_rfl
theorem zAA:∀(c:D),zac (ctx cc4 zb0) 4 (63:FuncId) [V.dat (22:TypeId) c] (V.prop ((zaK c).snd=0))=(zan c/\((zaK c).snd=0↔(zaK c).snd=0)):=by intros;kernel_rfl
theorem zxB:∀(k:Int) (s:List UInt8) (la:Prop) (nm:D) (n:Int) (g:GD),zac (ctx cc1 (zoV nm g.tg)) 4 (205:FuncId) [V.agg [V.int IntKind.u8 k,V.str s,V.prop la,V.dat (29:TypeId) nm,V.int
IntKind.i64 n],gV g] (V.prop (naP k nm n g))=((k=4->(g.sd=n↔naP k nm n g))/\((k=4->False)->(k=5->(g.ho↔naP k nm n g))/\((k=5->False)->(k=7->nm.len<=100/\(zbk nm g.ct↔naP k nm n g))/\((k
=7->False)->(∃(x:Nat),(x<=g.tg.len/\∀(i:Nat),i<x->zbk nm (sAt g.tg i)->False)/\(0=(x:Int)/\True)/\True)/\∀(x:Nat),(x<=g.tg.len/\∀(i:Nat),i<x->zbk nm (sAt g.tg i)->False)->
g.tg.len-x<LIM/\((x:Int)<(g.tg.len:Int)->0<=(x:Int)/\(x:Int)<(g.tg.len:Int)/\nm.len<=100/\(zbk nm (sAt g.tg x)->(true=true↔naP k nm n g))/\((zbk nm (sAt g.tg x)->False)->fits64 ((x:
Int)+1)/\∃(y:Nat),(y<=g.tg.len/\∀(i:Nat),i<y->zbk nm (sAt g.tg i)->False)/\g.tg.len-y<g.tg.len-x/\((x:Int)+1=(y:Int)/\True)/\True))/\(((x:Int)<(g.tg.len:Int)->False)->(false=
true↔naP k nm n g)))))):=by intros;kernel_rfl
theorem zxz:∀(k:Int) (s:List UInt8) (la:Prop) (nm:D) (n:Int) (a b:GD) (i j:Int),zac (ctx cn1 zb0) 4 (156:FuncId) [V.agg [V.int IntKind.u8 k,V.str s,V.prop la,V.dat (29:TypeId) nm,V.int
IntKind.i64 n],gV a,gV b,V.int IntKind.i64 i,V.int IntKind.i64 j] (V.prop (zb5 k la nm n a b i j))=((k=1->nm.len<=100/\nm.len<=100/\((↑(idx nm a.rk):Int)<(↑(idx nm b.rk):Int)↔zb5 k la nm n a b i
j))/\((k=1->False)->(k=2->((a.si=0->False)->((b.si=0->False)->(a.si<b.si↔zb5 k la nm n a b i j))/\(b.si=0->(true=true↔zb5 k la nm n a b i j)))/\(((a.si=0->False)->False)->(false=true
↔zb5 k la nm n a b i j)))/\((k=2->False)->(k=3->((a.si=0->False)->((b.si=0->False)->(b.si<a.si↔zb5 k la nm n a b i j))/\(b.si=0->(true=true↔zb5 k la nm n a b i j)))/\(((a.si=0->False)
->False)->(false=true↔zb5 k la nm n a b i j)))/\((k=3->False)->(k=8->(sLt a.nm b.nm↔zb5 k la nm n a b i j))/\((k=8->False)->(k=9->(0<=i->(i<=63->(0<=j->(j<=63->(i<j↔zb5 k la nm n a b
i j))/\((j<=63->False)->(false=true↔zb5 k la nm n a b i j)))/\((0<=j->False)->(false=true↔zb5 k la nm n a b i j)))/\((i<=63->False)->(false=true↔zb5 k la nm n a b i j)))/\((0<=i->False)->
(false=true↔zb5 k la nm n a b i j)))/\((k=9->False)->(k=10->(0<=i->(i<=63->(0<=j->(j<=63->fits64 (n+n)/\fits64 (n+n+1)/\fits64 (i*(n+n+1))/\fits64 (i*(n+n+1)+n)/\((64:Int)=
0->False)/\fits64 (n+n)/\fits64 (n+n+1)/\fits64 (j*(n+n+1))/\fits64 (j*(n+n+1)+n)/\((64:Int)=0->False)/\((i*(n+n+1)+n).tmod 64<(j*(n+n+1)+n).tmod 64↔zb5 k la nm n a b
i j))/\((j<=63->False)->(false=true↔zb5 k la nm n a b i j)))/\((0<=j->False)->(false=true↔zb5 k la nm n a b i j)))/\((i<=63->False)->(false=true↔zb5 k la nm n a b i j)))/\((0<=i->False)->
(false=true↔zb5 k la nm n a b i j)))/\((k=10->False)->(la->(nm.len<=100/\a.tg.len<=100)/\((naP k nm n a->False)->(nm.len<=100/\b.tg.len<=100)/\(naP k nm n b↔zb5 k la nm n a b i j))/\(((naP k nm n
a->False)->False)->(false=true↔zb5 k la nm n a b i j)))/\((la->False)->(nm.len<=100/\a.tg.len<=100)/\(naP k nm n a->(nm.len<=100/\b.tg.len<=100)/\(naP k nm n b->False↔zb5 k la nm n a b i j))/\
((naP k nm n a->False)->(false=true↔zb5 k la nm n a b i j)))))))))):=by intros;kernel_rfl
theorem zyw:∀(c:D) (a b:GD) (i j:Int) (f:Nat->Int),zac (ctx cn2 (zh0 f)) 4 (121:FuncId) [V.dat (22:TypeId) c,gV a,gV b,V.int IntKind.i64 i,V.int IntKind.i64 j] (V.tup [V.int IntKind.i64 (zaM
f c.len 0).fst,V.int IntKind.i64 (zaM f c.len 0).snd])=((∃(x:Nat),(x<=c.len/\zaM f (c.len-x) x=zaM f c.len 0)/\(0=(x:Int)/\True)/\True)/\∀(x:Nat),x<=c.len/\zaM f (c.len-x) x=zaM f
c.len 0->c.len-x<LIM/\((x:Int)<(c.len:Int)->0<=(x:Int)/\(x:Int)<(c.len:Int)/\((cA (el c x)= []->False)->0<=(x:Int)/\(x:Int)<(c.len:Int)/\(((a.rk=cA (el c x)->False)->False)->0<=
(x:Int)/\(x:Int)<(c.len:Int)/\((b.rk=cA (el c x)->False)->fits64 ((x:Int)+1)/\∃(y:Nat),(y<=c.len/\zaM f (c.len-y) y=zaM f c.len 0)/\c.len-y<c.len-x/\((x:Int)+1=(y:Int)/\
True)/\True)/\(((b.rk=cA (el c x)->False)->False)->0<=(x:Int)/\(x:Int)<(c.len:Int)/\((cNm (el c x)).len<=100/\a.tg.len<=100/\b.tg.len<=100/\(cK (el c x)=10->0<=cN (el c x)/\cN (el c x)<=63))
/\(zb5 (cK (el c x)) (cL (el c x)) (cNm (el c x)) (cN (el c x)) a b i j->(x:Int)=(zaM f c.len 0).fst/\(-1)=(zaM f c.len 0).snd/\True)/\((zb5 (cK (el c x)) (cL (el c x)) (cNm (el c x)) (cN (el c x)) a b i j
->False)->0<=(x:Int)/\(x:Int)<(c.len:Int)/\((cNm (el c x)).len<=100/\b.tg.len<=100/\a.tg.len<=100/\(cK (el c x)=10->0<=cN (el c x)/\cN (el c x)<=63))/\(zb5 (cK (el c x)) (cL (el c x)) (cNm (el c
x)) (cN (el c x)) b a j i->(x:Int)=(zaM f c.len 0).fst/\1=(zaM f c.len 0).snd/\True)/\((zb5 (cK (el c x)) (cL (el c x)) (cNm (el c x)) (cN (el c x)) b a j i->False)->fits64 ((x:Int)+1)/\∃(y:Nat),
(y<=c.len/\zaM f (c.len-y) y=zaM f c.len 0)/\c.len-y<c.len-x/\((x:Int)+1=(y:Int)/\True)/\True))))/\((a.rk=cA (el c x)->False)->fits64 ((x:Int)+1)/\∃(y:Nat),(y<=c.len/\zaM f
(c.len-y) y=zaM f c.len 0)/\c.len-y<c.len-x/\((x:Int)+1=(y:Int)/\True)/\True))/\(((cA (el c x)= []->False)->False)->0<=(x:Int)/\(x:Int)<(c.len:Int)/\((cNm (el c x)).len<=100/\
a.tg.len<=100/\b.tg.len<=100/\(cK (el c x)=10->0<=cN (el c x)/\cN (el c x)<=63))/\(zb5 (cK (el c x)) (cL (el c x)) (cNm (el c x)) (cN (el c x)) a b i j->(x:Int)=(zaM f c.len 0).fst/\(-1)=(zaM f
c.len 0).snd/\True)/\((zb5 (cK (el c x)) (cL (el c x)) (cNm (el c x)) (cN (el c x)) a b i j->False)->0<=(x:Int)/\(x:Int)<(c.len:Int)/\((cNm (el c x)).len<=100/\b.tg.len<=100/\a.tg.len<=100/\(cK (el
c x)=10->0<=cN (el c x)/\cN (el c x)<=63))/\(zb5 (cK (el c x)) (cL (el c x)) (cNm (el c x)) (cN (el c x)) b a j i->(x:Int)=(zaM f c.len 0).fst/\1=(zaM f c.len 0).snd/\True)/\((zb5 (cK (el c x)) (cL
(el c x)) (cNm (el c x)) (cN (el c x)) b a j i->False)->fits64 ((x:Int)+1)/\∃(y:Nat),(y<=c.len/\zaM f (c.len-y) y=zaM f c.len 0)/\c.len-y<c.len-x/\((x:Int)+1=(y:Int)/\True)/\True))))
/\(((x:Int)<(c.len:Int)->False)->(-1)=(zaM f c.len 0).fst/\0=(zaM f c.len 0).snd/\True)):=by intros;kernel_rfl
theorem zxW:∀(l:D),zac (ctx (λ_=>none) zb0) 4 (153:FuncId) [V.dat (29:TypeId) l] (V.dat (29:TypeId) (zeb l))=(((∃(x:Nat),x=0/\((0:Int)=0/\True/\True)/\True)\/∃(x:Nat),(0<x
/\x<=l.len)/\(0=(x:Int)/\False/\True)/\False/\True)/\(∀(x:Nat),x=0->l.len-x<LIM/\(0<(l.len:Int)->(0:Int)<=0/\0<(l.len:Int)/\0+1<= [D.str (sAt l 0)].length/\(1:Nat)<=
8796093022208/\fits64 (0+1)/\((∃(y:Nat),y=0/\l.len-y<l.len-x/\((0:Int)+1=0/\False/\True)/\True)\/∃(y:Nat),(0<y/\y<=l.len)/\l.len-y<l.len-x/\(0+1=(y:Int)/\((0:Nat)=0
/\1=y/\True)/\True)/\List.take 1 [D.str (sAt l 0)]=zcJ l y/\True))/\((0<(l.len:Int)->False)->D.nil=zeb l))/\∀(x:Nat),0<x/\x<=l.len->l.len-x<LIM/\((x:Int)<(l.len:Int)->0<=(x:
Int)/\(x:Int)<(l.len:Int)/\0+1<= [D.str (sAt l x)].length/\0+x<=(zcJ l x).length/\x+1<=8796093022208/\fits64 ((x:Int)+1)/\((∃(y:Nat),y=0/\l.len-y<l.len-x/\((x:Int)+1=0/\
False/\True)/\True)\/∃(y:Nat),(0<y/\y<=l.len)/\l.len-y<l.len-x/\((x:Int)+1=(y:Int)/\((0:Nat)=0/\x+1=y/\True)/\True)/\List.take x (zcJ l x)++List.take 1 [D.str (sAt l x)]=
zcJ l y/\True))/\(((x:Int)<(l.len:Int)->False)->0+x<=(zcJ l x).length/\D.list (List.take x (zcJ l x))=zeb l)):=by intros;kernel_rfl
theorem zyN:∀(g:GD),zac (ctx cn1 zb0) 4 (116:FuncId) [gV g] (gV (zcq g))=(g.tg.len<=8796093022208/\g.nm=(zcq g).nm/\g.rk=(zcq g).rk/\g.ct=(zcq g).ct/\g.si=(zcq g).si/\g.sd=
(zcq g).sd/\g.di=(zcq g).di/\(g.ho↔g.ho)/\(g.ac↔g.ac)/\zeb g.tg=(zcq g).tg/\True):=by intros;kernel_rfl
theorem zyl:∀(a b:D),zac (ctx cc1 zb0) 4 (157:FuncId) [V.dat (29:TypeId) a,V.dat (29:TypeId) b] (V.prop (eqS a b))=((((a.len:Int)=(b.len:Int)->False)->(false=true↔eqS a b))/\((((a.len:
Int)=(b.len:Int)->False)->False)->(∃(x:Nat),(x<=a.len/\∀(i:Nat),i<x->sAt a i=sAt b i)/\(0=(x:Int)/\True)/\True)/\∀(x:Nat),(x<=a.len/\∀(i:Nat),i<x->sAt a i=sAt b i)->a.len-x
<LIM/\((x:Int)<(a.len:Int)->0<=(x:Int)/\(x:Int)<(a.len:Int)/\0<=(x:Int)/\(x:Int)<(b.len:Int)/\((sAt a x=sAt b x->False)->(false=true↔eqS a b))/\(((sAt a x=sAt b x->False)->
False)->fits64 ((x:Int)+1)/\∃(y:Nat),(y<=a.len/\∀(i:Nat),i<y->sAt a i=sAt b i)/\a.len-y<a.len-x/\((x:Int)+1=(y:Int)/\True)/\True))/\(((x:Int)<(a.len:Int)->False)->(true=
true↔eqS a b)))):=by intros;kernel_rfl
theorem zyZ:∀(a b:GD),zac (ctx cn1 zb0) 4 (125:FuncId) [gV a,gV b] (V.prop (zdg a b))=((a.nm=b.nm->(a.rk=b.rk->(a.ct=b.ct->(a.si=b.si->(a.sd=b.sd->(a.di=b.di->((a.ho↔b.ho)->((a.ac
↔b.ac)->a.tg.len<=8796093022208/\(eqS a.tg b.tg↔zdg a b))/\(((a.ac↔b.ac)->False)->(false=true↔zdg a b)))/\(((a.ho↔b.ho)->False)->(false=true↔zdg a b)))/\((a.di=b.di->False)->(false=
true↔zdg a b)))/\((a.sd=b.sd->False)->(false=true↔zdg a b)))/\((a.si=b.si->False)->(false=true↔zdg a b)))/\((a.ct=b.ct->False)->(false=true↔zdg a b)))/\((a.rk=b.rk->False)->
(false=true↔zdg a b)))/\((a.nm=b.nm->False)->(false=true↔zdg a b))):=by intros;kernel_rfl
theorem zA9:∀(g:GD),zac (ctx (λ_=>none) zb0) 6 (58:FuncId) [gV g] (V.prop ¬znf (gD g))=(((40<max (max (g.nm.length:Int) (g.rk.length:Int)) (g.ct.length:Int)->False)->((10<(g.tg.len:
Int)->False)->(∃(x:Nat),(x<=g.tg.len/\∀(i:Nat),i<x->(sAt g.tg i).length<=40)/\(0=(x:Int)/\True)/\True)/\∀(x:Nat),(x<=g.tg.len/\∀(i:Nat),i<x->(sAt g.tg i).length<=40)->g.tg.len-x<
LIM/\((x:Int)<(g.tg.len:Int)->0<=(x:Int)/\(x:Int)<(g.tg.len:Int)/\(40<(↑(sAt g.tg x).length:Int)->(0<=(x:Int)↔znf (gD g)->False))/\((40<(↑(sAt g.tg x).length:Int)->False)->fits64 ((x
:Int)+1)/\∃(y:Nat),(y<=g.tg.len/\∀(i:Nat),i<y->(sAt g.tg i).length<=40)/\g.tg.len-y<g.tg.len-x/\((x:Int)+1=(y:Int)/\True)/\True))/\(((x:Int)<(g.tg.len:Int)->False)->(false=
true↔znf (gD g)->False)))/\(10<(g.tg.len:Int)->(true=true↔znf (gD g)->False)))/\(40<max (max (g.nm.length:Int) (g.rk.length:Int)) (g.ct.length:Int)->(true=true↔znf (gD g)->False))):=by intros;kernel_rfl
theorem nf {p:Prop} (h:p->False):(false=true↔p):=⟨λe=>(by cases e),λq=>(h q).elim⟩
theorem nt {p:Prop} (h:p):(true=true↔p):=⟨λ_=>h,λ_=>rfl⟩
theorem s93 (c:D) (h:c.len<=100):zac (ctx cn0 zb0) 5 93 [.dat 22 c] (.dat 127 (.list (zaG c c.len))):=by
 rw [zzy]
 refine ⟨by omega,Int.le_refl _,by omega,by omega,⟨0,Nat.zero_le _,⟨rfl,trivial⟩,rfl,trivial⟩,λx hx=>⟨zf7 h,λk=>⟨by omega,k,trivial,trivial,by omega,k, ?_,by omega,x+1, ?_,by omega,⟨by omega,trivial⟩,zqh (by omega),trivial⟩,λk=> ?_⟩⟩
 .rw [List.length_append,za7,List.length_replicate];omega
 .show x+1<=c.len;omega
 .have e:=za5 hx k
  subst e
  rw [Nat.sub_self,List.replicate_zero,List.append_nil,za7]
  exact ⟨by omega,by rw [List.take_of_length_le (by rw [za7];exact Nat.le_refl _)]⟩
theorem s92 (ts:D) (a b:GD) (i j:Int) (h:ts.len<=100) (ho:∀k,k<ts.len->okA (el ts k)) (ha:a.tg.len<=100) (hb:b.tg.len<=100):
  zac (zbs cm0 cF4 (zh0 (λk=>zoj (el ts k) a b i j))) 3 92 [.dat 127 ts,pV a i,pV b j] (.tup [.int .i64 (zaM (λk=>zoj (el ts k) a b i j) ts.len 0).1,.int .i64 (zaM (λk=>zoj (el ts k) a b i j) ts.len 0).2]):=by
 rw [zAd]
 refine ⟨⟨0,⟨Nat.zero_le _,rfl⟩,⟨rfl,trivial⟩,trivial⟩,λx hx=>⟨zf7 h,λk=>⟨by omega,k,⟨ho x (by omega),ha,hb⟩,λe=> ?_,λe=>⟨by omega,x+1,⟨by omega,(ziH (by omega) hx.2).2 (Classical.byContradiction e)⟩,by omega,⟨by omega,trivial⟩,trivial⟩⟩,λk=> ?_⟩⟩
 .rw [(ziH (by omega) hx.2).1 e];exact ⟨rfl,rfl,trivial⟩
 .rw [zrm (za5 hx.1 k) hx.2];exact ⟨rfl,rfl,trivial⟩
theorem s91 (c:D) (h:zan c):zac (ctx cc4 zb0) 4 91 [.dat 22 c] (.prop ((zaK c).2=0)):=by rw [zz2];exact ⟨h,Iff.rfl⟩
theorem s63 (c:D) (h:zan c):zac (ctx cc4 zb0) 4 63 [.dat 22 c] (.prop ((zaK c).2=0)):=by rw [zAA];exact ⟨h,Iff.rfl⟩
theorem zAr (k:Int) (s:List UInt8) (la:Prop) (nm:D) (n:Int) (g:GD) (h1:nm.len<=100) (h2:g.tg.len<=100):zac (ctx cc1 (zoV nm g.tg)) 4 205 [.agg [.int .u8 k,.str s,.prop la,.dat 29 nm,.int .i64 n],gV g] (.prop (naP k nm n g)):=by
 rw [zxB]
 refine ⟨λh=>by rw [zcL,h];simp,λh4=>⟨λh=>by rw [zcL,h];simp,λh5=>⟨λh=>⟨h1,by rw [zcL,h];simp⟩,λh7=>⟨⟨0,⟨Nat.zero_le _,λi hi=>absurd hi (Nat.not_lt_zero _)⟩,⟨rfl,trivial⟩,trivial⟩,λx hx=>⟨zf7 h2,
  λq=>⟨by omega,q,h1,λe=>nt (zcL.2 (.inr (.inr (.inr ⟨⟨h4,h5,h7⟩,⟨x,by omega,e⟩⟩)))),λe=>⟨by omega,x+1,⟨by omega,λi hi=> ?_⟩,by omega,⟨by omega,trivial⟩,trivial⟩⟩,λq=>nf λe=> ?_⟩⟩⟩⟩⟩
 .rcases Nat.lt_or_ge i x with w|w
  .exact hx.2 i w
  .have:i=x:=by omega
   subst this;exact e
 .rcases zcL.1 e with w|w|w|w
  .exact h4 w.1
  .exact h5 w.1
  .exact h7 w.1
  .obtain ⟨i,u,v⟩:=w.2.out
   have:=za5 hx.1 q
   exact hx.2 i (by omega) v
theorem zlZ {p n:Int} (h:0<=p) (h':p<=63) (h1:0<=n) (h2:n<=63):0<=p*(n+n+1)/\p*(n+n+1)<=63*127:=
 ⟨Int.mul_nonneg h (by omega),Int.mul_le_mul (by omega) (by omega) (by omega) (by omega)⟩
theorem zAz (k:Int) (s:List UInt8) (la:Prop) (nm:D) (n:Int) (a b:GD) (i j:Int) (h1:nm.len<=100) (ha:a.tg.len<=100) (hb:b.tg.len<=100) (hn:k=10->0<=n/\n<=63):
  zac (ctx cn1 zb0) 4 156 [.agg [.int .u8 k,.str s,.prop la,.dat 29 nm,.int .i64 n],gV a,gV b,.int .i64 i,.int .i64 j] (.prop (zb5 k la nm n a b i j)):=by
 rw [zxz]
 refine ⟨λh=>⟨h1,h1,by rw [zah,h];simp⟩,λk1=>⟨λh=>⟨λx=>⟨λy=> ?_,λy=>nt ?_⟩,λx=>nf λq=> ?_⟩,λk2=>⟨λh=>⟨λx=>⟨λy=> ?_,λy=>nt ?_⟩,λx=>nf λq=> ?_⟩,λk3=>⟨λh=>by rw [zah,h];simp,
  λk8=>⟨λh=>⟨λx=>⟨λy=>⟨λz=>⟨λw=> ?_,λw=>nf λq=> ?_⟩,λz=>nf λq=> ?_⟩,λy=>nf λq=> ?_⟩,λx=>nf λq=> ?_⟩,
  λk9=>⟨λh=>⟨λx=>⟨λy=>⟨λz=>⟨λw=> ?_,λw=>nf λq=> ?_⟩,λz=>nf λq=> ?_⟩,λy=>nf λq=> ?_⟩,λx=>nf λq=> ?_⟩,
  λk10=>⟨λh=>⟨⟨h1,ha⟩,λx=>⟨⟨h1,hb⟩, ?_⟩,λx=>nf λq=> ?_⟩,λh=>⟨⟨h1,ha⟩,λx=>⟨⟨h1,hb⟩, ?_⟩,λx=>nf λq=> ?_⟩⟩⟩⟩⟩⟩⟩⟩
 .have x:¬a.si=0:=x
  have y:¬b.si=0:=y
  rw [zah,h];simp [x,y]
 .have x:¬a.si=0:=x
  rw [zah,h];simp [x,y]
 .have x:a.si=0:=Classical.byContradiction x
  rw [zah,h] at q;simp [x] at q
 .have x:¬a.si=0:=x
  have y:¬b.si=0:=y
  rw [zah,h];simp [x,y]
 .have x:¬a.si=0:=x
  rw [zah,h];simp [x,y]
 .have x:a.si=0:=Classical.byContradiction x
  rw [zah,h] at q;simp [x] at q
 .rw [zah,h];simp [zc9,x,y,z,w]
 .rw [zah,h] at q;simp [zc9] at q;exact w q.2.1.2
 .rw [zah,h] at q;simp [zc9] at q;exact z q.2.1.1
 .rw [zah,h] at q;simp [zc9] at q;exact y q.1.2
 .rw [zah,h] at q;simp [zc9] at q;exact x q.1.1
 .obtain ⟨n0,n1⟩:=hn h
  obtain ⟨i0,i1⟩:=zlZ x y n0 n1
  obtain ⟨j0,j1⟩:=zlZ z w n0 n1
  refine ⟨by omega,by omega,by omega,by omega,λe=>absurd e (by decide),by omega,by omega,by omega,by omega,λe=>absurd e (by decide), ?_⟩
  rw [ztm,ztm,zah,h];simp [zc9,x,y,z,w]
 .rw [zah,h] at q;simp [zc9] at q;exact w q.2.1.2
 .rw [zah,h] at q;simp [zc9] at q;exact z q.2.1.1
 .rw [zah,h] at q;simp [zc9] at q;exact y q.1.2
 .rw [zah,h] at q;simp [zc9] at q;exact x q.1.1
 .have x:¬naP k nm n a:=x
  have k1:¬k=1:=k1
  have k2:¬k=2:=k2
  have k3:¬k=3:=k3
  have k8:¬k=8:=k8
  have k9:¬k=9:=k9
  have k10:¬k=10:=k10
  rw [zah];simp [h,x,k1,k2,k3,k8,k9,k10]
 .have x:naP k nm n a:=Classical.byContradiction x
  have k1:¬k=1:=k1
  have k2:¬k=2:=k2
  have k3:¬k=3:=k3
  have k8:¬k=8:=k8
  have k9:¬k=9:=k9
  have k10:¬k=10:=k10
  rw [zah] at q;simp [h,x,k1,k2,k3,k8,k9,k10] at q
 .have h:¬la:=h
  have k1:¬k=1:=k1
  have k2:¬k=2:=k2
  have k3:¬k=3:=k3
  have k8:¬k=8:=k8
  have k9:¬k=9:=k9
  have k10:¬k=10:=k10
  rw [zah];simp [h,x,k1,k2,k3,k8,k9,k10]
 .have h:¬la:=h
  have x:¬naP k nm n a:=x
  have k1:¬k=1:=k1
  have k2:¬k=2:=k2
  have k3:¬k=3:=k3
  have k8:¬k=8:=k8
  have k9:¬k=9:=k9
  have k10:¬k=10:=k10
  rw [zah] at q;simp [h,x,k1,k2,k3,k8,k9,k10] at q
open Classical in
theorem zmu {c:D} {a b:GD} {i j:Int} {x:Nat} (h:cA (el c x)≠ []) (h2:a.rk≠cA (el c x)\/b.rk≠cA (el c x)):clE c a b i j x=0:=by unfold clE clZ;rw [if_pos ⟨h,h2⟩]
open Classical in
theorem zqd {c:D} {a b:GD} {i j:Int} {x:Nat} (h:¬(cA (el c x)≠ []/\(a.rk≠cA (el c x)\/b.rk≠cA (el c x)))):
  clE c a b i j x=if zb5 (cK (el c x)) (cL (el c x)) (cNm (el c x)) (cN (el c x)) a b i j then-1 else if zb5 (cK (el c x)) (cL (el c x)) (cNm (el c x)) (cN (el c x)) b a j i then 1 else 0:=by unfold clE clZ;rw [if_neg h]
theorem zAH (c:D) (a b:GD) (i j:Int) (hs:zan c) (hv:(zaK c).2=0) (ha:a.tg.len<=100) (hb:b.tg.len<=100):
  zac (ctx cn2 (zh0 (clE c a b i j))) 4 121 [.dat 22 c,gV a,gV b,.int .i64 i,.int .i64 j] (.tup [.int .i64 (zaM (clE c a b i j) c.len 0).1,.int .i64 (zaM (clE c a b i j) c.len 0).2]):=by
 have hlen:=hs.out.1
 rw [zyw]
 refine ⟨⟨0,⟨Nat.zero_le _,rfl⟩,⟨rfl,trivial⟩,trivial⟩,λx hx=>⟨zf7 hlen,λk=> ?_,λk=> ?_⟩⟩
 .have hxl:x<c.len:=by omega
  have hst:=ziH hxl hx.2
  have hnm:=hs.out.2 x hxl
  have hlot:=zl2 (zfj hv hxl)
  have next:clE c a b i j x=0->((-9223372036854775808:Int)<=(↑x:Int)+1/\(↑x:Int)+1<9223372036854775808)/\∃y:Nat,(y<=c.len/\zaM (clE c a b i j) (c.len-y) y=zaM (clE c a b i j) c.len 0)/\c.len-y<c.len-x/\((↑x:Int)+1=(↑y:Int)/\True)/\True:=
   λe=>⟨by omega,x+1,⟨by omega,hst.2 e⟩,by omega,⟨by omega,trivial⟩,trivial⟩
  have bef1:¬(cA (el c x)≠ []/\(a.rk≠cA (el c x)\/b.rk≠cA (el c x)))->zb5 (cK (el c x)) (cL (el c x)) (cNm (el c x)) (cN (el c x)) a b i j->(↑x:Int)=(zaM (clE c a b i j) c.len 0).1/\(-1:Int)=(zaM (clE c a b i j) c.len 0).2/\True:=λhg e=>by
   have q:clE c a b i j x= -1:=by rw [zqd hg,if_pos e]
   rw [hst.1 (by rw [q];decide),q];exact ⟨rfl,rfl,trivial⟩
  have bef2:¬(cA (el c x)≠ []/\(a.rk≠cA (el c x)\/b.rk≠cA (el c x)))->¬zb5 (cK (el c x)) (cL (el c x)) (cNm (el c x)) (cN (el c x)) a b i j->zb5 (cK (el c x)) (cL (el c x)) (cNm (el c x)) (cN (el c x)) b a j i->(↑x:Int)=(zaM (clE c a b i j) c.len 0).1/\(1:Int)=(zaM (clE c a b i j) c.len 0).2/\True:=λhg e1 e=>by
   have q:clE c a b i j x=1:=by rw [zqd hg,if_neg e1,if_pos e]
   rw [hst.1 (by rw [q];decide),q];exact ⟨rfl,rfl,trivial⟩
  have bef3:¬(cA (el c x)≠ []/\(a.rk≠cA (el c x)\/b.rk≠cA (el c x)))->¬zb5 (cK (el c x)) (cL (el c x)) (cNm (el c x)) (cN (el c x)) a b i j->¬zb5 (cK (el c x)) (cL (el c x)) (cNm (el c x)) (cN (el c x)) b a j i->clE c a b i j x=0:=λhg e1 e=>by rw [zqd hg,if_neg e1,if_neg e]
  exact ⟨by omega,k,λh0=>⟨by omega,k,λh1=>⟨by omega,k,λh2=>next (zmu h0 (.inr h2)),λh2=>⟨by omega,k,⟨hnm,ha,hb,hlot⟩,λe=>bef1 (λq=>q.2.elim h1 h2) e,λe=>⟨by omega,k,⟨hnm,hb,ha,hlot⟩,λe2=>bef2 (λq=>q.2.elim h1 h2) e e2,λe2=>next (bef3 (λq=>q.2.elim h1 h2) e e2)⟩⟩⟩,
   λh1=>next (zmu h0 (.inl h1))⟩,λh0=>⟨by omega,k,⟨hnm,ha,hb,hlot⟩,λe=>bef1 (λq=>h0 q.1) e,λe=>⟨by omega,k,⟨hnm,hb,ha,hlot⟩,λe2=>bef2 (λq=>h0 q.1) e e2,λe2=>next (bef3 (λq=>h0 q.1) e e2)⟩⟩⟩
 .rw [zrm (za5 hx.1 k) hx.2];exact ⟨rfl,rfl,trivial⟩
theorem zcV (l:List D):(zba l).asList=l:=by cases l<;>rfl
theorem zcB (l:D) (n:Nat):(zcJ l n).length=n:=by simp [zcJ]
theorem zlA (l:D) (n:Nat):zcJ l (n+1)=zcJ l n++ [.str (sAt l n)]:=by unfold zcJ;rw [List.range_succ,List.map_append];rfl
theorem zec (l:D):(zeb l).len=l.len:=by unfold D.len zeb;rw [zcV,zcB];rfl
theorem ziv (l:D) (i:Nat):sAt (zeb l) i=sAt l i:=by
 unfold sAt zeb zai
 rw [zcV]
 unfold zcJ
 rw [List.getElem?_map]
 rcases Nat.lt_or_ge i l.len with h|h
 .rw [List.getElem?_range h];rfl
 .rw [show (List.range l.len)[i]? =none from by rw [List.getElem?_eq_none_iff];simpa using h]
  have:l.asList[i]? =none:=List.getElem?_eq_none_iff.2 h
  rw [this];rfl
theorem zA4 (l:D) (hl:l.len<=8796093022208):zac (ctx (λ_=>none) zb0) 4 153 [.dat 29 l] (.dat 29 (zeb l)):=by
 rw [zxW]
 refine ⟨.inl ⟨0,rfl,⟨rfl,trivial,trivial⟩,trivial⟩,λx hx=>⟨zpD hl,λh=>⟨by omega,h,by simp,by decide,by omega,.inr ⟨1,⟨by omega,by omega⟩,by omega,⟨by omega,⟨rfl,rfl,trivial⟩,trivial⟩,rfl,trivial⟩⟩,λh=> ?_⟩,
  λx hx=>⟨zpD hl,λh=>⟨by omega,h,by simp,by rw [zcB];omega,by omega,by omega,.inr ⟨x+1,⟨by omega,by omega⟩,by omega,⟨by omega,⟨rfl,rfl,trivial⟩,trivial⟩, ?_,trivial⟩⟩,λh=>⟨by rw [zcB];omega, ?_⟩⟩⟩
 .have h:¬(0:Int)<l.len:=h
  have:l.len=0:=by omega
  unfold zeb;rw [this];rfl
 .rw [zlA,List.take_of_length_le (by rw [zcB];exact Nat.le_refl _)];rfl
 .have e:=za5 hx.2 h
  subst e
  rw [List.take_of_length_le (by rw [zcB];exact Nat.le_refl _)]
  unfold zeb
  cases hc:zcJ l l.len with
  |nil=>have:=zcB l l.len;rw [hc] at this;simp at this;omega
  |cons d r=>rfl
theorem zAs (g:GD) (h:g.tg.len<=8796093022208):zac (ctx cn1 zb0) 4 116 [gV g] (gV (zcq g)):=by
 rw [zyN];exact ⟨h,rfl,rfl,rfl,rfl,rfl,rfl,Iff.rfl,Iff.rfl,rfl,trivial⟩
theorem zAZ (a b:D) (h:a.len<=8796093022208):zac (ctx cc1 zb0) 4 157 [.dat 29 a,.dat 29 b] (.prop (eqS a b)):=by
 rw [zyl]
 refine ⟨λq=>nf λe=>q (by rw [e.out.1]),λq=> ?_⟩
 have q:a.len=b.len:=by have:=Classical.byContradiction q;omega
 refine ⟨⟨0,⟨Nat.zero_le _,λi hi=>absurd hi (Nat.not_lt_zero _)⟩,⟨rfl,trivial⟩,trivial⟩,λx hx=>⟨zpD h,λk=>⟨by omega,k,by omega,by omega,λe=>nf λw=>e (w.out.2 x (by omega)),λe=>⟨by omega,x+1,⟨by omega,λi hi=> ?_⟩,by omega,⟨by omega,trivial⟩,trivial⟩⟩,λk=>nt ⟨q,λi hi=>hx.2 i (by rw [za5 hx.1 k];exact hi)⟩⟩⟩
 rcases Nat.lt_or_ge i x with w|w
 .exact hx.2 i w
 .have:i=x:=by omega
  subst this;exact Classical.byContradiction e
theorem zAh (a b:GD) (h:a.tg.len<=8796093022208):zac (ctx cn1 zb0) 4 125 [gV a,gV b] (.prop (zdg a b)):=by
 rw [zyZ]
 exact ⟨λe1=>⟨λe2=>⟨λe3=>⟨λe4=>⟨λe5=>⟨λe6=>⟨λe7=>⟨λe8=>⟨h,⟨λq=>⟨e1,e2,e3,e4,e5,e6,e7,e8,q⟩,λq=>q.out.2.2.2.2.2.2.2.2⟩⟩,λw=>nf λq=>w q.out.2.2.2.2.2.2.2.1⟩,λw=>nf λq=>w q.out.2.2.2.2.2.2.1⟩,λw=>nf λq=>w q.out.2.2.2.2.2.1⟩,
  λw=>nf λq=>w q.out.2.2.2.2.1⟩,λw=>nf λq=>w q.out.2.2.2.1⟩,λw=>nf λq=>w q.out.2.2.1⟩,λw=>nf λq=>w q.out.2.1⟩,λw=>nf λq=>w q.out.1⟩
theorem s58 (g:GD):zac (ctx (λ_=>none) zb0) 6 58 [gV g] (.prop (¬znf (gD g))):=by
 rw [zA9]
 refine ⟨λh1=>⟨λh2=> ?_,λh2=>nt λq=> ?_⟩,λh1=>nt λq=> ?_⟩
 .have h1:¬(40:Int)<max (max (↑g.nm.length) (↑g.rk.length)) (↑g.ct.length):=h1
  have h2:¬(10:Int)<g.tg.len:=h2
  refine ⟨⟨0,⟨Nat.zero_le _,λi hi=>absurd hi (Nat.not_lt_zero _)⟩,⟨rfl,trivial⟩,trivial⟩,λx hx=>⟨zf7 (by omega),λk=>⟨by omega,k,λe=>⟨λ_ q=> ?_,λ_=>by omega⟩,λe=>⟨by omega,x+1,⟨by omega,λi hi=> ?_⟩,by omega,⟨by omega,trivial⟩,trivial⟩⟩,λk=>⟨λe=>(by cases e),λq=>(q ⟨?_, ?_,⟨λi hi=> ?_⟩⟩).elim⟩⟩⟩
  .have:=q.out.2.2.out x (by show x<g.tg.len;omega)
   have this:(sAt g.tg x).length<=40:=this
   omega
  .rcases Nat.lt_or_ge i x with w|w
   .exact hx.2 i w
   .have:i=x:=by omega
    subst this
    have e:¬(40:Int)<(sAt g.tg i).length:=e
    omega
  .show max (max (g.nm.length:Int) g.rk.length) g.ct.length<=40;omega
  .show g.tg.len<=10;omega
  .exact hx.2 i (by rw [za5 hx.1 k];exact hi)
 .have:g.tg.len<=10:=q.out.2.1
  omega
 .have:max (max (g.nm.length:Int) g.rk.length) g.ct.length<=40:=q.out.1
  omega
theorem zk7 {l m:D} (h:l.asList=m.asList) (s:List UInt8):zbk l s↔zbk m s:=by
 have e1:l.len=m.len:=by unfold D.len;rw [h]
 have e2:∀i,sAt l i=sAt m i:=λi=>by unfold sAt;rw [h]
 exact ⟨λk=>by obtain ⟨i,a,b⟩:=k.out;exact ⟨i,by omega,by rw [<-e2];exact b⟩,λk=>by obtain ⟨i,a,b⟩:=k.out;exact ⟨i,by omega,by rw [e2];exact b⟩⟩
theorem zmW {l m:D} (h:l.asList=m.asList) (s:List UInt8):∀(f i:Nat),zbU l s f i=zbU m s f i
 |0,_=>rfl
 |f+1,i=>by
  have e2:sAt l i=sAt m i:=by unfold sAt;rw [h]
  unfold zbU;rw [e2,zmW h s f (i+1)]
theorem zty {l m:D} (h:l.asList=m.asList) (s:List UInt8):idx l s=idx m s:=by
 unfold idx;rw [show l.len=m.len by unfold D.len;rw [h]];exact zmW h s _ _
theorem zos {l m:D} (h:l.asList=m.asList) (t:D):zok (zeb t) l↔zok t m:=by
 constructor
 .intro k;obtain ⟨i,a,b⟩:=k.out;exact ⟨i,by rw [zec] at a;exact a,by rw [ziv] at b;exact (zk7 h _).1 b⟩
 .intro k;obtain ⟨i,a,b⟩:=k.out;exact ⟨i,by rw [zec];exact a,by rw [ziv];exact (zk7 h _).2 b⟩
theorem zmF {l m:D} (h:l.asList=m.asList) (k n:Int) (g:GD):naP k l n (zcq g)↔naP k m n g:=by
 rw [zcL,zcL]
 show (_\/_\/(_/\zbk l g.ct)\/(_/\zok (zeb g.tg) l))↔_
 rw [zk7 h,zos h];exact Iff.rfl
theorem zft {l m:D} (h:l.asList=m.asList) (k:Int) (la:Prop) (n:Int) (a b:GD) (i j:Int):zb5 k la l n (zcq a) (zcq b) i j↔zb5 k la m n a b i j:=by
 rw [zah,zah,zmF h,zmF h]
 show ((_/\idx l a.rk<idx l b.rk)\/_)↔_
 rw [zty h,zty h];exact Iff.rfl
theorem zmP (c:D) (a b:GD) (i j:Int) {x:Nat} (hx:x<c.len):clE (zar c) (zcq a) (zcq b) i j x=clE c a b i j x:=by
 rcases zfN c x with ⟨_,h⟩| ⟨hc,h⟩
 .unfold clE
  rw [h]
  have hn:(cNm (zpi (el c x))).asList=(cNm (el c x)).asList:=rfl
  show clZ (cK (el c x)) (cA (el c x)) (cL (el c x)) (cNm (zpi (el c x))) (cN (el c x)) (zcq a) (zcq b) i j=_
  unfold clZ
  have e1:=propext (zft hn (cK (el c x)) (cL (el c x)) (cN (el c x)) a b i j)
  have e2:=propext (zft hn (cK (el c x)) (cL (el c x)) (cN (el c x)) b a j i)
  rw [e1,e2];rfl
 .unfold clE
  rw [hc,h]
  have hn:(cNm D.nil).asList=(cNm D.nil).asList:=rfl
  unfold clZ
  have e1:=propext (zft hn (cK D.nil) (cL D.nil) (cN D.nil) a b i j)
  have e2:=propext (zft hn (cK D.nil) (cL D.nil) (cN D.nil) b a j i)
  rw [e1,e2];rfl
theorem znq (g:GD):zdg (zcq g) g:=⟨rfl,rfl,rfl,rfl,rfl,rfl,Iff.rfl,Iff.rfl,⟨zec g.tg,λi _=>ziv g.tg i⟩⟩
theorem ntT {p:Prop} (h:p):(p↔True):=⟨λ_=>trivial,λ_=>h⟩
end Go.Ev

end
