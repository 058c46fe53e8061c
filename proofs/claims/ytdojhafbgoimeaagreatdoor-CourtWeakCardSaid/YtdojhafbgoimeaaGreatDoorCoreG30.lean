/- Part of the proof. -/
import Derived.Test.YtdojhafbgoimeaaGreatDoorCoreRfA
import Derived.Test.YtdojhafbgoimeaaGreatDoorCoreG25
import Derived.Test.YtdojhafbgoimeaaGreatDoorCoreG27
import Derived.Test.YtdojhafbgoimeaaGreatDoorCoreRfC8
import Derived.Test.YtdojhafbgoimeaaGreatDoorRows
import Derived.Test.YtdojhafbgoimeaaGreatDoorCoreKit
import Derived.Test.YtdojhafbgoimeaaGreatDoorProg
import Derived.Test.YtdojhafbgoimeaaGreatDoorCoreG0
import Derived.OpenShut
import Derived.LaidSub
import Derived.MakeChecks

section
open Go.Proofs
namespace Go.Ev
noncomputable section
set_option maxRecDepth 100000
set_option maxHeartbeats 4000000
theorem zxj:∀(l:D) (n:Int),zae (zlU (λ(x:FuncId)=>match x with|90=>some zlR|_=>none) zhS) 3 (30:FuncId) [V.dat (48:TypeId) l,V.int IntKind.i64 n] (V.dat (23:TypeId) (gsD n l))=((0
:Int)<=0/\0<=min (l.len:Int) n/\min (l.len:Int) n<=(l.len:Int)/\((∃(x:Nat),x=0/\((0:Int)=0/\True/\True)/\True)\/∃(x:Nat),(0<x/\x<=(mG n l).len)/\(0=(x:Int)/\False/\True)/\False
/\True)/\(∀(x:Nat),x=0->(mG n l).len-x<LIM/\(0<(↑(mG n l).len:Int)->(0:Int)<=0/\0<(↑(mG n l).len:Int)/\((26:Int)=0->False)/\fits64 (Int.tdiv 0 26)/\fits64 (97+Int.tdiv 0 26)/\((26:
Int)=0->False)/\fits64 (97+Int.tmod 0 26)/\0+2<=(gbs 0).length/\zmX (List.take 2 (gbs 0))/\ [(103:UInt8)].length+(zfj (List.take 2 (gbs 0))).length<9223372036854775808/\((0<=cK (el (mG n l) 0)/\
cK (el (mG n l) 0)<256)/\0<=((el (mG n l) 0).fld 1).asInt/\((el (mG n l) 0).fld 1).asInt<256)/\0+1<= [gD (pG (cK (el (mG n l) 0)) ((el (mG n l) 0).fld 1).asInt (znV 0))].length/\(1:Nat)<=16777216/\fits64
(0+1)/\((∃(y:Nat),y=0/\(mG n l).len-y<(mG n l).len-x/\((0:Int)+1=0/\False/\True)/\True)\/∃(y:Nat),(0<y/\y<=(mG n l).len)/\(mG n l).len-y<(mG n l).len-x/\(0+1=(y:Int)/\((0
:Nat)=0/\1=y/\True)/\True)/\List.take 1 [gD (pG (cK (el (mG n l) 0)) ((el (mG n l) 0).fld 1).asInt (znV 0))]=gL (mG n l) y/\True))/\((0<(↑(mG n l).len:Int)->False)->D.nil=gsD n l))/\∀(x:Nat),0
<x/\x<=(mG n l).len->(mG n l).len-x<LIM/\((x:Int)<(↑(mG n l).len:Int)->0<=(x:Int)/\(x:Int)<(↑(mG n l).len:Int)/\((26:Int)=0->False)/\fits64 ((x:Int).tdiv 26)/\fits64 (97+(x:
Int).tdiv 26)/\((26:Int)=0->False)/\fits64 (97+(x:Int).tmod 26)/\0+2<=(gbs (x:Int)).length/\zmX (List.take 2 (gbs (x:Int)))/\ [(103:UInt8)].length+(zfj (List.take 2 (gbs (x:Int)))).length<
9223372036854775808/\((0<=cK (el (mG n l) x)/\cK (el (mG n l) x)<256)/\0<=((el (mG n l) x).fld 1).asInt/\((el (mG n l) x).fld 1).asInt<256)/\0+1<= [gD (pG (cK (el (mG n l) x)) ((el (mG n l) x).fld 1).asInt
(znV (x:Int)))].length/\0+x<=(gL (mG n l) x).length/\x+1<=16777216/\fits64 ((x:Int)+1)/\((∃(y:Nat),y=0/\(mG n l).len-y<(mG n l).len-x/\((x:Int)+1=0/\False/\True)/\True)\/∃(y:
Nat),(0<y/\y<=(mG n l).len)/\(mG n l).len-y<(mG n l).len-x/\((x:Int)+1=(y:Int)/\((0:Nat)=0/\x+1=y/\True)/\True)/\List.take x (gL (mG n l) x)++List.take 1 [gD (pG (cK (el (mG n l) x))
((el (mG n l) x).fld 1).asInt (znV (x:Int)))]=gL (mG n l) y/\True))/\(((x:Int)<(↑(mG n l).len:Int)->False)->0+x<=(gL (mG n l) x).length/\D.list (List.take x (gL (mG n l) x))=gsD n l)):=by intros;kernel_rfl
theorem ztz {n:Int} (h0:0<=n) (l:D):(mG n l).len<=l.len/\(mG n l).len<=n:=by
 have h:(min (l.len:Int) n).toNat<=l.len:=by omega
 have e:(mG n l).len=(min (l.len:Int) n).toNat:=za7 l _ h
 rw [e];omega
theorem zuO {n:Int} {l:D} {x:Nat} (hx:x<(mG n l).len):el (mG n l) x=el l x:=by
 have h:(min (l.len:Int) n).toNat<=l.len:=by omega
 have e:(mG n l).len=(min (l.len:Int) n).toNat:=za7 l _ h
 exact zcR l _ x (by omega)
theorem zg3 (l:D) (n:Nat):(gL l n).length=n:=by unfold gL;rw [List.length_map,List.length_range]
theorem zsc (l:D) (x:Nat):gL l (x+1)=gL l x++ [gE l x]:=by unfold gL;rw [List.range_succ,List.map_append];rfl
theorem zq5 {l:D} {x:Nat} {e:D} (h:e=gE l x):List.take x (gL l x)++List.take 1 [e]=gL l (x+1):=by
 subst h;rw [zsc,List.take_of_length_le (by rw [zg3];exact Nat.le_refl _)];rfl
theorem u8w (n:Int):0<=IntKind.u8.wrap n/\IntKind.u8.wrap n<256:=by
 show 0<=n.emod 256/\n.emod 256<256
 exact ⟨Int.emod_nonneg _ (by decide),Int.emod_lt_of_pos _ (by decide)⟩
theorem u8n (n:Int):(IntKind.u8.wrap n).toNat<256/\IntKind.u8.wrap n=((IntKind.u8.wrap n).toNat:Int):=by
 have:=u8w n
 omega
theorem zkU (i:Int):zmX (List.take 2 (gbs i)):=⟨λd hd=>by
 have hd:d∈gbs i:=hd
 unfold gbs at hd
 rcases List.mem_cons.1 hd with h|h
 .subst h;exact ⟨_,(u8n _).1,congrArg D.int (u8n _).2⟩
 .rcases List.mem_cons.1 h with h|h
  .subst h;exact ⟨_,(u8n _).1,congrArg D.int (u8n _).2⟩
  .cases h⟩
theorem zl6 {l:List D} (h:0<l.length):D.list l=zdV l:=by
 cases l with
 |nil=>cases h
 |cons a l=>rfl
theorem zrt {x:Int} (h:0<=x):0<=x.tdiv 26/\x.tdiv 26<=x/\0<=x.tmod 26/\x.tmod 26<26:=by
 rw [Int.tdiv_eq_ediv_of_nonneg h,Int.tmod_eq_emod_of_nonneg h];omega
theorem s30 (l:D) (n:Int) (hu:zs7 l) (h0:0<=n) (h64:n<=64):zae (zlU (λ|90=>some zlR|_=>none) zhS) 3 30 [.dat 48 l,.int .i64 n] (.dat 23 (gsD n l)):=by
 rw [zxj]
 have hl:=ztz h0 l
 have hp:∀x,x<(mG n l).len->u8P (el (mG n l) x):=λx h=>by rw [zuO h];exact hu.out x (by omega)
 have t0:=zrt (Int.le_refl 0)
 refine ⟨Int.le_refl _,by omega,by omega,Or.inl ⟨0,rfl,⟨rfl,trivial,trivial⟩,trivial⟩,λx hx=>⟨zgj (by omega),λh=> ?_,λh=> ?_⟩,λx hx=>⟨zgj (by omega),λh=> ?_,λh=>⟨by rw [zg3];omega, ?_⟩⟩⟩
 .have hq:=(hp 0 (by omega)).out
  subst hx
  refine ⟨Int.le_refl _,h,λh=>absurd h (by decide),by omega,by omega,λh=>absurd h (by decide),by omega, ?_,zkU _, ?_,hq,Nat.le_refl _,by omega,by omega,Or.inr ⟨1,⟨by omega,by omega⟩,by omega,⟨rfl,⟨rfl,rfl,trivial⟩,trivial⟩, ?_,trivial⟩⟩
  .exact Nat.le_refl 2
  .show 1+2<9223372036854775808;omega
  .exact zq5 (x:=0) rfl
 .have e:(mG n l).len=0:=by have h:¬(0:Int)<((mG n l).len:Int):=h;omega
  show D.nil=zdV (gL (mG n l) (mG n l).len)
  rw [e];rfl
 .have hq:=(hp x (by omega)).out
  have t:=zrt (x:=(x:Int)) (by omega)
  refine ⟨by omega,h,λh=>absurd h (by decide),by omega,by omega,λh=>absurd h (by decide),by omega, ?_,zkU _, ?_,hq,Nat.le_refl _,by rw [zg3];omega,by omega,by omega,Or.inr ⟨x+1,⟨by omega,by omega⟩,by omega,⟨by omega,⟨rfl,rfl,trivial⟩,trivial⟩,zq5 rfl,trivial⟩⟩
  .exact Nat.le_refl 2
  .show 1+2<9223372036854775808;omega
 .have e:=zgK hx.2 h
  subst e
  rw [List.take_of_length_le (by rw [zg3];exact Nat.le_refl _)]
  exact zl6 (by rw [zg3];exact hx.1)
end
end Go.Ev

end

section
open Go.Proofs
namespace Go.Ev
noncomputable section
set_option maxRecDepth 100000
theorem zsq {d:D} (hd:u8C d):1<=mK d/\mK d<=10:=by
 have h:=hd.out.1
 have e:mK d=(1+((d.fld 0).asInt).tmod 10)%256:=rfl
 rw [e,Int.tmod_eq_emod_of_nonneg h.1]
 omega
theorem zod {k:Int} (h:0<=k/\k<=3):zaB (ze1 k):=by
 have hk:k=0\/k=1\/k=2\/k=3:=by omega
 rcases hk with rfl|rfl|rfl|rfl
 all_goals exact ⟨by decide,by decide,λi hi=>by
  have hi:i<1:=hi
  have:i=0:=by omega
  subst this
  exact ⟨by decide,by decide⟩⟩
theorem zsm {k j:Int} (h:0<=k/\k<=3) (h':0<=j/\j<=3) (hn:k≠j):ze1 k≠ze1 j:=by
 have hk:k=0\/k=1\/k=2\/k=3:=by omega
 have hj:j=0\/j=1\/j=2\/j=3:=by omega
 rcases hk with rfl|rfl|rfl|rfl
 all_goals (rcases hj with rfl|rfl|rfl|rfl)
 all_goals first
  |exact absurd rfl hn
  |decide
theorem zhO {d:D} (hd:u8C d):zaB (nm1 d):=zod (zrd hd.out.2.2.1)
theorem zqq {d:D}:zaB (nm2 d):=zod (zrd (zuc _).1)
theorem zuQ {d:D} (hd:u8C d):nm1 d≠nm2 d:=by
 have h:=hd.out.2.2
 refine zsm (zrd h.1) (zrd (zuc _).1) ?_
 have e:IntKind.u8.wrap ((d.fld 2).asInt+1)=((d.fld 2).asInt+1)%256:=rfl
 rw [e,Int.tmod_eq_emod_of_nonneg h.1,Int.tmod_eq_emod_of_nonneg (by omega)]
 omega
theorem zk6 {d:D} (hd:u8C d):1<=(D.list (mNm d)).len/\(D.list (mNm d)).len<=2/\¬zeS (.list (mNm d))/\¬zbc (.list (mNm d))/\sAt (.list (mNm d)) 0=nm1 d:=by
 unfold mNm
 split
 .refine ⟨Nat.le_refl 1,Nat.le_succ 1,λq=> ?_,λq=> ?_,rfl⟩
  .obtain ⟨i,h1,h2⟩:=q.out
   have h1:i<1:=h1
   have:i=0:=by omega
   subst this
   exact h2 (zhO hd)
  .obtain ⟨i,k,h1,h2,_⟩:=q.out
   have h2:i<1:=h2
   omega
 .refine ⟨Nat.le_succ 1,Nat.le_refl 2,λq=> ?_,λq=> ?_,rfl⟩
  .obtain ⟨i,h1,h2⟩:=q.out
   have h1:i<2:=h1
   have:i=0\/i=1:=by omega
   rcases this with rfl|rfl
   .exact h2 (zhO hd)
   .exact h2 zqq
  .obtain ⟨i,k,h1,h2,h3⟩:=q.out
   have h2:i<2:=h2
   have e1:i=1:=by omega
   have e2:k=0:=by omega
   subst e1 e2
   exact zuQ hd h3
theorem zfo:¬zeS .nil/\¬zbc .nil:=⟨λq=>by obtain ⟨i,h1,_⟩:=q.out;exact absurd h1 (Nat.not_lt_zero _),λq=>by obtain ⟨i,k,_,h2,_⟩:=q.out;exact absurd h2 (Nat.not_lt_zero _)⟩
structure okM (d e:D) (r:List UInt8):Prop where
 form:zax (cK e) (cA e) (cL e) (cNm e).len (cN e)
 bad:¬zeS (cNm e)
 twice:¬zbc (cNm e)
 kind:cK e=mK d
 am:cA e=mAm d r
 nms:mK d=1->cNm e= .list (mNm d)
 few:(cNm e).len<=2
theorem zso {d:D} (hd:u8C d) (r:List UInt8):okM d (mC d r) r:=by
 have no:=zk6 hd
 have mr:=zsq hd
 by_cases h1:mK d=1
 .rw [<-mC1 h1 rfl rfl]
  exact ⟨⟨.inl ⟨h1,no.1,by have:=no.2.1;show (D.list (mNm d)).len<=16;omega,rfl,(λh=>by cases h),(zd2 (d:=d) λk=>k h1).symm⟩⟩,no.2.2.1,no.2.2.2.1,rfl,rfl,λ_=>rfl,no.2.1⟩
 .by_cases h4:mK d=4
  .rw [<-mC4 h4 rfl]
   have w2:=zkt hd.out.2.1 2 (by omega)
   refine ⟨⟨.inr (.inr (.inl ⟨h4,rfl, ?_, ?_⟩))⟩,zfo.1,zfo.2,rfl,rfl,λh=>absurd h h1,Nat.zero_le _⟩
   .show 1<=1+IntKind.i64.wrap (((d.fld 1).asInt).tmod 2);omega
   .show 1+IntKind.i64.wrap (((d.fld 1).asInt).tmod 2)<=2;omega
  .by_cases h5:mK d=5
   .rw [<-mC5 h5 rfl]
    exact ⟨⟨.inr (.inr (.inr (.inl ⟨h5,rfl,rfl⟩)))⟩,zfo.1,zfo.2,rfl,rfl,λh=>absurd h h1,Nat.zero_le _⟩
   .by_cases h6:mK d=6
    .rw [<-mC6 h6 rfl rfl]
     exact ⟨⟨.inr (.inr (.inr (.inr (.inl ⟨.inl h6,no.1,by have:=no.2.1;show (D.list (mNm d)).len<=16;omega,rfl⟩))))⟩,no.2.2.1,no.2.2.2.1,rfl,rfl,λh=>absurd h h1,no.2.1⟩
    .by_cases h7:mK d=7
     .rw [<-mC7 h7 rfl rfl]
      exact ⟨⟨.inr (.inr (.inr (.inr (.inl ⟨.inr h7,no.1,by have:=no.2.1;show (D.list (mNm d)).len<=16;omega,rfl⟩))))⟩,no.2.2.1,no.2.2.2.1,rfl,rfl,λh=>absurd h h1,no.2.1⟩
     .by_cases h10:mK d=10
      .rw [<-zuN h10 rfl]
       have w64:=zkt hd.out.2.1 64 (by omega)
       refine ⟨⟨.inr (.inr (.inr (.inr (.inr ⟨h10,rfl, ?_, ?_,λh=>by cases h⟩))))⟩,zfo.1,zfo.2,rfl,rfl,λh=>absurd h h1,Nat.zero_le _⟩
       .show 0<=IntKind.i64.wrap (((d.fld 1).asInt).tmod 64);omega
       .show IntKind.i64.wrap (((d.fld 1).asInt).tmod 64)<=63;omega
      .rw [<-mC0 h1 h4 h5 h6 h7 h10 rfl]
       refine ⟨⟨.inr (.inl ⟨?_,rfl,rfl,λh=>by cases h⟩)⟩,zfo.1,zfo.2,rfl,rfl,λh=>absurd h h1,Nat.zero_le _⟩
       show mK d=2\/mK d=3\/mK d=8\/mK d=9
       omega
theorem zk4 (l:D):(mD l).len=(m8 l).len:=by
 show (zdV _).asList.length=_
 rw [zev,zg8]
theorem zql (l:D) {i:Nat} (h:i<(m8 l).len):el (mD l) i=mC (el (m8 l) i) (mR (m8 l) i):=by
 show zas (zdV _).asList i=_
 rw [zev]
 unfold zas mL
 rw [List.getElem?_map,List.getElem?_range h];rfl
theorem zjQ (m:D):∀i,mR m i≠ []->∃k,k<i/\mK (el m k)=1/\nm1 (el m k)=mR m i
 |0,h=>absurd rfl h
 |i+1,h=>by
  by_cases e:mK (el m i)=1
  .exact ⟨i,Nat.lt_succ_self _,e,zuP e⟩
  .rw [<-zqn e] at h
   obtain ⟨k,h1,h2,h3⟩:=zjQ m i h
   exact ⟨k,by omega,h2,by rw [<-zqn e];exact h3⟩
theorem zkA (d:D) (r:List UInt8):mAm d r=r\/mAm d r= []:=by
 unfold mAm;split
 .exact .inl rfl
 .exact .inr rfl
theorem zof {l:D} (hu:zph l) {i:Nat} (h:i<(m8 l).len):u8C (el (m8 l) i):=by
 have:=zk3 l
 rw [ztx h];exact hu.out i (by omega)
theorem zqm {l:D} (hu:zph l):zaE (mD l):=by
 have:=zk3 l
 refine ⟨by rw [zk4];omega,λi hi=> ?_⟩
 rw [zk4] at hi
 rw [zql l hi]
 have:=(zso (zof hu hi) (mR (m8 l) i)).few
 omega
theorem zty {l:D} (hu:zph l):(zbl (mD l)).2=0:=by
 have hl:=zk3 l
 refine zmU (by rw [zk4];omega) λi hi=> ?_
 rw [zk4] at hi
 unfold zcM
 rw [zql l hi]
 have ok:=zso (zof hu hi) (mR (m8 l) i)
 refine zpZ.2 ⟨ok.form,ok.bad,λq=> ?_,ok.twice,λq=> ?_⟩
 .rw [ok.am] at q
  rcases zkA (el (m8 l) i) (mR (m8 l) i) with e|e
  .rw [e] at q
   obtain ⟨k,h1,_,h3⟩:=zjQ _ _ q.1
   rw [<-h3] at q
   exact q.2 (zhO (zof hu (by omega)))
  .exact q.1 e
 .rw [ok.am] at q
  rcases zkA (el (m8 l) i) (mR (m8 l) i) with e|e
  .rw [e] at q
   obtain ⟨k,h1,h2,h3⟩:=zjQ _ _ q.1
   have kk:=zso (zof hu (show k<(m8 l).len by omega)) (mR (m8 l) k)
   have no:=zk6 (zof hu (show k<(m8 l).len by omega))
   refine q.2 ⟨k,h1, ?_, ?_⟩
   .rw [zql l (by omega),kk.kind];exact h2
   .rw [zql l (by omega),kk.nms h2]
    exact ⟨0,by have:=no.1;omega,by rw [no.2.2.2.2];exact h3⟩
  .exact q.1 e
theorem zts (n:Int) (l:D) {i:Nat} (h:i<(mG n l).len):el (gsD n l) i=gE (mG n l) i:=by
 show zas (zdV _).asList i=_
 rw [zev]
 unfold zas gL
 rw [List.getElem?_map,List.getElem?_range h];rfl
theorem znW (n:Int) (l:D):(gsD n l).len=(mG n l).len:=by
 show (zdV _).asList.length=_
 rw [zev,zg3]
theorem zuJ (n:Int) (l:D) {i:Nat} (h:i<(gsD n l).len):((el (gsD n l) i).fld (Nat.succ 6).succ).len<=100:=by
 rw [znW] at h
 rw [zts n l h]
 show (pTg _ _).len<=100
 unfold pTg;split
 .exact Nat.zero_le _
 .show 1<=100;omega
end
end Go.Ev

end

section
open Go.Proofs
namespace Go.Ev
noncomputable section
set_option maxRecDepth 100000
theorem zlo (f:Nat->Int):∀m i,(zbL f m i=(-1,0)/\∀k,i<=k->k<i+m->f k=0)\/∃k,i<=k/\k<i+m/\zbL f m i=((k:Int),f k)/\f k≠0/\∀j,i<=j->j<k->f j=0
 |0,i=> .inl ⟨rfl,λk h1 h2=>by omega⟩
 |m+1,i=>by
  by_cases h:f i≠0
  .exact .inr ⟨i,Nat.le_refl _,by omega,if_pos h,h,λj h1 h2=>by omega⟩
  .have e:zbL f (m+1) i=zbL f m (i+1):=if_neg h
   have h:f i=0:=by omega
   rcases zlo f m (i+1) with ⟨h1,h2⟩| ⟨k,h1,h2,h3,h4,h5⟩
   .exact .inl ⟨e.trans h1,λk a b=>by
     by_cases q:k=i
     .subst q;exact h
     .exact h2 k (by omega) (by omega)⟩
   .exact .inr ⟨k,by omega,by omega,e.trans h3,h4,λj a b=>by
     by_cases q:j=i
     .subst q;exact h
     .exact h5 j (by omega) b⟩
theorem zi8 {f g:Nat->Int}:∀m i,(∀k,i<=k->k<i+m->f k=g k)->zbL f m i=zbL g m i
 |0,_,_=>rfl
 |m+1,i,h=>by
  unfold zbL
  rw [h i (Nat.le_refl _) (by omega),zi8 m (i+1) λk a b=>h k (by omega) (by omega)]
theorem zqI {c:D} {n i:Nat} (hn:n<=c.len) (h:i<n):zcM (c.sub 0 n) i=zcM c i:=by
 have e:∀s,zaJ (c.sub 0 n) i s=zaJ c i s:=λs=>propext
  ⟨λ⟨k,h1,h2,h3⟩=>⟨k,h1,by rw [<-zcR c n k (by omega)];exact h2,by rw [<-zcR c n k (by omega)];exact h3⟩,
  λ⟨k,h1,h2,h3⟩=>⟨k,h1,by rw [zcR c n k (by omega)];exact h2,by rw [zcR c n k (by omega)];exact h3⟩⟩
 unfold zcM
 rw [zcR c n i h]
 unfold zcy
 rw [e]
theorem zqX {c:D} (h:(zbl c).2=0):c.len<=32:=by
 unfold zbl at h
 by_cases q:32<c.len
 .rw [if_pos q] at h;cases h
 .omega
theorem zsM {c:D} {n:Nat} (hv:(zbl c).2=0) (hn:n<=c.len):(zbl (c.sub 0 n)).2=0:=
 zmU (by rw [za7 c n hn];have:=zqX hv;omega) λi hi=>by
  rw [za7 c n hn] at hi
  rw [zqI hn hi]
  exact zrE hv (by omega)
theorem zox {c:D} {n:Nat} (hv:(zbl c).2=0) (hn:n<=c.len) (a b:GD) (i j:Int):zcd (c.sub 0 n) a b i j=zbL (clE c a b i j) n 0:=by
 unfold zcd
 rw [if_pos (zsM hv hn),za7 c n hn]
 exact zi8 n 0 λk _ h=>by
  unfold clE
  rw [zcR c n k (by omega)]
structure zvK (c:D) (a b:GD) (i j:Int):Prop where
 rng: -1<=(zcd c a b i j).2/\(zcd c a b i j).2<=1
 neg:(zcd c a b i j).1<0↔(zcd c a b i j).2=0
 lt:(zcd c a b i j).1<c.len
 pre:0<=(zcd c a b i j).1->(zcd (c.sub 0 (zcd c a b i j).1.toNat) a b i j).2=0
 on:0<=(zcd c a b i j).1->(zcd (c.sub 0 ((zcd c a b i j).1+1).toNat) a b i j).2=(zcd c a b i j).2
theorem zjV {c:D} (hv:(zbl c).2=0) (a b:GD) (i j:Int):(zcd c a b i j).2=zvJ c (a,i) (b,j):=by
 unfold zcd;rw [if_pos hv];exact zsG _ _
theorem zsA {c:D} (hv:(zbl c).2=0) (a b:GD) (i j:Int):zvK c a b i j:=by
 have hr:=(zlG hv).rng (a,i) (b,j)
 rw [<-zjV hv] at hr
 have e:zcd c a b i j=zbL (clE c a b i j) c.len 0:=by unfold zcd;rw [if_pos hv]
 rcases zlo (clE c a b i j) c.len 0 with ⟨h1,h2⟩| ⟨k,h1,h2,h3,h4,h5⟩
 .rw [h1] at e
  refine ⟨by omega, ?_, ?_,λh=> ?_,λh=> ?_⟩
  .rw [e];exact ⟨λ_=>rfl,λ_=>by show (-1:Int)<0;omega⟩
  .rw [e];show (-1:Int)<_;omega
  .rw [e] at h;exact absurd h (by show ¬(0:Int)<= -1;omega)
  .rw [e] at h;exact absurd h (by show ¬(0:Int)<= -1;omega)
 .rw [h3] at e
  refine ⟨by omega, ?_, ?_,λh=> ?_,λh=> ?_⟩
  .rw [e];show (k:Int)<0↔_=0
   exact ⟨λh=>by omega,λh=>absurd h h4⟩
  .rw [e];show (k:Int)<_;omega
  .rw [e];show (zcd (c.sub 0 (k:Int).toNat) a b i j).2=0
   rw [Int.toNat_natCast,zox hv (by omega)]
   rcases zlo (clE c a b i j) k 0 with ⟨q1,q2⟩| ⟨m,q1,q2,q3,q4,q5⟩
   .rw [q1]
   .exact absurd (h5 m (Nat.zero_le _) (by omega)) q4
  .rw [e];show (zcd (c.sub 0 ((k:Int)+1).toNat) a b i j).2=clE c a b i j k
   rw [show ((k:Int)+1).toNat=k+1 by omega,zox hv (by omega)]
   rcases zlo (clE c a b i j) (k+1) 0 with ⟨q1,q2⟩| ⟨m,q1,q2,q3,q4,q5⟩
   .exact absurd (q2 k (Nat.zero_le _) (by omega)) h4
   .rw [q3];show clE c a b i j m=_
    by_cases hm:m=k
    .rw [hm]
    .exact absurd (h5 m (Nat.zero_le _) (by omega)) q4
theorem zrB (x:Int):inB (zkD x 63):=by
 have h:(BitVec.ofInt 64 x&&&BitVec.ofInt 64 63).toNat<=63:=by
  rw [BitVec.toNat_and]
  exact Nat.and_le_right
 have e:zkD x 63=((BitVec.ofInt 64 x&&&BitVec.ofInt 64 63).toNat:Int):=by
  unfold zkD
  exact zc7 (k:= .i64) (by show _<=_/\_<_;omega)
 exact ⟨by rw [e];omega⟩
end
end Go.Ev

end

section
open Go.Proofs
namespace Go.Ev
noncomputable section
set_option maxRecDepth 100000
set_option maxHeartbeats 4000000
theorem vc8:∀(l c g:D) (A N:Nat->Nat->Int) (a0 b0 a1 b1 a2 b2 x0 x1 x2:Int) (s0 s1:Prop),zae (zt1 (wk0 c g) A N a0 b0 a1 b1 a2 b2 x0 x1 x2 s0 s1) 4 (8:FuncId) [V.dat (40:TypeId) l,V.agg [V.int
IntKind.u8 a0,V.int IntKind.u8 b0,V.int IntKind.u8 a1,V.int IntKind.u8 b1,V.int IntKind.u8 a2,V.int IntKind.u8 b2],V.agg [V.prop s0,V.prop s1],V.agg [V.int IntKind.i64 x0,V.int IntKind.i64 x1,V.int IntKind.i64
x2]] (V.prop True)=((zph l/\c=mD l)/\((0:Int)<=0/\0<(↑(2:Nat):Int)/\(s0->(0:Int)<=0/\0<(↑(3:Nat):Int)/\(0:Int)<=1/\1<(↑(3:Nat):Int)/\∃(x:Unit),True/\True/\(a0=a0/\b0=b0
/\a0=zdU s0 a0 a1/\b1=b1/\a2=a2/\b2=b2/\True)/\True)/\((s0->False)->∃(x:Unit),True/\True/\(a0=a0/\b0=b0/\a1=zdU s0 a0 a1/\b1=b1/\a2=a2/\b2=b2/\True)/\True))/\∀(x:Unit),True
->((0:Int)<=1/\1<(↑(2:Nat):Int)/\(s1->(0:Int)<=1/\1<(↑(3:Nat):Int)/\(0:Int)<=2/\2<(↑(3:Nat):Int)/\∃(x:Unit),True/\True/\(a0=a0/\b0=b0/\zdU s0 a0 a1=zdU s0 a0 a1/\b1=b1
/\a2=a2/\b1=zdU s1 b1 b2/\True)/\True)/\((s1->False)->∃(x:Unit),True/\True/\(a0=a0/\b0=b0/\zdU s0 a0 a1=zdU s0 a0 a1/\b1=b1/\a2=a2/\b2=zdU s1 b1 b2/\True)/\True))/\∀(x:Unit),
True->((0:Int)<=0/\0<(↑(3:Nat):Int)/\0+0*1< [D.int x0,D.int x1,D.int x2].length/\(0:Int)<=1/\1<(↑(3:Nat):Int)/\0+Int.toNat 1*1< [D.int x0,D.int x1,D.int x2].length/\(0:Int)<=2/\
2<(↑(3:Nat):Int)/\0+Int.toNat 2*1< [D.int x0,D.int x1,D.int x2].length/\(0:Int)<=0/\0<(↑(3:Nat):Int)/\0+0*1< [D.int x0,D.int x1,D.int x2].length/\(0:Int)<=1/\1<(↑(3:Nat):Int)/\
0+Int.toNat 1*1<([D.int x0,D.int x1,D.int x2].set (0+0*1) (D.int (zkD (zas [D.int x0,D.int x1,D.int x2] (0+0*1)).asInt 63))).length/\(0:Int)<=2/\2<(↑(3:Nat):Int)/\0+Int.toNat 2*1<
(([D.int x0,D.int x1,D.int x2].set (0+0*1) (D.int (zkD (zas [D.int x0,D.int x1,D.int x2] (0+0*1)).asInt 63))).set (0+Int.toNat 1*1) (D.int (zkD (zas [D.int x0,D.int x1,D.int x2] (0+Int.toNat 1*
1)).asInt 63))).length/\∃(x:Unit),True/\True/\(([D.int x0,D.int x1,D.int x2].set (0+0*1) (D.int (zkD (zas [D.int x0,D.int x1,D.int x2] (0+0*1)).asInt 63))).set (0+Int.toNat 1*1) (D.int (zkD
(zas [D.int x0,D.int x1,D.int x2] (0+Int.toNat 1*1)).asInt 63))).set (0+Int.toNat 2*1) (D.int (zkD (zas [D.int x0,D.int x1,D.int x2] (0+Int.toNat 2*1)).asInt 63))=zda x0 x1 x2/\True)/\∀(x:
Unit),True->0+3<= [D.sct [D.int a0,D.int b0],D.sct [D.int (zdU s0 a0 a1),D.int b1],D.sct [D.int a2,D.int (zdU s1 b1 b2)]].length/\0+3<= [D.sct [D.int a0,D.int b0],D.sct [D.int (zdU s0 a0 a1),D.int b1],
D.sct [D.int a2,D.int (zdU s1 b1 b2)]].length/\0+3<= [D.sct [D.int a0,D.int b0],D.sct [D.int (zdU s0 a0 a1),D.int b1],D.sct [D.int a2,D.int (zdU s1 b1 b2)]].length/\0+3<= [D.sct [D.int a0,D.int b0],D.sct
[D.int (zdU s0 a0 a1),D.int b1],D.sct [D.int a2,D.int (zdU s1 b1 b2)]].length/\((zs7 (D.list (List.take 3 [D.sct [D.int a0,D.int b0],D.sct [D.int (zdU s0 a0 a1),D.int b1],D.sct [D.int a2,D.int (zdU s1 b1
b2)]]))/\(0:Int)<=3/\(3:Int)<=64)/\g=gsD 3 (D.list (List.take 3 [D.sct [D.int a0,D.int b0],D.sct [D.int (zdU s0 a0 a1),D.int b1],D.sct [D.int a2,D.int (zdU s1 b1 b2)]])))/\(∃(x:Nat),x.le 3/\(0=
(x:Int)/\True)/\List.replicate (3*3) (D.int 0)=nL N (3*x)/\True)/\∀(x:Nat),x.le 3->3-x<LIM/\((x:Int)<3->(∃(x_1:Nat),x_1.le 3/\(0=(x_1:Int)/\True)/\nL N (3*x)=nL N (3*x+x_1)/\
True)/\∀(x_1:Nat),x_1.le 3->3-x_1<LIM/\((x_1:Int)<3->(0<=(x:Int)/\(x:Int)<(g.len:Int)/\0<=(x_1:Int)/\(x_1:Int)<(g.len:Int)/\0<=(x:Int)/\(x:Int)<(↑(3:Nat):Int)/\x*1<
(zda x0 x1 x2).length/\0<=(x_1:Int)/\(x_1:Int)<(↑(3:Nat):Int)/\x_1*1<(zda x0 x1 x2).length/\(zaE c/\((el g x).fld (Nat.succ 6).succ).len<=100/\((el g x_1).fld (Nat.succ 6).succ).len<=100)/\∃
(x_2:Unit),True/\((zcd c (gAt (el g x)) (gAt (el g x_1)) (zas (zda x0 x1 x2) (x*1)).asInt (zas (zda x0 x1 x2) (x_1*1)).asInt).fst=A x x_1/\(zcd c (gAt (el g x)) (gAt (el g x_1)) (zas (zda x0 x1 x2) (x
*1)).asInt (zas (zda x0 x1 x2) (x_1*1)).asInt).snd=N x x_1/\True)/\True)/\∀(x_2:Unit),True->((N x x_1<(-1)->False)->((1<N x x_1->False)->((((A x x_1<0↔N x x_1=0)->False)->False)->(((c.len
:Int)<=A x x_1->False)->0<=(x:Int)/\(x:Int)<(g.len:Int)/\0<=(x_1:Int)/\(x_1:Int)<(g.len:Int)/\0<=(x:Int)/\(x:Int)<(↑(3:Nat):Int)/\x*1<(zda x0 x1 x2).length/\0<=(x_1:Int)/\
(x_1:Int)<(↑(3:Nat):Int)/\x_1*1<(zda x0 x1 x2).length/\(zaE c/\((el g x).fld (Nat.succ 6).succ).len<=100/\((el g x_1).fld (Nat.succ 6).succ).len<=100)/\(((zcd c (gAt (el g x)) (gAt (el g x_1))
(zas (zda x0 x1 x2) (x*1)).asInt (zas (zda x0 x1 x2) (x_1*1)).asInt).snd=N x x_1->False)->(false=true↔True))/\((((zcd c (gAt (el g x)) (gAt (el g x_1)) (zas (zda x0 x1 x2) (x*1)).asInt (zas (zda
x0 x1 x2) (x_1*1)).asInt).snd=N x x_1->False)->False)->((0<=A x x_1->((0<=A x x_1/\A x x_1<=(c.len:Int))/\c.len<=100/\ztJ c)/\0<=(x:Int)/\(x:Int)<(g.len:Int)/\0<=(x_1:Int)/\(x_1:Int)<
(g.len:Int)/\0<=(x:Int)/\(x:Int)<(↑(3:Nat):Int)/\x*1<(zda x0 x1 x2).length/\0<=(x_1:Int)/\(x_1:Int)<(↑(3:Nat):Int)/\x_1*1<(zda x0 x1 x2).length/\(zaE (c.sub 0 (A x x_1).toNat)
/\((el g x).fld (Nat.succ 6).succ).len<=100/\((el g x_1).fld (Nat.succ 6).succ).len<=100)/\((((zcd (c.sub 0 (A x x_1).toNat) (gAt (el g x)) (gAt (el g x_1)) (zas (zda x0 x1 x2) (x*1)).asInt (zas (zda x0 x1 x2)
(x_1*1)).asInt).snd=0->False)->False)->fits64 (A x x_1+1)/\((0<=A x x_1+1/\A x x_1+1<=(c.len:Int))/\c.len<=100/\ztJ c)/\0<=(x:Int)/\(x:Int)<(g.len:Int)/\0<=(x_1:Int)/\(x_1:Int)<
(g.len:Int)/\0<=(x:Int)/\(x:Int)<(↑(3:Nat):Int)/\x*1<(zda x0 x1 x2).length/\0<=(x_1:Int)/\(x_1:Int)<(↑(3:Nat):Int)/\x_1*1<(zda x0 x1 x2).length/\(zaE (c.sub 0 (A x x_1+
1).toNat)/\((el g x).fld (Nat.succ 6).succ).len<=100/\((el g x_1).fld (Nat.succ 6).succ).len<=100)/\(((zcd (c.sub 0 (A x x_1+1).toNat) (gAt (el g x)) (gAt (el g x_1)) (zas (zda x0 x1 x2) (x*1)).asInt (zas
(zda x0 x1 x2) (x_1*1)).asInt).snd=N x x_1->False)->(false=true↔True))/\((((zcd (c.sub 0 (A x x_1+1).toNat) (gAt (el g x)) (gAt (el g x_1)) (zas (zda x0 x1 x2) (x*1)).asInt (zas (zda x0 x1 x2) (x_1*
1)).asInt).snd=N x x_1->False)->False)->∃(x:Unit),True/\True/\True))/\(((zcd (c.sub 0 (A x x_1).toNat) (gAt (el g x)) (gAt (el g x_1)) (zas (zda x0 x1 x2) (x*1)).asInt (zas (zda x0 x1 x2) (x_1*
1)).asInt).snd=0->False)->(false=true↔True)))/\((0<=A x x_1->False)->∃(x:Unit),True/\True/\True))/\∀(x_3:Unit),True->0<=(x:Int)/\(x:Int)<(↑(3:Nat):Int)/\0<=(x_1:Int)/\(x_1:Int)
<(↑(3:Nat):Int)/\x*3+x_1*1<(nL N (3*x+x_1)).length/\fits64 ((x_1:Int)+1)/\∃(y:Nat),y.le 3/\3-y<3-x_1/\((x_1:Int)+1=(y:Int)/\True)/\(nL N (3*x+x_1)).set (x*3+x_1*1)
(D.int (N x x_1))=nL N (3*x+y)/\True))/\((c.len:Int)<=A x x_1->(false=true↔True)))/\(((A x x_1<0↔N x x_1=0)->False)->(false=true↔True)))/\(1<N x x_1->(false=true↔True)))/\(N x x_1<
(-1)->(false=true↔True)))/\(((x_1:Int)<3->False)->fits64 ((x:Int)+1)/\∃(y:Nat),y.le 3/\3-y<3-x/\((x:Int)+1=(y:Int)/\True)/\nL N (3*x+x_1)=nL N (3*y)/\True))/\(((x:Int)<
3->False)->(∃(x:Nat),x.le 3/\(0=(x:Int)/\True)/\True)/\∀(x_1:Nat),x_1.le 3->3-x_1<LIM/\((x_1:Int)<3->(∃(x:Nat),x.le 3/\(0=(x:Int)/\True)/\True)/\∀(x_2:Nat),x_2.le 3->3-x_2
<LIM/\((x_2:Int)<3->0<=(x_1:Int)/\(x_1:Int)<(↑(3:Nat):Int)/\0<=(x_2:Int)/\(x_2:Int)<(↑(3:Nat):Int)/\x_1*3+x_2*1<(nL N (3*x)).length/\0<=(x_2:Int)/\(x_2:Int)<(↑(3:Nat)
:Int)/\0<=(x_1:Int)/\(x_1:Int)<(↑(3:Nat):Int)/\x_2*3+x_1*1<(nL N (3*x)).length/\fits64 (-(zas (nL N (3*x)) (x_2*3+x_1*1)).asInt)/\(((zas (nL N (3*x)) (x_1*3+x_2*1)).asInt=
-(zas (nL N (3*x)) (x_2*3+x_1*1)).asInt->False)->(false=true↔True))/\((((zas (nL N (3*x)) (x_1*3+x_2*1)).asInt= -(zas (nL N (3*x)) (x_2*3+x_1*1)).asInt->False)->False)->(∃(x:Nat),
x.le 3/\(0=(x:Int)/\True)/\True)/\∀(x_3:Nat),x_3.le 3->3-x_3<LIM/\((x_3:Int)<3->(0<=(x_1:Int)/\(x_1:Int)<(↑(3:Nat):Int)/\0<=(x_2:Int)/\(x_2:Int)<(↑(3:Nat):Int)/\x_1*3+
x_2*1<(nL N (3*x)).length/\((zas (nL N (3*x)) (x_1*3+x_2*1)).asInt<=0->0<=(x_2:Int)/\(x_2:Int)<(↑(3:Nat):Int)/\0<=(x_3:Int)/\(x_3:Int)<(↑(3:Nat):Int)/\x_2*3+x_3*1<(nL N
(3*x)).length/\((zas (nL N (3*x)) (x_2*3+x_3*1)).asInt<=0->0<=(x_1:Int)/\(x_1:Int)<(↑(3:Nat):Int)/\0<=(x_3:Int)/\(x_3:Int)<(↑(3:Nat):Int)/\x_1*3+x_3*1<(nL N (3*x)).length
/\0<=(x_1:Int)/\(x_1:Int)<(↑(3:Nat):Int)/\0<=(x_2:Int)/\(x_2:Int)<(↑(3:Nat):Int)/\x_1*3+x_2*1<(nL N (3*x)).length/\0<=(x_2:Int)/\(x_2:Int)<(↑(3:Nat):Int)/\0<=(x_3:Int)
/\(x_3:Int)<(↑(3:Nat):Int)/\x_2*3+x_3*1<(nL N (3*x)).length/\(((zas (nL N (3*x)) (x_1*3+x_3*1)).asInt=min (zas (nL N (3*x)) (x_1*3+x_2*1)).asInt (zas (nL N (3*x)) (x_2*3+x_3
*1)).asInt->False)->(false=true↔True))/\((((zas (nL N (3*x)) (x_1*3+x_3*1)).asInt=min (zas (nL N (3*x)) (x_1*3+x_2*1)).asInt (zas (nL N (3*x)) (x_2*3+x_3*1)).asInt->False)->False)->
∃(x:Unit),True/\True/\True))/\(((zas (nL N (3*x)) (x_2*3+x_3*1)).asInt<=0->False)->∃(x:Unit),True/\True/\True))/\(((zas (nL N (3*x)) (x_1*3+x_2*1)).asInt<=0->False)->∃(x:Unit),
True/\True/\True))/\∀(x:Unit),True->fits64 ((x_3:Int)+1)/\∃(y:Nat),y.le 3/\3-y<3-x_3/\((x_3:Int)+1=(y:Int)/\True)/\True)/\(((x_3:Int)<3->False)->fits64 ((x_2:Int)+1)/\∃(y:
Nat),y.le 3/\3-y<3-x_2/\((x_2:Int)+1=(y:Int)/\True)/\True)))/\(((x_2:Int)<3->False)->fits64 ((x_1:Int)+1)/\∃(y:Nat),y.le 3/\3-y<3-x_1/\((x_1:Int)+1=(y:Int)/\True)/\
True))/\(((x_1:Int)<3->False)->(true=true↔True)))):=by intros;kernel_rfl
theorem zxm:∀(c:D) (n:Int),zae (zlU (λ(x:FuncId)=>none) λ(x:FuncId) (x_1:Nat)=>none) 4 (33:FuncId) [V.dat (22:TypeId) c,V.int IntKind.i64 n] (V.dat (22:TypeId) (c.sub 0 n.toNat))=((0
:Int)<=0/\0<=n/\n<=(c.len:Int)/\((c.sub 0 n.toNat).isNil->D.nil=c.sub 0 n.toNat)/\(((c.sub 0 n.toNat).isNil->False)->((c.sub 0 n.toNat).len=0->0+0<=([]:List D).length/\D.list (List.take 0 ([]:
List D))=c.sub 0 n.toNat)/\(0<(c.sub 0 n.toNat).len->0+0<=([]:List D).length/\0+(c.sub 0 n.toNat).len<=16777216/\(0+(c.sub 0 n.toNat).len<=0->0+0+(c.sub 0 n.toNat).len<=([]:List D).length/\0+
(c.sub 0 n.toNat).len<=(List.take (0+0) []++(c.sub 0 n.toNat).asList++List.drop (0+0+(c.sub 0 n.toNat).len) []).length/\D.list (List.take (c.sub 0 n.toNat).len (List.take (0+0) []++(c.sub 0
n.toNat).asList++List.drop (0+0+(c.sub 0 n.toNat).len) []))=c.sub 0 n.toNat)/\(0<0+(c.sub 0 n.toNat).len->0+(c.sub 0 n.toNat).len<=(List.take 0 ([]:List D)++(c.sub 0 n.toNat).asList).length/\D.list
(List.take (c.sub 0 n.toNat).len (List.take 0 ([]:List D)++(c.sub 0 n.toNat).asList))=c.sub 0 n.toNat)))):=by intros;kernel_rfl
theorem s33 (c:D) (n:Int) (h:(0<=n/\n<=c.len)/\c.len<=100/\ztJ c):zae (zlU (λ_=>none) (λ_ _=>none)) 4 33 [.dat 22 c,.int .i64 n] (.dat 22 (c.sub 0 n.toNat)):=by
 rw [zxm]
 obtain ⟨⟨h1,h2⟩,h3,hr⟩:=h
 have hl:(c.sub 0 n.toNat).len=n.toNat:=za7 c _ (by omega)
 have ne:¬(0+(c.sub 0 n.toNat).len<=0)\/(c.sub 0 n.toNat).len=0:=by omega
 rcases hr.out with rfl| ⟨r,rfl⟩
 .exact ⟨Int.le_refl _,h1,h2,λ_=>rfl,λk=>(k trivial).elim⟩
 .have e:(D.list r).sub 0 n.toNat= .list (r.take n.toNat):=rfl
  have e2:((D.list r).sub 0 n.toNat).asList=r.take n.toNat:=rfl
  have e3:(r.take n.toNat).length=n.toNat:=hl
  refine ⟨Int.le_refl _,h1,h2,λk=>k.elim,λ_=>⟨λk=>⟨Nat.le_refl _, ?_⟩,λk=>⟨Nat.le_refl _,by omega,λk'=>by omega,λ_=>⟨?_, ?_⟩⟩⟩⟩
  .rw [hl] at k;rw [k];rfl
  .rw [e2,hl,List.length_append,e3];omega
  .rw [e2,hl,e]
   show D.list (List.take n.toNat (r.take n.toNat))=_
   rw [List.take_of_length_le (by omega)]
theorem zre (N:Nat->Nat->Int) (m:Nat):(nL N m).length=9:=by unfold nL;rw [List.length_map,List.length_range]
theorem zss (N:Nat->Nat->Int):List.replicate (3*3) (D.int 0)=nL N (3*0):=rfl
theorem ztD (N:Nat->Nat->Int) {x y:Nat} (hx:x<3) (hy:y<3):(nL N (3*x+y)).set (x*3+y*1) (.int (N x y))=nL N (3*x+(y+1)):=by
 have hx:x=0\/x=1\/x=2:=by omega
 have hy:y=0\/y=1\/y=2:=by omega
 rcases hx with rfl|rfl|rfl<;>rcases hy with rfl|rfl|rfl<;>rfl
theorem zqo (N:Nat->Nat->Int) {x y:Nat} (hx:x<3) (hy:y<3):(zas (nL N (3*3)) (x*3+y*1)).asInt=N x y:=by
 have hx:x=0\/x=1\/x=2:=by omega
 have hy:y=0\/y=1\/y=2:=by omega
 rcases hx with rfl|rfl|rfl<;>rcases hy with rfl|rfl|rfl<;>rfl
structure wkF (c g:D) (A N:Nat->Nat->Int) (x0 x1 x2:Int):Prop where
 sm:zaE c
 ln:c.len<=32
 rw':ztJ c
 sb:∀n,n<=c.len->zaE (c.sub 0 n)
 gl:g.len=3
 tg:∀i,i<3->((el g i).fld (Nat.succ 6).succ).len<=100
 hA:∀i k,(zcd c (gAt (el g i)) (gAt (el g k)) (zas (zda x0 x1 x2) (i*1)).asInt (zas (zda x0 x1 x2) (k*1)).asInt).1=A i k
 hN:∀i k,(zcd c (gAt (el g i)) (gAt (el g k)) (zas (zda x0 x1 x2) (i*1)).asInt (zas (zda x0 x1 x2) (k*1)).asInt).2=N i k
 re:∀i k,zvK c (gAt (el g i)) (gAt (el g k)) (zas (zda x0 x1 x2) (i*1)).asInt (zas (zda x0 x1 x2) (k*1)).asInt
 an:∀i k,i<3->k<3->N i k= -N k i
 tr:∀i k m,i<3->k<3->m<3->N i k<=0->N k m<=0->N i m=min (N i k) (N k m)
theorem s8w (l c g:D) (A N:Nat->Nat->Int) (a0 b0 a1 b1 a2 b2 x0 x1 x2:Int) (s0 s1:Prop) (hu:zph l) (hc:c=mD l)
  (hp:zs7 (D.list (List.take 3 [D.sct [D.int a0,D.int b0],D.sct [D.int (zdU s0 a0 a1),D.int b1],D.sct [D.int a2,D.int (zdU s1 b1 b2)]])))
  (hg:g=gsD 3 (D.list (List.take 3 [D.sct [D.int a0,D.int b0],D.sct [D.int (zdU s0 a0 a1),D.int b1],D.sct [D.int a2,D.int (zdU s1 b1 b2)]])))
  (F:wkF c g A N x0 x1 x2):
  zae (zt1 (wk0 c g) A N a0 b0 a1 b1 a2 b2 x0 x1 x2 s0 s1) 4 8 [.dat 40 l,.agg [.int .u8 a0,.int .u8 b0,.int .u8 a1,.int .u8 b1,.int .u8 a2,.int .u8 b2],.agg [.prop s0,.prop s1],.agg [.int .i64 x0,.int .i64 x1,.int .i64 x2]] (.prop True):=by
 rw [vc8]
 have gl:=F.gl
 have i1:∀{p:Prop} {a b:Int},p->zdU p a b=a:=λh=>if_pos h
 have i0:∀{p:Prop} {a b:Int},(p->False)->zdU p a b=b:=λh=>if_neg h
 have e3:(3:Nat)<=3:=Nat.le_refl _
 have pl3:(zda x0 x1 x2).length=3:=rfl
 refine ⟨⟨hu,hc⟩,⟨by omega,by omega,λhs=>⟨by omega,by omega,by omega,by omega,(),trivial,trivial,⟨rfl,rfl,(i1 hs).symm,rfl,rfl,rfl,trivial⟩,trivial⟩,λhs=>⟨(),trivial,trivial,⟨rfl,rfl,(i0 hs).symm,rfl,rfl,rfl,trivial⟩,trivial⟩⟩,λ_ _=>
  ⟨⟨by omega,by omega,λhs=>⟨by omega,by omega,by omega,by omega,(),trivial,trivial,⟨rfl,rfl,rfl,rfl,rfl,(i1 hs).symm,trivial⟩,trivial⟩,λhs=>⟨(),trivial,trivial,⟨rfl,rfl,rfl,rfl,rfl,(i0 hs).symm,trivial⟩,trivial⟩⟩,λ_ _=>
  ⟨⟨by omega,by omega,by show _<3;decide,by omega,by omega,by show _<3;decide,by omega,by omega,by show _<3;decide,by omega,by omega,by show _<3;decide,by omega,by omega,by show _<3;decide,by omega,by omega,by show _<3;decide,(),trivial,trivial,rfl,trivial⟩,λ_ _=>
  ⟨e3,e3,e3,e3,⟨⟨hp,by omega,by omega⟩,hg⟩,⟨0,Nat.zero_le _,⟨rfl,trivial⟩,zss N,trivial⟩,λx hx=> ?_⟩⟩⟩⟩
 have hx:x<=3:=hx
 refine ⟨by unfold LIM;omega,λh1=>⟨⟨0,Nat.zero_le _,⟨rfl,trivial⟩,rfl,trivial⟩,λy hy=> ?_⟩,λh1=> ?_⟩
 .have hx3:x<3:=by omega
  have hy:y<=3:=hy
  refine ⟨by unfold LIM;omega,λh2=> ?_,λh2=>⟨by omega,x+1,by show x+1<=3;omega,by omega,⟨by omega,trivial⟩, ?_,trivial⟩⟩
  .have hy3:y<3:=by omega
   have R:=F.re x y
   have q1:=F.tg x hx3
   have q2:=F.tg y hy3
   have nl:=zre N (3*x+y)
   have hln:=F.ln
   obtain ⟨r1,r2,r3,r4,r5⟩:=R
   rw [F.hA x y] at r2 r3 r4 r5
   rw [F.hN x y] at r1 r2 r5
   have no:∀{p q:Prop},p->(p->False)->q:=λa b=>(b a).elim
   refine ⟨⟨by omega,by omega,by omega,by omega,by omega,by omega,by omega,by omega,by omega,by omega,⟨F.sm,q1,q2⟩,(),trivial,⟨F.hA x y,F.hN x y,trivial⟩,trivial⟩,λ_ _=>⟨λ_=>⟨λ_=>⟨λ_=>⟨λ_=>⟨by omega,by omega,by omega,by omega,by omega,by omega,by omega,by omega,by omega,by omega,⟨F.sm,q1,q2⟩,no (F.hN x y),λ_=>⟨⟨λh=>⟨⟨⟨h,by omega⟩,by omega,F.rw'⟩,by omega,by omega,by omega,by omega,by omega,by omega,by omega,by omega,by omega,by omega,⟨F.sb _ (by omega),q1,q2⟩,λ_=>⟨by omega,⟨⟨by omega,by omega⟩,by omega,F.rw'⟩,by omega,by omega,by omega,by omega,by omega,by omega,by omega,by omega,by omega,by omega,⟨F.sb _ (by omega),q1,q2⟩,no (r5 h),λ_=>⟨(),trivial,trivial,trivial⟩⟩,no (r4 h)⟩,λ_=>⟨(),trivial,trivial,trivial⟩⟩,λ_ _=>⟨by omega,by omega,by omega,by omega,by omega,by omega,y+1,by show y+1<=3;omega,by omega,⟨by omega,trivial⟩,ztD N hx3 hy3,trivial⟩⟩⟩,λh=>by omega⟩,λh=>no r2 h⟩,λh=>by omega⟩,λh=>by omega⟩⟩
  .have e:y=3:=by have h2:¬(y:Int)<3:=h2;omega
   subst e;exact congrArg (nL N) (by omega)
 .have e:x=3:=by have h1:¬(x:Int)<3:=h1;omega
  subst e
  have nl:=zre N (3*3)
  have no:∀{p q:Prop},p->(p->False)->q:=λa b=>(b a).elim
  have U:∃(_:Unit),True/\True/\True:=⟨(),trivial,trivial,trivial⟩
  refine ⟨⟨0,Nat.zero_le _,⟨rfl,trivial⟩,trivial⟩,λi hi=> ?_⟩
  have hi:i<=3:=hi
  refine ⟨by unfold LIM;omega,λh1=>⟨⟨0,Nat.zero_le _,⟨rfl,trivial⟩,trivial⟩,λk hk=> ?_⟩,λ_=>⟨λ_=>trivial,λ_=>rfl⟩⟩
  have hi3:i<3:=by omega
  have hk:k<=3:=hk
  refine ⟨by unfold LIM;omega,λh2=> ?_,λ_=>⟨by omega,i+1,by show i+1<=3;omega,by omega,⟨by omega,trivial⟩,trivial⟩⟩
  have hk3:k<3:=by omega
  rw [zqo N hi3 hk3,zqo N hk3 hi3]
  have r1:=(F.re k i).rng
  rw [F.hN k i] at r1
  refine ⟨by omega,by omega,by omega,by omega,by omega,by omega,by omega,by omega,by omega,by omega,by omega,no (F.an i k hi3 hk3),λ_=>⟨⟨0,Nat.zero_le _,⟨rfl,trivial⟩,trivial⟩,λm hm=> ?_⟩⟩
  have hm:m<=3:=hm
  refine ⟨by unfold LIM;omega,λh3=> ?_,λ_=>⟨by omega,k+1,by show k+1<=3;omega,by omega,⟨by omega,trivial⟩,trivial⟩⟩
  have hm3:m<3:=by omega
  rw [zqo N hk3 hm3,zqo N hi3 hm3]
  exact ⟨⟨by omega,by omega,by omega,by omega,by omega,λt1=>⟨by omega,by omega,by omega,by omega,by omega,λt2=>⟨by omega,by omega,by omega,by omega,by omega,by omega,by omega,by omega,by omega,by omega,by omega,by omega,by omega,by omega,by omega,no (F.tr i k m hi3 hk3 hm3 t1 t2),λ_=>U⟩,λ_=>U⟩,λ_=>U⟩,λ_ _=>⟨by omega,m+1,by show m+1<=3;omega,by omega,⟨by omega,trivial⟩,trivial⟩⟩
end
end Go.Ev

end

section
open Go.Proofs
namespace Go.Ev
noncomputable section
set_option maxRecDepth 100000
theorem v90:∀d,5<=d->VC d 90 zlR:=λd hd=>
 zad (C:=zlU (λ_=>none) zhS) (G:=GC) (B:=2) (m:=3) rfl rfl rfl (λd _=>zdC d) (λ_ _ _ _ h=>(zde h).elim) (λus p r hc hp ht=>by
  unfold zlR at hc
  split at hc
  .cases hc;exact s90 _ _ _ hp.1 hp.2
  .cases hc) (λ_ _=>rfl) rfl rfl d hd
theorem v29:∀d,5<=d->VC d 29 zti:=λd hd=>
 zad (C:=zlU (λ_=>none) zhS) (G:=GC) (B:=2) (m:=3) rfl rfl rfl (λd _=>zdC d) (λ_ _ _ _ h=>(zde h).elim) (λus p r hc hp ht=>by
  unfold zti at hc
  split at hc
  .cases hc;exact s29 _ hp
  .cases hc) (λ_ _=>rfl) rfl rfl d hd
theorem vg0:∀d,5<=d->∀g c,(λ|90=>some zlR|_=>none:FuncId->Option Con) g=some c->VC d g c:=λd hd g c h=>by
 dsimp only at h
 split at h
 .cases h;exact v90 d hd
 .cases h
theorem v30:∀d,8<=d->VC d 30 ztj:=λd hd=>
 zap (C:=zlU (λ|90=>some zlR|_=>none) zhS) (G:=GC) (B:=5) (m:=3) rfl rfl rfl vg0 (λus p r hc hp ht=>by
  unfold ztj at hc
  split at hc
  .cases hc;exact s30 _ _ hp.1 hp.2.1 hp.2.2
  .cases hc) (λ_ _=>rfl) rfl rfl d hd
theorem v33:∀d,6<=d->VC d 33 zrN:=λd hd=>
 zap (C:=zlU (λ_=>none) (λ_ _=>none)) (G:=GC) (B:=2) (m:=4) rfl rfl rfl (λd _=>zdC d) (λus p r hc hp ht=>by
  unfold zrN at hc
  split at hc
  .cases hc;exact s33 _ _ hp
  .cases hc) (λ_ _=>rfl) rfl rfl d hd
theorem zxf (c:D):∀d,5<=d->VC d 29 (znA c):=λd hd us p r hc hp=>by
 unfold znA at hc;split at hc
 .cases hc;obtain ⟨h1,rfl⟩:=hp;exact v29 d hd _ _ _ rfl h1
 .cases hc
theorem zxg (g:D):∀d,8<=d->VC d 30 (znB g):=λd hd us p r hc hp=>by
 unfold znB at hc;split at hc
 .cases hc;obtain ⟨h1,rfl⟩:=hp;exact v30 d hd _ _ _ rfl h1
 .cases hc
theorem zxB (c g:D):∀d,38<=d->∀f k,wk0 c g f=some k->VC d f k:=λd hd f k h=>by
 unfold wk0 at h
 split at h
 .cases h;exact zxf c d (by omega)
 .cases h;exact zpi (zxg g d (by omega))
 .cases h;exact v31 d (by omega)
 .cases h;exact v32 d (by omega)
 .cases h;exact v33 d (by omega)
 .cases h
structure u8I (n:Int):Prop where
 out:0<=n/\n<256
def pW (s0 s1:Prop) (a0 b0 a1 b1 a2 b2:Int):D:=D.list (List.take 3 [D.sct [D.int a0,D.int b0],D.sct [D.int (zdU s0 a0 a1),D.int b1],D.sct [D.int a2,D.int (zdU s1 b1 b2)]])
def zlQ:Con:=fun
 | [.dat 40 l,.agg [.int .u8 a0,.int .u8 b0,.int .u8 a1,.int .u8 b1,.int .u8 a2,.int .u8 b2],.agg [.prop _,.prop _],.agg [.int .i64 _,.int .i64 _,.int .i64 _]]=>some (zph l/\(u8I a0/\u8I b0)/\(u8I a1/\u8I b1)/\u8I a2/\u8I b2,.prop True)
 |_=>none
theorem zru {p:Prop} {a b:Int} (ha:u8I a) (hb:u8I b):u8I (zdU p a b):=by
 unfold zdU;split
 .exact ha
 .exact hb
theorem zuU {s0 s1:Prop} {a0 b0 a1 b1 a2 b2:Int} (h:(u8I a0/\u8I b0)/\(u8I a1/\u8I b1)/\u8I a2/\u8I b2):zs7 (pW s0 s1 a0 b0 a1 b1 a2 b2):=⟨λi hi=>by
 have hi:i<3:=hi
 have h3:i=0\/i=1\/i=2:=by omega
 rcases h3 with rfl|rfl|rfl
 .exact ⟨h.1.1.out,h.1.2.out⟩
 .exact ⟨(zru h.1.1 h.2.1.1).out,h.2.1.2.out⟩
 .exact ⟨h.2.2.1.out,(zru h.2.1.2 h.2.2.2).out⟩⟩
theorem zov (x0 x1 x2:Int) {i:Nat} (hi:i<3):inB (zas (zda x0 x1 x2) (i*1)).asInt:=by
 have h3:i=0\/i=1\/i=2:=by omega
 rcases h3 with rfl|rfl|rfl
 .exact zrB x0
 .exact zrB x1
 .exact zrB x2
theorem zqQ {l PD:D} (hu:zph l) (hl:PD.len=3) (x0 x1 x2:Int):wkF (mD l) (gsD 3 PD)
  (λi k=>(zcd (mD l) (gAt (el (gsD 3 PD) i)) (gAt (el (gsD 3 PD) k)) (zas (zda x0 x1 x2) (i*1)).asInt (zas (zda x0 x1 x2) (k*1)).asInt).1)
  (λi k=>(zcd (mD l) (gAt (el (gsD 3 PD) i)) (gAt (el (gsD 3 PD) k)) (zas (zda x0 x1 x2) (i*1)).asInt (zas (zda x0 x1 x2) (k*1)).asInt).2) x0 x1 x2:=by
 have hv:=zty hu
 have W:=zlG hv
 have sm:=zqm hu
 have gl:(gsD 3 PD).len=3:=by
  rw [znW]
  have h:(min (PD.len:Int) 3).toNat<=PD.len:=by omega
  have e:(mG 3 PD).len=(min (PD.len:Int) 3).toNat:=za7 PD _ h
  rw [e];omega
 refine ⟨sm,zqX hv,⟨?_⟩,λn hn=>⟨by rw [za7 _ n hn];have:=sm.out.1;omega,λi hi=> ?_⟩,gl,λi hi=>zuJ 3 PD (by omega),λ_ _=>rfl,λ_ _=>rfl,λi k=>zsA hv _ _ _ _,λi k hi hk=> ?_,λi k m hi hk hm t1 t2=> ?_⟩
 .show zdV _= .nil\/∃r,zdV _= .list r
  generalize mL (m8 l) (m8 l).len=r
  cases r with
  |nil=>exact .inl rfl
  |cons a r=>exact .inr ⟨_,rfl⟩
 .rw [za7 _ n hn] at hi
  rw [zcR _ n i hi]
  exact sm.out.2 i (by omega)
 .simp only [zjV hv]
  exact W.anti (_,_) (_,_) (zov x0 x1 x2 hk) (zov x0 x1 x2 hi)
 .simp only [zjV hv] at t1 t2⊢
  exact W.tri (_,_) (_,_) (_,_) (zov x0 x1 x2 hi) (zov x0 x1 x2 hk) (zov x0 x1 x2 hm) t1 t2
open Classical in
theorem v8w:∀d,42<=d->VC d 8 zlQ:=λd hd us p r hc hp=>by
 have hc0:=hc
 unfold zlQ at hc;split at hc
 .rename_i l a0 b0 a1 b1 a2 b2 s0 s1 x0 x1 x2
  exact zap (C:=zt1 (wk0 (mD l) (gsD 3 (pW s0 s1 a0 b0 a1 b1 a2 b2))) _ _ a0 b0 a1 b1 a2 b2 x0 x1 x2 s0 s1) (G:=GC) (B:=38) (m:=4) (g:=8) (c:=λus=>if us= [.dat 40 l,.agg [.int .u8 a0,.int .u8 b0,.int .u8 a1,.int .u8 b1,.int .u8 a2,.int .u8 b2],.agg [.prop s0,.prop s1],.agg [.int .i64 x0,.int .i64 x1,.int .i64 x2]] then zlQ us else none) rfl rfl rfl (zxB _ _) (λus p r hc hp ht=>by
   split at hc
   .rename_i e;subst e;cases hc
    exact s8w l _ _ _ _ a0 b0 a1 b1 a2 b2 x0 x1 x2 s0 s1 hp.1 rfl (zuU hp.2) rfl (zqQ hp.1 rfl x0 x1 x2)
   .cases hc) (λ_ _=>rfl) rfl rfl d hd _ p r (by show (if _ then _ else _)=_;rw [if_pos rfl];exact hc0) hp
 .cases hc
section
variable {P:Program}
theorem ziW {f:Nat} {t:TypeId} {d:D} {k:IntKind} (hu:P.underlying t=some (.int k)) (h:okD P (f+1) t d):inR k d.asInt:=by
 unfold okD at h;rw [hu] at h
 obtain ⟨n,rfl,hr⟩:=h
 exact hr
theorem zqs {f:Nat} {t e:TypeId} {d:D} (hu:P.underlying t=some (.slice e)) (h:okD P (f+1) t d):∀i,i<d.len->okD P f e (el d i):=by
 unfold okD at h;rw [hu] at h
 rcases h with rfl| ⟨l,rfl,_,h⟩
 .exact λi hi=>by simp [D.len,D.asList] at hi
 .refine λi hi=>h i _ ?_
  have hi:i<l.length:=hi
  show l[i]? =some (zas l i)
  unfold zas
  rw [List.getElem?_eq_getElem hi];rfl
theorem zoq {f:Nat} {t u:TypeId} {d:D} {f0 f1 f2 f3 f4:Field} (hu:P.underlying t=some (.struct #[f0,f1,f2,f3,f4])) (h0:f0.type=u) (h1:f1.type=u) (h2:f2.type=u)
  (hb:P.underlying u=some (.int .u8)) (h:okD P (f+2) t d):u8C d:=by
 unfold okD at h;rw [hu] at h
 obtain ⟨ds,rfl,hl,hf⟩:=h
 match ds,hl with
 | [a,b,c,x,y],_=>exact ⟨ziW hb (h0▸hf 0 _ a rfl rfl),ziW hb (h1▸hf 1 _ b rfl rfl),ziW hb (h2▸hf 2 _ c rfl rfl)⟩
theorem zor {f:Nat} {t u:TypeId} {d:D} {f0 f1:Field} (hu:P.underlying t=some (.struct #[f0,f1])) (h0:f0.type=u) (h1:f1.type=u)
  (hb:P.underlying u=some (.int .u8)) (h:okD P (f+2) t d):u8P d:=by
 unfold okD at h;rw [hu] at h
 obtain ⟨ds,rfl,hl,hf⟩:=h
 match ds,hl with
 | [a,b],_=>exact ⟨ziW hb (h0▸hf 0 _ a rfl rfl),ziW hb (h1▸hf 1 _ b rfl rfl)⟩
end
theorem zvV {d:D} (h:okD Tryz.prog 20 40 d):zph d:=⟨λi hi=>zoq Tryz.underlying121 rfl rfl rfl Tryz.underlying5 (zqs Tryz.underlying40 h i hi)⟩
theorem ztF {P:Program} {f n:Nat} {t e:TypeId} {d:D} (hu:P.underlying t=some (.array n e)) (h:okD P (f+1) t d) {i:Nat} (hi:i<n):okD P f e (d.fld i):=by
 unfold okD at h;rw [hu] at h
 obtain ⟨ds,rfl,hl,h⟩:=h
 refine h i _ ?_
 show ds[i]? =some (zas ds i)
 unfold zas
 rw [List.getElem?_eq_getElem (by omega)];rfl
theorem zvW {d:D} (h:okD Tryz.prog 20 43 d):(u8I ((d.fld 0).fld 0).asInt/\u8I ((d.fld 0).fld 1).asInt)/\(u8I ((d.fld 1).fld 0).asInt/\u8I ((d.fld 1).fld 1).asInt)/\u8I ((d.fld 2).fld 0).asInt/\u8I ((d.fld 2).fld 1).asInt:=by
 have k:∀i,i<3->u8P (d.fld i):=λi hi=>zor Tryz.underlying42 rfl rfl Tryz.underlying5 (ztF Tryz.underlying43 h hi)
 have k0:=(k 0 (by omega)).out
 have k1:=(k 1 (by omega)).out
 have k2:=(k 2 (by omega)).out
 exact ⟨⟨⟨k0.1⟩,⟨k0.2⟩⟩,⟨⟨k1.1⟩,⟨k1.2⟩⟩,⟨k2.1⟩,⟨k2.2⟩⟩
end
end Go.Ev

end

section
open Go.Proofs Go.Proofs.YtdojhafbgoimeaaGreatDoor
namespace Go.Ev
noncomputable section
open Go.ChangeShapes Go.WideShapes Go.ChangeAt Go.RowKit
theorem zpA {P:Program} {w:World} {n e:Nat} {k:IntKind} {t:TypeId} {fuel:Nat} {cs:List Value} {zs:List Int} {p:List MemPlace} {enc:TypeId×Value->Unit} {base:Nat} {sp:Nat->Bool} {held:Bool}
  (ht:P.underlying t=some (.array n e)) (he:P.underlying e=some (.int k)) (hc1:P.cellsOf e=1) (hct:P.cellsOf t=n)
  (h:DataW.trod enc P w base sp held fuel t cs=some (.agg (zs.map λz=> .lit (.int k z)),p)):cs=zs.map (Value.int k):=by
 obtain ⟨xs,m,_,ex,hlen,hxl,hel⟩:=DataW.trod_array ht h
 have e3:(zs.map λz=>(DataW.lit (.int k z):DataW Unit))=xs.map (·.1):=DataW.agg.inj (Prod.mk.inj ex).1
 have hzl:zs.length=n:=by have:=congrArg List.length e3;simp at this;omega
 rw [hct] at hlen
 refine List.ext_getElem? λi=> ?_
 by_cases hi:i<n
 .have k0:=hel i hi
  rw [hc1,Nat.mul_one,List.getElem?_eq_getElem (by omega:i<xs.length)] at k0
  obtain ⟨z,e1,e2,_⟩:=DataW.trod_int he k0
  have h0:((cs.drop i).take 1)[0]? =some (.int k z):=by rw [e1];rfl
  have h1:cs[i]? =some (.int k z):=by simpa using h0
  have h2:(zs.map λz=>(DataW.lit (.int k z):DataW Unit))[i]? =(xs.map (·.1))[i]? :=by rw [e3]
  rw [List.getElem?_map,List.getElem?_map,List.getElem?_eq_getElem (by omega:i<zs.length),List.getElem?_eq_getElem (by omega:i<xs.length),e2] at h2
  simp only [Option.map_some,Option.some.injEq,DataW.lit.injEq,Lit.int.injEq,true_and] at h2
  rw [h1,List.getElem?_map,List.getElem?_eq_getElem (by omega:i<zs.length),Option.map_some,h2]
 .rw [List.getElem?_eq_none (by omega),List.getElem?_eq_none (by simp;omega)]
theorem zpF {s:ByteArray} {l:List UInt8} (h:s.data.toList=l):s=⟨⟨l⟩⟩:=by subst h;rfl
theorem zlZ {P:Program} {w:World} {t ts ti tb:TypeId} {fuel:Nat} {c:List Value} {s:List UInt8} {a b:Int} {x y z:Bool} {p:List MemPlace} {enc:TypeId×Value->Unit} {base:Nat} {sp:Nat->Bool} {held:Bool} {fs:Array Field} {f0 f1 f2 f3 f4 f5:Field}
  (ht:P.underlying t=some (.struct fs)) (hf:fs= #[f0,f1,f2,f3,f4,f5]) (ho:f0.offset=0/\f1.offset=1/\f2.offset=2/\f3.offset=3/\f4.offset=4/\f5.offset=5)
  (hty:f0.type=ts/\f1.type=ti/\f2.type=ti/\f3.type=tb/\f4.type=tb/\f5.type=tb) (hs:P.underlying ts=some .string) (hi:P.underlying ti=some (.int .i64)) (hb:P.underlying tb=some .bool)
  (hc:P.cellsOf ts=1/\P.cellsOf ti=1/\P.cellsOf tb=1/\P.cellsOf t=6)
  (h:DataW.trod enc P w base sp held fuel t c=some (.agg [.lit (.string s),.lit (.int .i64 a),.lit (.int .i64 b),.lit (.bool x),.lit (.bool y),.lit (.bool z)],p)):
  c= [.string ⟨⟨s⟩⟩,.int .i64 a,.int .i64 b,.bool x,.bool y,.bool z]:=by
 obtain ⟨xs,m,_,ex,hlen,hxl,hel⟩:=DataW.trod_struct ht h
 subst hf
 rw [hc.2.2.2] at hlen
 have hxl:xs.length=6:=hxl
 match xs,hxl with
 | [x0,x1,x2,x3,x4,x5],_=>
  have e3:=DataW.agg.inj (Prod.mk.inj ex).1
  simp only [List.map_cons,List.map_nil,List.cons.injEq,and_true] at e3
  obtain ⟨g0,g1,g2,g3,g4,g5⟩:=e3
  match c,hlen with
  | [c0,c1,c2,c3,c4,c5],_=>
   have k0:=hel 0 f0 rfl
   have k1:=hel 1 f1 rfl
   have k2:=hel 2 f2 rfl
   have k3:=hel 3 f3 rfl
   have k4:=hel 4 f4 rfl
   have k5:=hel 5 f5 rfl
   rw [ho.1,hty.1,hc.1] at k0
   rw [ho.2.1,hty.2.1,hc.2.1] at k1
   rw [ho.2.2.1,hty.2.2.1,hc.2.1] at k2
   rw [ho.2.2.2.1,hty.2.2.2.1,hc.2.2.1] at k3
   rw [ho.2.2.2.2.1,hty.2.2.2.2.1,hc.2.2.1] at k4
   rw [ho.2.2.2.2.2,hty.2.2.2.2.2,hc.2.2.1] at k5
   obtain ⟨v0,d0,q0,_⟩:=DataW.trod_string hs k0
   obtain ⟨v1,d1,q1,_⟩:=DataW.trod_int hi k1
   obtain ⟨v2,d2,q2,_⟩:=DataW.trod_int hi k2
   obtain ⟨v3,d3,q3⟩:=DataW.trod_bool hb k3
   obtain ⟨v4,d4,q4⟩:=DataW.trod_bool hb k4
   obtain ⟨v5,d5,q5⟩:=DataW.trod_bool hb k5
   have d0:c0= .string v0:=(List.cons.inj d0).1
   have d1:c1= .int .i64 v1:=(List.cons.inj d1).1
   have d2:c2= .int .i64 v2:=(List.cons.inj d2).1
   have d3:c3= .bool v3:=(List.cons.inj d3).1
   have d4:c4= .bool v4:=(List.cons.inj d4).1
   have d5:c5= .bool v5:=(List.cons.inj d5).1
   subst q0 q1 q2 q3 q4 q5
   have r0:=Lit.string.inj (DataW.lit.inj g0)
   have r1:=(Lit.int.inj (DataW.lit.inj g1)).2
   have r2:=(Lit.int.inj (DataW.lit.inj g2)).2
   have r3:=Lit.bool.inj (DataW.lit.inj g3)
   have r4:=Lit.bool.inj (DataW.lit.inj g4)
   have r5:=Lit.bool.inj (DataW.lit.inj g5)
   subst r1 r2 r3 r4 r5
   rw [d0,d1,d2,d3,d4,d5,zpF r0.symm]
theorem zkG {α:Type} {k:Nat}:∀(n:Nat) {a b:List α},a.length=n*k->b.length=n*k->(∀i,i<n->(a.drop (i*k)).take k=(b.drop (i*k)).take k)->a=b
 |0,a,b,ha,hb,_=>by rw [List.eq_nil_of_length_eq_zero (by omega:a.length=0),List.eq_nil_of_length_eq_zero (by omega:b.length=0)]
 |n+1,a,b,ha,hb,h=>by
  have h0:=h 0 (by omega)
  rw [Nat.zero_mul,List.drop_zero,List.drop_zero] at h0
  have ha':a.length=n*k+k:=by rw [ha,Nat.succ_mul]
  have hb':b.length=n*k+k:=by rw [hb,Nat.succ_mul]
  have h1:a.drop k=b.drop k:=zkG (k:=k) n (by rw [List.length_drop];omega) (by rw [List.length_drop];omega) λi hi=>by
   have:=h (i+1) (by omega)
   rw [List.drop_drop,List.drop_drop]
   rw [Nat.succ_mul,Nat.add_comm] at this
   exact this
  rw [<-List.take_append_drop k a,<-List.take_append_drop k b,h0,h1]
def zrj:List Int:= [1,10,100,1000,10000,100000,1000000,10000000,100000000,1000000000,10000000000,100000000000,1000000000000,10000000000000,100000000000000,1000000000000000,10000000000000000,100000000000000000,1000000000000000000,10000000000000000000]
abbrev zsh:List (String×DataW Unit):=Rows.courtWeakRow.laid
theorem zqv {W:World} (h:laidMetH Tryz.prog zsh W):∃cs,W.var? Tryz.prog "internal/strconv.uint64pow10" =some cs/\cs.toList=zri:=by
 rw [MakeChecks.laidMetH_plain _ _ _ (by kernel_rfl)] at h
 obtain ⟨ps,hl,_,_⟩:=h
 obtain ⟨_,_,_,_,_,_,_,_,_,_,hl,_⟩:=hl
 obtain ⟨_,_,_,_,_,_,_,_,_,_,hl,_⟩:=hl
 obtain ⟨g,t,cs,fuel,p,q,hg,ht,hv,hd,_,_⟩:=hl
 obtain rfl:=Option.some.inj ((show Tryz.prog.globalNamed "internal/strconv.uint64pow10" =some 6 by kernel_rfl).symm.trans hg)
 obtain rfl:=Option.some.inj ((show (Tryz.prog.globals[6]?).map (·.type)=some 270 by kernel_rfl).symm.trans ht)
 refine ⟨cs,hv, ?_⟩
 have e:(Rows.laid_internal_strconv_uint64pow10:DataW Unit)= .agg (zrj.map λz=> .lit (.int .u64 z)):=by kernel_rfl
 rw [e] at hd
 exact zpA (zs:=zrj) (n:=20) (e:=254) Tryz.underlying270 Tryz.underlying254 (by kernel_rfl) (by kernel_rfl) hd
theorem zl0 {W:World} (h:laidMetH Tryz.prog zsh W):∃cs,W.var? Tryz.prog "trestle/court.forms" =some cs/\cs.toList=zq4:=by
 rw [MakeChecks.laidMetH_plain _ _ _ (by kernel_rfl)] at h
 obtain ⟨ps,hl,_,_⟩:=h
 obtain ⟨_,_,_,_,_,_,_,_,_,_,hl,_⟩:=hl
 obtain ⟨_,_,_,_,_,_,_,_,_,_,hl,_⟩:=hl
 obtain ⟨_,_,_,_,_,_,_,_,_,_,hl,_⟩:=hl
 obtain ⟨_,_,_,_,_,_,_,_,_,_,hl,_⟩:=hl
 obtain ⟨_,_,_,_,_,_,_,_,_,_,hl,_⟩:=hl
 obtain ⟨_,_,_,_,_,_,_,_,_,_,hl,_⟩:=hl
 obtain ⟨g,t,cs,fuel,p,q,hg,ht,hv,hd,_,_⟩:=hl
 obtain rfl:=Option.some.inj ((show Tryz.prog.globalNamed "trestle/court.forms" =some 0 by kernel_rfl).symm.trans hg)
 obtain rfl:=Option.some.inj ((show (Tryz.prog.globals[0]?).map (·.type)=some 196 by kernel_rfl).symm.trans ht)
 refine ⟨cs,hv, ?_⟩
 obtain ⟨xs,m,_,ex,hlen,hxl,hel⟩:=DataW.trod_array Tryz.underlying196 hd
 have hc6:Tryz.prog.cellsOf 195=6:=by kernel_rfl
 rw [show Tryz.prog.cellsOf 196=66 by kernel_rfl] at hlen
 rw [hc6] at hel
 match xs,hxl with
 | [x0,x1,x2,x3,x4,x5,x6,x7,x8,x9,x10],_=>
  have e3:=DataW.agg.inj (Prod.mk.inj ex).1
  simp only [List.map_cons,List.map_nil,List.cons.injEq,and_true] at e3
  obtain ⟨g0,g1,g2,g3,g4,g5,g6,g7,g8,g9,g10⟩:=e3
  have one:∀{c:List Value} {x:DataW Unit×List MemPlace} {s:List UInt8} {a b:Int} {u v z:Bool},DataW.trod (λ_=>()) Tryz.prog W 0 (λ_=>true) false m 195 c=some x->DataW.agg [.lit (.string s),.lit (.int .i64 a),.lit (.int .i64 b),.lit (.bool u),.lit (.bool v),.lit (.bool z)]=x.1->c= [.string ⟨⟨s⟩⟩,.int .i64 a,.int .i64 b,.bool u,.bool v,.bool z]:=λ{c x s a b u v z} h1 h2=>by
   obtain ⟨x1,x2⟩:=x
   cases h2
   exact zlZ Tryz.underlying195 rfl ⟨rfl,rfl,rfl,rfl,rfl,rfl⟩ ⟨rfl,rfl,rfl,rfl,rfl,rfl⟩ Tryz.underlying9 Tryz.underlying3 Tryz.underlying4 ⟨by kernel_rfl,by kernel_rfl,by kernel_rfl,hc6⟩ h1
  refine zkG (k:=6) 11 hlen (by rfl) λi hi=> ?_
  match i,hi with
  |0,h=>exact one (hel 0 h) g0
  |1,h=>exact one (hel 1 h) g1
  |2,h=>exact one (hel 2 h) g2
  |3,h=>exact one (hel 3 h) g3
  |4,h=>exact one (hel 4 h) g4
  |5,h=>exact one (hel 5 h) g5
  |6,h=>exact one (hel 6 h) g6
  |7,h=>exact one (hel 7 h) g7
  |8,h=>exact one (hel 8 h) g8
  |9,h=>exact one (hel 9 h) g9
  |10,h=>exact one (hel 10 h) g10
theorem zpj {W:World} (hsh:W.ShapedOpen Tryz.prog) {g e:Nat} {n:String} {cs:Array Value} (hg:Tryz.prog.globalNamed n=some g) (hlt:g<Tryz.prog.globals.size)
  (ht:(((begin Tryz.prog (λ_ _=>0) default).world.heap[g]?).bind Obj.row?).map (·.2)=some e) (hv:W.var? Tryz.prog n=some cs):∃arr fz,W.heap[g]? =some (.cells arr e fz)/\arr.toList=cs.toList:=by
 cases hr:((begin Tryz.prog (λ_ _=>0) default).world.heap[g]?).bind Obj.row? with
 |none=>rw [hr] at ht;cases ht
 |some y=>
  obtain ⟨zero,t⟩:=y
  rw [hr] at ht
  simp only [Option.map_some,Option.some.injEq] at ht
  subst ht
  obtain ⟨cs',h1,_,_⟩:=hsh.1 g zero _ hlt hr
  refine ⟨cs',_,h1, ?_⟩
  have:W.var? Tryz.prog n=some cs':=by
   unfold World.var?
   rw [hg]
   simp only [Option.bind_some,h1]
  rw [hv] at this
  rw [Option.some.inj this]
theorem laidG_of {W:World} (hsh:W.ShapedOpen Tryz.prog) (h:laidMetH Tryz.prog zsh W):LaidG W:=λx hx=>by
 rcases List.mem_cons.1 hx with hx|hx
 .subst hx
  refine ⟨by show 0<9;omega,by kernel_rfl, ?_⟩
  obtain ⟨cs,hv,hc⟩:=zl0 h
  obtain ⟨arr,fz,h1,h2⟩:=zpj hsh (e:=196) (show Tryz.prog.globalNamed "trestle/court.forms" =some 0 by kernel_rfl) (Nat.le_of_ble_eq_true (by kernel_rfl)) (by kernel_rfl) hv
  exact ⟨arr,fz,h1,h2.trans hc⟩
 .have hx:=List.mem_singleton.1 hx
  subst hx
  refine ⟨by show 6<9;omega,by kernel_rfl, ?_⟩
  obtain ⟨cs,hv,hc⟩:=zqv h
  obtain ⟨arr,fz,h1,h2⟩:=zpj hsh (e:=270) (show Tryz.prog.globalNamed "internal/strconv.uint64pow10" =some 6 by kernel_rfl) (Nat.le_of_ble_eq_true (by kernel_rfl)) (by kernel_rfl) hv
  exact ⟨arr,fz,h1,h2.trans hc⟩
end
end Go.Ev

end
