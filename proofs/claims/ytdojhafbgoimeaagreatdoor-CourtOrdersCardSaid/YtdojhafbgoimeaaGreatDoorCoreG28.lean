/- Part of the proof. -/
import Derived.Test.YtdojhafbgoimeaaGreatDoorCoreG23
import Derived.Test.YtdojhafbgoimeaaGreatDoorCoreG27

section
open Go.Proofs
namespace Go.Ev
noncomputable section
def rkZ (c g:D) (x y:Nat):Int:=zwl c (gAt (el g x),x) (gAt (el g y),y)
theorem zqP {α β:Type} {A:α->Prop} {f:α->α->Int} (h:wkP A f) (m:β->α):wkP (λb=>A (m b)) (λa b=>f (m a) (m b)):=
 ⟨λa b=>h.rng _ _,λa b=>h.anti _ _,λa b c=>h.tri _ _ _⟩
theorem zt6 {c:D} (hv:(zaK c).2=0) (g:D):wkP (λx:Nat=>inB x) (rkZ c g):=zqP (zne hv) (λx:Nat=>(gAt (el g x),(x:Int)))
theorem ztr {c:D} (hv:(zaK c).2=0):wkP (λp:D=>inB (gP p).2) (zaZ c):=zqP (zne hv) gP
theorem ztM (g:D) (x:Nat):gP (plG g x)=(gAt (el g x),(x:Int)):=rfl
def plN (p:D):Nat:=(p.fld 1).asInt.toNat
theorem zvq (g:D) (xs:List Nat):zdL (.list (xs.map (plG g))) (D.list (xs.map (plG g))).len=xs.map (plG g):=by
 unfold zdL
 apply List.ext_getElem?
 intro i
 rw [List.getElem?_map]
 rcases Nat.lt_or_ge i xs.length with h|h
 .rw [List.getElem?_range (by show i<(xs.map _).length;rw [List.length_map];exact h),List.getElem?_map,List.getElem?_eq_getElem h]
  show some (pl (zai (xs.map (plG g)) i))=_
  unfold zai
  rw [List.getElem?_map,List.getElem?_eq_getElem h];rfl
 .rw [List.getElem?_eq_none (by rw [List.length_range];show (xs.map _).length<=i;rw [List.length_map];exact h),List.getElem?_eq_none (by rw [List.length_map];exact h)];rfl
theorem zeT {s:List Nat} (h:s≠ []):iD s= .list (iL s):=by
 unfold iD iL;cases s with
 |nil=>exact absurd rfl h
 |cons a s=>rfl
theorem zaQ (s:List Nat):(iD s).len=s.length:=by
 unfold iD;show (zba _).asList.length=_;rw [zcV];unfold iL;rw [List.length_map]
theorem zvJ {s:List Nat} {i:Nat} (h:i<s.length):el (iD s) i= .int (s[i]:Nat):=by
 show zai (zba _).asList i=_
 rw [zcV]
 unfold zai iL
 rw [List.getElem?_map,List.getElem?_eq_getElem h];rfl
theorem zdl (l:List D):(zba l).len=l.length:=by show (zba l).asList.length=_;rw [zcV]
theorem zn9 {l:List D} {i:Nat} (h:i<l.length):el (zba l) i=l[i]:=by
 show zai (zba l).asList i=_
 rw [zcV];unfold zai;rw [List.getElem?_eq_getElem h];rfl
theorem zwu {c g:D} (hv:(zaK c).2=0) {xs:List Nat} (hlt:∀x,x∈xs->x<64) (hinc:xs.Pairwise (· < ·)):
  ∃G:List (List Nat),grD c (.list (xs.map (plG g)))=zba (G.map iD)/\zou (rkZ c g) (λx=>(x:Int)) xs G:=by
 have hR:=zvq g xs
 have hS:za6 c (.list (xs.map (plG g)))=zjq (zaZ c) [] (xs.map (plG g)):=by unfold za6;rw [hR]
 have hA:∀p,p∈xs.map (plG g)->inB (gP p).2:=λp hp=>by
  obtain ⟨x,hx,rfl⟩:=List.mem_map.1 hp
  exact ⟨by rw [ztM];show (0:Int)<=x;omega,by rw [ztM];show (x:Int)<64;have:=hlt x hx;omega⟩
 have hsort:=zhV (ztr hv) (p:=λp=>(p.fld 1).asInt) (xs.map (plG g)) [] (λx hx=>by cases hx) hA .nil (λx y hx=>by cases hx) (by
  rw [List.pairwise_map]
  exact hinc.imp λ{a b} h=>by show (a:Int)<b;omega)
 have hperm:=zfm (f:=zaZ c) (xs.map (plG g)) []
 generalize hSe:zjq (zaZ c) [] (xs.map (plG g))=S at hS hsort hperm
 have hperm:S.Perm (xs.map (plG g)):=hperm
 have hgrp:=zoB (ztr hv) (p:=λp=>(p.fld 1).asInt) S (λp hp=>hA p (hperm.mem_iff.1 hp)) hsort
 have hmem:∀G,G∈zda (zaZ c) S->∀p,p∈G->∃x,x∈xs/\p=plG g x:=λG hG p hp=>by
  have:p∈xs.map (plG g):=hperm.mem_iff.1 (hgrp.perm.mem_iff.1 (List.mem_flatten.2 ⟨G,hG,hp⟩))
  obtain ⟨x,hx,e⟩:=List.mem_map.1 this
  exact ⟨x,hx,e.symm⟩
 refine ⟨(zda (zaZ c) S).map (·.map plN), ?_, ?_⟩
 .unfold grD grL
  have hlen:S.length=(D.list (xs.map (plG g))).len:=hperm.length_eq
  rw [hS,<-hlen,List.take_length,List.map_map]
  congr 1
  refine List.map_congr_left λG hG=> ?_
  have hne:=hgrp.ne G hG
  show zjR G=iD (G.map plN)
  rw [zeT (by intro h;exact hne (List.map_eq_nil_iff.1 h))]
  unfold zjR iL
  rw [List.map_map]
  congr 1
  refine List.map_congr_left λp hp=> ?_
  obtain ⟨x,_,rfl⟩:=hmem G hG p hp
  rfl
 .refine ⟨?_,λG' hG'=> ?_,λG' hG'=> ?_,λG' hG'=> ?_, ?_⟩
  .have h1:=(hgrp.perm.trans hperm).map plN
   rw [List.map_map] at h1
   have e:(plN∘plG g)=id:=by funext x;rfl
   rw [e,List.map_id] at h1
   rw [List.map_flatten] at h1
   exact h1
  .obtain ⟨G,hG,rfl⟩:=List.mem_map.1 hG'
   intro h;exact hgrp.ne G hG (List.map_eq_nil_iff.1 h)
  .obtain ⟨G,hG,rfl⟩:=List.mem_map.1 hG'
   rw [List.pairwise_map]
   refine (hgrp.inc G hG).imp_of_mem λ{a b} ha hb hab=> ?_
   obtain ⟨x,_,rfl⟩:=hmem G hG a ha
   obtain ⟨y,_,rfl⟩:=hmem G hG b hb
   exact hab
  .obtain ⟨G,hG,rfl⟩:=List.mem_map.1 hG'
   intro x y hx hy
   obtain ⟨a,ha,rfl⟩:=List.mem_map.1 hx
   obtain ⟨b,hb,rfl⟩:=List.mem_map.1 hy
   have t:=hgrp.tie G hG a b ha hb
   obtain ⟨x,_,rfl⟩:=hmem G hG a ha
   obtain ⟨y,_,rfl⟩:=hmem G hG b hb
   exact t
  .rw [List.pairwise_map]
   refine hgrp.bef.imp_of_mem λ{G H} hG hH hab x y hx hy=> ?_
   obtain ⟨a,ha,rfl⟩:=List.mem_map.1 hx
   obtain ⟨b,hb,rfl⟩:=List.mem_map.1 hy
   have t:=hab a b ha hb
   obtain ⟨x,_,rfl⟩:=hmem G hG a ha
   obtain ⟨y,_,rfl⟩:=hmem H hH b hb
   exact t
theorem zvW {g:D} (ht:tgG g) {xs:List Nat} (h:∀x,x∈xs->x<g.len):tgP (.list (xs.map (plG g))):=⟨λi hi=>by
 have hi:i<xs.length:=by have hi:i<(xs.map (plG g)).length:=hi;rwa [List.length_map] at hi
 show (gAt ((zai (xs.map (plG g)) i).fld 0)).tg.len<=100
 unfold zai
 rw [List.getElem?_map,List.getElem?_eq_getElem hi]
 exact ht.out xs[i] (h _ (List.getElem_mem hi))⟩
theorem zoJ {f:Nat->Nat->Int} {p:Nat->Int} {xs:List Nat} {G:List (List Nat)} (h:zou f p xs G):G.length<=xs.length/\∀s,s∈G->s.length<=xs.length:=by
 have hl:G.flatten.length=xs.length:=h.perm.length_eq
 refine ⟨?_,λs hs=>by rw [<-hl];exact (List.sublist_flatten_of_mem hs).length_le⟩
 rw [<-hl]
 have hn:=h.ne
 have gen:∀o:List (List Nat),(∀g,g∈o->g≠ [])->o.length<=o.flatten.length:=by
  intro o
  induction o with
  |nil=>intro _;exact Nat.le_refl _
  |cons g o ih=>
   intro h
   have h1:=List.length_pos_iff.2 (h g (List.mem_cons_self ..))
   have h2:=ih (λg hg=>h g (List.mem_cons_of_mem _ hg))
   rw [List.flatten_cons,List.length_append,List.length_cons];omega
 exact gen G hn
theorem zyH {G:List (List Nat)} {n:Nat} (hn:n<=100) (h1:G.length<=n) (h2:∀s,s∈G->s.length<=n):zbJ (zba (G.map iD)):=⟨by rw [zdl,List.length_map];omega,λi hi=>by
 rw [zdl] at hi
 rw [zn9 hi,List.getElem_map,zaQ]
 have:=h2 _ (List.getElem_mem (by rwa [List.length_map] at hi:i<G.length));omega⟩
theorem zx1 {G:List (List Nat)} {n m:Nat} (hn:n<=100) (h1:G.length<=n) (h2:∀s,s∈G->s.length<=n) (h3:∀s,s∈G->∀x,x∈s->x<m):zws (zba (G.map iD)) m:=⟨⟨by rw [zdl,List.length_map];omega,λi j hi hj=>by
 rw [zdl] at hi
 rw [zn9 hi,List.getElem_map] at hj⊢
 rw [zaQ] at hj
 rw [zvJ hj]
 have:=h3 _ (List.getElem_mem (by rwa [List.length_map] at hi:i<G.length)) _ (List.getElem_mem hj)
 show (0:Int)<=(_:Nat)/\((_:Nat):Int)<_
 omega⟩,zyH hn h1 h2⟩
theorem zu9 {f:Nat->Nat->Int} {p:Nat->Int} {xs:List Nat} {G:List (List Nat)} (h:zou f p xs G) {s:List Nat} (hs:s∈G) {x:Nat} (hx:x∈s):x∈xs:=h.perm.mem_iff.1 (List.mem_flatten.2 ⟨s,hs,hx⟩)
end
end Go.Ev

end

section
open Go.Proofs
namespace Go.Ev
noncomputable section
set_option maxRecDepth 100000
set_option maxHeartbeats 4000000
theorem zzO:∀(c g:D),zac (zbp os0 c g) 4 (68:FuncId) [V.dat (22:TypeId) c,V.dat (23:TypeId) g] (V.dat (34:TypeId) (deD c g))=(((g.len:Int)<=64->zan c/\(((zaK c).snd=0->False)->D.nil=
deD c g)/\((((zaK c).snd=0->False)->False)->c.len<=100/\g.len<=100/\0<=(c.len:Int)/\(c.len:Int)<=(c.len:Int)/\(c.len:Int)<=16777216/\(zbp (λ_=>none) D.nil D.nil).P.types[4].bytes*c.len<=
281474976710656/\(∃(x:Nat),x.le g.len/\(0=(x:Int)/\True)/\List.replicate c.len (D.bool (false=true))=dcL c g x 0/\True)/\∀(x:Nat),x.le g.len->g.len-x<LIM/\((x:Int)<(↑(plL g g.len).length:
Int)->0<=(x:Int)/\(x:Int)<(↑(plL g g.len).length:Int)/\(0:Int)<=0/\0<=(x:Int)/\(x:Int)<=(↑(plL g g.len).length:Int)/\(∃(x_1:Nat),x_1.le x/\(0=(x_1:Int)/\True)/\dcL c g x 0=dcL c g x
x_1/\True)/\∀(x_1:Nat),x_1.le x->x-x_1<LIM/\((x_1:Int)<(↑((D.list (plL g g.len)).sub 0 x).len:Int)->0<=(x_1:Int)/\(x_1:Int)<(↑((D.list (plL g g.len)).sub 0 x).len:Int)/\(((zaG c
c.len).length<=100/\∀(k:Nat),k<(zaG c c.len).length->okA (el (D.list (zaG c c.len)) k))/\(((zai (plL g g.len) x).fld 0).fld (Nat.succ 6).succ).len<=100/\(((el ((D.list (plL g g.len)).sub 0 x) x_1).fld
0).fld (Nat.succ 6).succ).len<=100)/\(((zof (D.list (zaG c c.len)) (gAt ((zai (plL g g.len) x).fld 0)) (gAt ((el ((D.list (plL g g.len)).sub 0 x) x_1).fld 0)) ((zai (plL g g.len) x).fld 1).asInt ((el ((D.list
(plL g g.len)).sub 0 x) x_1).fld 1).asInt).snd=0->False)->0<=(zof (D.list (zaG c c.len)) (gAt ((zai (plL g g.len) x).fld 0)) (gAt ((el ((D.list (plL g g.len)).sub 0 x) x_1).fld 0)) ((zai (plL g g.len) x).fld
1).asInt ((el ((D.list (plL g g.len)).sub 0 x) x_1).fld 1).asInt).fst/\(zof (D.list (zaG c c.len)) (gAt ((zai (plL g g.len) x).fld 0)) (gAt ((el ((D.list (plL g g.len)).sub 0 x) x_1).fld 0)) ((zai (plL g g.len)
x).fld 1).asInt ((el ((D.list (plL g g.len)).sub 0 x) x_1).fld 1).asInt).fst<(c.len:Int)/\(zof (D.list (zaG c c.len)) (gAt ((zai (plL g g.len) x).fld 0)) (gAt ((el ((D.list (plL g g.len)).sub 0 x) x_1).fld 0))
((zai (plL g g.len) x).fld 1).asInt ((el ((D.list (plL g g.len)).sub 0 x) x_1).fld 1).asInt).fst.toNat<(dcL c g x x_1).length/\fits64 ((x_1:Int)+1)/\∃(y:Nat),y.le x/\x-y<x-x_1/\((x_1:Int)+1=(y
:Int)/\True)/\(dcL c g x x_1).set (zof (D.list (zaG c c.len)) (gAt ((zai (plL g g.len) x).fld 0)) (gAt ((el ((D.list (plL g g.len)).sub 0 x) x_1).fld 0)) ((zai (plL g g.len) x).fld 1).asInt ((el ((D.list (plL g
g.len)).sub 0 x) x_1).fld 1).asInt).fst.toNat (D.bool (true=true))=dcL c g x y/\True)/\((((zof (D.list (zaG c c.len)) (gAt ((zai (plL g g.len) x).fld 0)) (gAt ((el ((D.list (plL g g.len)).sub 0 x) x_1).fld 0))
((zai (plL g g.len) x).fld 1).asInt ((el ((D.list (plL g g.len)).sub 0 x) x_1).fld 1).asInt).snd=0->False)->False)->fits64 ((x_1:Int)+1)/\∃(y:Nat),y.le x/\x-y<x-x_1/\((x_1:Int)+1=(y:Int)/\
True)/\dcL c g x x_1=dcL c g x y/\True))/\(((x_1:Int)<(↑((D.list (plL g g.len)).sub 0 x).len:Int)->False)->fits64 ((x:Int)+1)/\∃(y:Nat),y.le g.len/\g.len-y<g.len-x/\((x:Int)+1=(y:
Int)/\True)/\dcL c g x x_1=dcL c g y 0/\True))/\(((x:Int)<(↑(plL g g.len).length:Int)->False)->((∃(x:Nat),(x<=c.len/\dlP c g x= [])/\(0=(x:Int)/\True/\True)/\True)\/∃(x:Nat),(x<=c.len/\
0<(dlP c g x).length)/\(0=(x:Int)/\False/\True)/\False/\True)/\(∀(x_1:Nat),x_1<=c.len/\dlP c g x_1= []->c.len-x_1<LIM/\((x_1:Int)<(c.len:Int)->0<=(x_1:Int)/\(x_1:Int)<(c.len:Int)
/\x_1<(dcL c g x 0).length/\((zai (dcL c g x 0) x_1).asProp->0+1<= [D.int (x_1:Int)].length/\(1:Nat)<=8796093022208/\fits64 ((x_1:Int)+1)/\((∃(y:Nat),(y<=c.len/\dlP c g y= [])/\c.len-y<
c.len-x_1/\((x_1:Int)+1=(y:Int)/\False/\True)/\True)\/∃(y:Nat),(y<=c.len/\0<(dlP c g y).length)/\c.len-y<c.len-x_1/\((x_1:Int)+1=(y:Int)/\((0:Nat)=0/\1=(dlP c g y).length/\
True)/\True)/\List.take 1 [D.int (x_1:Int)]=dlP c g y/\True))/\(((zai (dcL c g x 0) x_1).asProp->False)->fits64 ((x_1:Int)+1)/\((∃(y:Nat),(y<=c.len/\dlP c g y= [])/\c.len-y<c.len-x_1/\((x_1
:Int)+1=(y:Int)/\True/\True)/\True)\/∃(y:Nat),(y<=c.len/\0<(dlP c g y).length)/\c.len-y<c.len-x_1/\((x_1:Int)+1=(y:Int)/\False/\True)/\False/\True)))/\(((x_1:Int)<(c.len:Int)
->False)->D.nil=deD c g))/\∀(x_1:Nat),x_1<=c.len/\0<(dlP c g x_1).length->c.len-x_1<LIM/\((x_1:Int)<(c.len:Int)->0<=(x_1:Int)/\(x_1:Int)<(c.len:Int)/\x_1<(dcL c g x 0).length/\
((zai (dcL c g x 0) x_1).asProp->0+1<= [D.int (x_1:Int)].length/\0+(dlP c g x_1).length<=(dlP c g x_1).length/\(dlP c g x_1).length+1<=8796093022208/\fits64 ((x_1:Int)+1)/\((∃(y:Nat),(y<=c.len/\
dlP c g y= [])/\c.len-y<c.len-x_1/\((x_1:Int)+1=(y:Int)/\False/\True)/\True)\/∃(y:Nat),(y<=c.len/\0<(dlP c g y).length)/\c.len-y<c.len-x_1/\((x_1:Int)+1=(y:Int)/\((0:Nat)=
0/\(dlP c g x_1).length+1=(dlP c g y).length/\True)/\True)/\List.take (dlP c g x_1).length (dlP c g x_1)++List.take 1 [D.int (x_1:Int)]=dlP c g y/\True))/\(((zai (dcL c g x 0) x_1).asProp->False)->
fits64 ((x_1:Int)+1)/\((∃(y:Nat),(y<=c.len/\dlP c g y= [])/\c.len-y<c.len-x_1/\((x_1:Int)+1=(y:Int)/\False/\True)/\True)\/∃(y:Nat),(y<=c.len/\0<(dlP c g y).length)/\c.len-y<
c.len-x_1/\((x_1:Int)+1=(y:Int)/\((0:Nat)=0/\(dlP c g x_1).length=(dlP c g y).length/\True)/\True)/\dlP c g x_1=dlP c g y/\True)))/\(((x_1:Int)<(c.len:Int)->False)->0+(dlP c g
x_1).length<=(dlP c g x_1).length/\D.list (List.take (dlP c g x_1).length (dlP c g x_1))=deD c g))))/\(((g.len:Int)<=64->False)->D.nil=deD c g)):=by intros;kernel_rfl
def zub (c:D) (g:D) (x:Nat) (x_1:Nat):Prop:=
 (fdP c g x x_1 0->False)->(∃(x_2:Nat),x_2.le g.len/\(0=(x_2:Int)/\(fdP c g x x_1 0↔fdP c g x x_1 x_2)/\True)/\True)/\∀(x_2:Nat),x_2.le g.len->g.len-x_2<LIM/\((x_2:Int)<(g.len:Int)->0<=
 (x_1:Int)/\(x_1:Int)<(g.len:Int)/\0<=(x_2:Int)/\(x_2:Int)<(g.len:Int)/\((zan c/\(zaK c).snd=0)/\((el g x_1).fld (Nat.succ 6).succ).len<=100/\((el g x_2).fld (Nat.succ 6).succ).len<=100)/\
 ((fdP c g x x_1 x_2->False)->fits64 ((x_2:Int)+1)/\∃(y:Nat),y.le g.len/\g.len-y<g.len-x_2/\((x_2:Int)+1=(y:Int)/\((zaM (clE c (gAt (el g x_1)) (gAt (el g x_2)) (x_1:Int) (x_2:Int)) c.len
 0).fst=(x:Int)↔fdP c g x x_1 y)/\True)/\True)/\(fdP c g x x_1 x_2->fits64 ((x_2:Int)+1)/\∃(y:Nat),y.le g.len/\g.len-y<g.len-x_2/\((x_2:Int)+1=(y:Int)/\(true=true↔fdP c g x x_1 y)/\
 True)/\True))/\(((x_2:Int)<(g.len:Int)->False)->fits64 ((x_1:Int)+1)/\∃(y:Nat),y.le g.len/\g.len-y<g.len-x_1/\((x_1:Int)+1=(y:Int)/\(fdP c g x x_1 x_2↔fdP c g x y 0)/\True)/\True)
def zuR (c:D) (g:D) (x:Nat) (x_1:Nat):Prop:=
 fdP c g x x_1 0->0+1<= [D.int (x:Int)].length/\0+(zbZ c g x).length<=(zbZ c g x).length/\(zbZ c g x).length+1<=8796093022208/\fits64 ((x:Int)+1)/\((∃(y:Nat),(y<=c.len/\zbZ c g y= [])/\c.len
 -y<c.len-x/\((x:Int)+1=(y:Int)/\False/\True)/\True)\/∃(y:Nat),(y<=c.len/\0<(zbZ c g y).length)/\c.len-y<c.len-x/\((x:Int)+1=(y:Int)/\((0:Nat)=0/\(zbZ c g x).length+1=
 (zbZ c g y).length/\True)/\True)/\List.take (zbZ c g x).length (zbZ c g x)++List.take 1 [D.int (x:Int)]=zbZ c g y/\True)
def zvj (c:D) (g:D) (x:Nat) (x_1:Nat):Prop:=
 fdP c g x x_1 0->0+1<= [D.int (x:Int)].length/\(1:Nat)<=8796093022208/\fits64 ((x:Int)+1)/\((∃(y:Nat),(y<=c.len/\zbZ c g y= [])/\c.len-y<c.len-x/\((x:Int)+1=(y:Int)/\False/\True)
 /\True)\/∃(y:Nat),(y<=c.len/\0<(zbZ c g y).length)/\c.len-y<c.len-x/\((x:Int)+1=(y:Int)/\((0:Nat)=0/\1=(zbZ c g y).length/\True)/\True)/\List.take 1 [D.int (x:Int)]=zbZ c g y/\
 True)
def zvH (c:D) (g:D) (x:Nat) (x_1:Nat):Prop:=
 (fdP c g x x_1 0->False)->fits64 ((x:Int)+1)/\((∃(y:Nat),(y<=c.len/\zbZ c g y= [])/\c.len-y<c.len-x/\((x:Int)+1=(y:Int)/\False/\True)/\True)\/∃(y:Nat),(y<=c.len/\0<(zbZ c g
 y).length)/\c.len-y<c.len-x/\((x:Int)+1=(y:Int)/\((0:Nat)=0/\(zbZ c g x).length=(zbZ c g y).length/\True)/\True)/\zbZ c g x=zbZ c g y/\True)
def zuk (c:D) (g:D) (x:Nat) (x_1:Nat):Prop:=
 (fdP c g x x_1 0->False)->fits64 ((x:Int)+1)/\((∃(y:Nat),(y<=c.len/\zbZ c g y= [])/\c.len-y<c.len-x/\((x:Int)+1=(y:Int)/\True/\True)/\True)\/∃(y:Nat),(y<=c.len/\0<(zbZ c g
 y).length)/\c.len-y<c.len-x/\((x:Int)+1=(y:Int)/\False/\True)/\False/\True)
theorem zzx:∀(c g:D),zac (zbp os0 c g) 3 (65:FuncId) [V.dat (22:TypeId) c,V.dat (23:TypeId) g] (V.dat (34:TypeId) (zba (zbZ c g c.len)))=(((∃(x:Nat),(x<=c.len/\zbZ c g x= [])/\(0=(x:
Int)/\True/\True)/\True)\/∃(x:Nat),(x<=c.len/\0<(zbZ c g x).length)/\(0=(x:Int)/\False/\True)/\False/\True)/\(∀(x:Nat),x<=c.len/\zbZ c g x= []->c.len-x<LIM/\((x:Int)<(c.len:Int)
->(∃(x_1:Nat),x_1.le g.len/\(0=(x_1:Int)/\(false=true↔fdP c g x x_1 0)/\True)/\True)/\∀(x_1:Nat),x_1.le g.len->g.len-x_1<LIM/\((x_1:Int)<(g.len:Int)->(zub c g x x_1)/\(((fdP c g x x_1
0->False)->False)->(zvj c g x x_1)/\(zuk c g x x_1)))/\(((x_1:Int)<(g.len:Int)->False)->(zvj c g x x_1)/\(zuk c g x x_1)))/\(((x:Int)<(c.len:Int)->False)->D.nil=zba (zbZ c g c.len)))/\
∀(x:Nat),x<=c.len/\0<(zbZ c g x).length->c.len-x<LIM/\((x:Int)<(c.len:Int)->(∃(x_1:Nat),x_1.le g.len/\(0=(x_1:Int)/\(false=true↔fdP c g x x_1 0)/\True)/\True)/\∀(x_1:Nat),x_1.le
g.len->g.len-x_1<LIM/\((x_1:Int)<(g.len:Int)->(zub c g x x_1)/\(((fdP c g x x_1 0->False)->False)->(zuR c g x x_1)/\(zvH c g x x_1)))/\(((x_1:Int)<(g.len:Int)->False)->(zuR c g x x_1)/\
(zvH c g x x_1)))/\(((x:Int)<(c.len:Int)->False)->0+(zbZ c g x).length<=(zbZ c g x).length/\D.list (List.take (zbZ c g x).length (zbZ c g x))=zba (zbZ c g c.len))):=by intros;kernel_rfl
theorem zzU:∀(c g:D),zac (zbp os2 c g) 3 (64:FuncId) [V.dat (22:TypeId) c,V.dat (23:TypeId) g] (V.dat (57:TypeId) (roD c g))=((0<=(g.len:Int)/\(g.len:Int)<=100)/\((zan c/\(zaK c).snd=
0)/\tgG g/\zw7 g (rgD g.len))/\pgD c g (rgD g.len)=roD c g):=by intros;kernel_rfl
theorem zAx:∀(c g:D),zac (zbp os3 c g) 3 (62:FuncId) [V.dat (22:TypeId) c,V.dat (23:TypeId) g] (V.tup [V.dat (34:TypeId) (lrD c g).fst,V.int IntKind.i64 (lrD c g).snd])=(zan c/\(((zaK c).snd=
0->False)->D.nil=(lrD c g).fst/\(zaK c).snd=(lrD c g).snd/\True)/\((((zaK c).snd=0->False)->False)->(64<(g.len:Int)->D.nil=(lrD c g).fst/\7=(lrD c g).snd/\True)/\((64<(g.len:Int)->False)
->((zan c/\(zaK c).snd=0)/\tgG g/\g.len<=20)/\zbJ (roD c g)/\(sgD (roD c g)).fst=(lrD c g).fst/\(sgD (roD c g)).snd=(lrD c g).snd/\True))):=by intros;kernel_rfl
theorem zzv:∀(l:D),zac (zbp os0 D.nil D.nil) 3 (61:FuncId) [V.dat (23:TypeId) l] (V.dat (23:TypeId) (cgD l))=(((∃(x:Nat),x=0/\((0:Int)=0/\True/\True)/\True)\/∃(x:Nat),(0<x/\x<=
l.len)/\(0=(x:Int)/\False/\True)/\False/\True)/\(∀(x:Nat),x=0->l.len-x<LIM/\(0<(l.len:Int)->(0:Int)<=0/\0<(l.len:Int)/\((el l 0).fld (Nat.succ 6).succ).len<=8796093022208/\0+1<=
[gD (zcq (gAt (el l 0)))].length/\(1:Nat)<=16777216/\fits64 (0+1)/\((∃(y:Nat),y=0/\l.len-y<l.len-x/\((0:Int)+1=0/\False/\True)/\True)\/∃(y:Nat),(0<y/\y<=l.len)/\l.len-y<
l.len-x/\(0+1=(y:Int)/\((0:Nat)=0/\1=y/\True)/\True)/\List.take 1 [gD (zcq (gAt (el l 0)))]=cgL l y/\True))/\((0<(l.len:Int)->False)->D.nil=cgD l))/\∀(x:Nat),0<x/\x<=l.len->
l.len-x<LIM/\((x:Int)<(l.len:Int)->0<=(x:Int)/\(x:Int)<(l.len:Int)/\((el l x).fld (Nat.succ 6).succ).len<=8796093022208/\0+1<= [gD (zcq (gAt (el l x)))].length/\0+x<=(cgL l x).length/\x
+1<=16777216/\fits64 ((x:Int)+1)/\((∃(y:Nat),y=0/\l.len-y<l.len-x/\((x:Int)+1=0/\False/\True)/\True)\/∃(y:Nat),(0<y/\y<=l.len)/\l.len-y<l.len-x/\((x:Int)+1=(y:Int)
/\((0:Nat)=0/\x+1=y/\True)/\True)/\List.take x (cgL l x)++List.take 1 [gD (zcq (gAt (el l x)))]=cgL l y/\True))/\(((x:Int)<(l.len:Int)->False)->0+x<=(cgL l x).length/\D.list (List.take x
(cgL l x))=cgD l)):=by intros;kernel_rfl
theorem zAQ:∀(a b:D),zac (zbp os0 D.nil D.nil) 3 (70:FuncId) [V.dat (23:TypeId) a,V.dat (23:TypeId) b] (V.prop (zeC a b))=((((a.len:Int)=(b.len:Int)->False)->(false=true↔zeC a b))/\
((((a.len:Int)=(b.len:Int)->False)->False)->(∃(x:Nat),(x<=a.len/\∀(i:Nat),i<x->zdg (gAt (el a i)) (gAt (el b i)))/\(0=(x:Int)/\True)/\True)/\∀(x:Nat),(x<=a.len/\∀(i:Nat),i<x->
zdg (gAt (el a i)) (gAt (el b i)))->a.len-x<LIM/\((x:Int)<(a.len:Int)->0<=(x:Int)/\(x:Int)<(a.len:Int)/\0<=(x:Int)/\(x:Int)<(b.len:Int)/\((el a x).fld (Nat.succ 6).succ).len<=
8796093022208/\((zdg (gAt (el a x)) (gAt (el b x))->False)->(false=true↔zeC a b))/\(((zdg (gAt (el a x)) (gAt (el b x))->False)->False)->fits64 ((x:Int)+1)/\∃(y:Nat),(y<=a.len/\∀(i:Nat),i
<y->zdg (gAt (el a i)) (gAt (el b i)))/\a.len-y<a.len-x/\((x:Int)+1=(y:Int)/\True)/\True))/\(((x:Int)<(a.len:Int)->False)->(true=true↔zeC a b)))):=by intros;kernel_rfl
theorem zAb:∀(a b:D),zac (zbp os1 D.nil D.nil) 3 (67:FuncId) [V.dat (57:TypeId) a,V.dat (57:TypeId) b] (V.prop (znF a b))=((((a.len:Int)=(b.len:Int)->False)->(false=true↔znF a b))/\
((((a.len:Int)=(b.len:Int)->False)->False)->(∃(x:Nat),(x<=a.len/\∀(i:Nat),i<x->eqN (el a i) (el b i))/\(0=(x:Int)/\True)/\True)/\∀(x:Nat),(x<=a.len/\∀(i:Nat),i<x->eqN (el a i)
(el b i))->a.len-x<LIM/\((x:Int)<(a.len:Int)->0<=(x:Int)/\(x:Int)<(a.len:Int)/\0<=(x:Int)/\(x:Int)<(b.len:Int)/\(el a x).len<=100/\((eqN (el a x) (el b x)->False)->(false=true↔
znF a b))/\(((eqN (el a x) (el b x)->False)->False)->fits64 ((x:Int)+1)/\∃(y:Nat),(y<=a.len/\∀(i:Nat),i<y->eqN (el a i) (el b i))/\a.len-y<a.len-x/\((x:Int)+1=(y:Int)/\True)/\
True))/\(((x:Int)<(a.len:Int)->False)->(true=true↔znF a b)))):=by intros;kernel_rfl
theorem zyx:∀(l:D) (n:Int),zac (zbp cn2 D.nil D.nil) 6 (16:FuncId) [V.dat (23:TypeId) l,V.int IntKind.i64 n] (V.prop (zfQ l n))=(((l.len:Int)<=n->(∃(x:Nat),(x<=l.len/\∀(i:Nat),i<x->
znf (el l i))/\(0=(x:Int)/\True)/\True)/\∀(x:Nat),(x<=l.len/\∀(i:Nat),i<x->znf (el l i))->l.len-x<LIM/\((x:Int)<(l.len:Int)->0<=(x:Int)/\(x:Int)<(l.len:Int)/\True/\((znf
(gD (gAt (el l x)))->False)->(0<=(x:Int)->False↔zfQ l n))/\(((znf (gD (gAt (el l x)))->False)->False)->fits64 ((x:Int)+1)/\∃(y:Nat),(y<=l.len/\∀(i:Nat),i<y->znf (el l i))/\l.len-y<
l.len-x/\((x:Int)+1=(y:Int)/\True)/\True))/\(((x:Int)<(l.len:Int)->False)->((!false)=true↔zfQ l n)))/\(((l.len:Int)<=n->False)->(false=true↔zfQ l n))):=by intros;kernel_rfl
theorem zz8:∀(ll:D) (n:Int),zac (zbp (λ_=>none) D.nil D.nil) 4 (66:FuncId) [V.dat (57:TypeId) ll,V.int IntKind.i64 n] (V.dat (34:TypeId) (crD ll n.toNat))=(((∃(x:Nat),x=0/\((0:Int)=0
/\True/\True)/\True)\/∃(x:Nat),(0<x/\(x:Int)<=n)/\(0=(x:Int)/\False/\True)/\False/\True)/\(∀(x:Nat),x=0->n.toNat-x<LIM/\(0<n->0+1<= [D.int 0].length/\(1:Nat)<=8796093022208/\
fits64 (0+1)/\((∃(y:Nat),y=0/\n.toNat-y<n.toNat-x/\((0:Int)+1=0/\False/\True)/\True)\/∃(y:Nat),(0<y/\(y:Int)<=n)/\n.toNat-y<n.toNat-x/\(0+1=(y:Int)/\((0:Nat)=0/\1
=y/\True)/\True)/\List.take 1 [D.int 0]=rgL y/\True))/\((0<n->False)->(∃(x:Nat),x.le ll.len/\(0=(x:Int)/\True)/\True)/\∀(x:Nat),x.le ll.len->ll.len-x<LIM/\((x:Int)<(ll.len:Int)->
(∃(x_1:Nat),x_1.le (el ll x).len/\(0=(x_1:Int)/\True)/\True)/\∀(x_1:Nat),x_1.le (el ll x).len->(el ll x).len-x_1<LIM/\0<=(x:Int)/\(x:Int)<(ll.len:Int)/\((x_1:Int)<(↑(el ll x).len:
Int)->0<=(x:Int)/\(x:Int)<(ll.len:Int)/\0<=(x_1:Int)/\(x_1:Int)<(↑(el ll x).len:Int)/\False)/\(((x_1:Int)<(↑(el ll x).len:Int)->False)->fits64 ((x:Int)+1)/\∃(y:Nat),y.le ll.len/\
ll.len-y<ll.len-x/\((x:Int)+1=(y:Int)/\True)/\True))/\(((x:Int)<(ll.len:Int)->False)->D.nil=crD ll n.toNat)))/\∀(x:Nat),0<x/\(x:Int)<=n->n.toNat-x<LIM/\((x:Int)<n->0+1
<= [D.int (x:Int)].length/\0+x<=(rgL x).length/\x+1<=8796093022208/\fits64 ((x:Int)+1)/\((∃(y:Nat),y=0/\n.toNat-y<n.toNat-x/\((x:Int)+1=0/\False/\True)/\True)\/∃(y:Nat),(0<y/\
(y:Int)<=n)/\n.toNat-y<n.toNat-x/\((x:Int)+1=(y:Int)/\((0:Nat)=0/\x+1=y/\True)/\True)/\List.take x (rgL x)++List.take 1 [D.int (x:Int)]=rgL y/\True))/\(((x:Int)<n->False)->(∃
(x_1:Nat),x_1.le ll.len/\(0=(x_1:Int)/\True)/\rgL x=zey (rgL x) ll x_1/\True)/\∀(x_1:Nat),x_1.le ll.len->ll.len-x_1<LIM/\((x_1:Int)<(ll.len:Int)->(∃(x_2:Nat),x_2.le (el ll x_1).len/\
(0=(x_2:Int)/\True)/\zey (rgL x) ll x_1=ziR (zey (rgL x) ll x_1) (x_1:Int) (el ll x_1) x_2/\True)/\∀(x_2:Nat),x_2.le (el ll x_1).len->(el ll x_1).len-x_2<LIM/\0<=(x_1:Int)/\(x_1:Int)<
(ll.len:Int)/\((x_2:Int)<(↑(el ll x_1).len:Int)->0<=(x_1:Int)/\(x_1:Int)<(ll.len:Int)/\0<=(x_2:Int)/\(x_2:Int)<(↑(el ll x_1).len:Int)/\0<=(el (el ll x_1) x_2).asInt/\(el (el ll x_1)
x_2).asInt<(x:Int)/\(el (el ll x_1) x_2).asInt.toNat<(ziR (zey (rgL x) ll x_1) (x_1:Int) (el ll x_1) x_2).length/\fits64 ((x_2:Int)+1)/\∃(y:Nat),y.le (el ll x_1).len/\(el ll x_1).len-y<(el ll
x_1).len-x_2/\((x_2:Int)+1=(y:Int)/\True)/\(ziR (zey (rgL x) ll x_1) (x_1:Int) (el ll x_1) x_2).set (el (el ll x_1) x_2).asInt.toNat (D.int (x_1:Int))=ziR (zey (rgL x) ll x_1) (x_1:Int) (el ll
x_1) y/\True)/\(((x_2:Int)<(↑(el ll x_1).len:Int)->False)->fits64 ((x_1:Int)+1)/\∃(y:Nat),y.le ll.len/\ll.len-y<ll.len-x_1/\((x_1:Int)+1=(y:Int)/\True)/\ziR (zey (rgL x) ll x_1)
(x_1:Int) (el ll x_1) x_2=zey (rgL x) ll y/\True))/\(((x_1:Int)<(ll.len:Int)->False)->0+x<=(zey (rgL x) ll x_1).length/\D.list (List.take x (zey (rgL x) ll x_1))=crD ll n.toNat))):=by intros;kernel_rfl
theorem zxv {c l:D} (h20:l.len<=20):zbJ (grD c l):=by
 have hS:=zgs c l
 have hf:=congrArg List.length (zcY (f:=zaZ c) (za6 c l))
 have h1:=zqr (zaZ c) (za6 c l) l.len
 refine ⟨?_,λi hi=> ?_⟩
 .unfold grD;rw [zdl];omega
 .unfold grD at hi⊢
  rw [zdl] at hi
  rw [zn9 hi]
  have hm:=List.getElem_mem hi
  generalize (grL (zaZ c) (za6 c l) l.len)[i]=d at hm
  unfold grL at hm
  rw [<-hS,List.take_length] at hm
  obtain ⟨q,hq,rfl⟩:=List.mem_map.1 hm
  show (q.map _).length<=100
  rw [List.length_map]
  have:=(List.sublist_flatten_of_mem hq).length_le
  omega
theorem s99 (c l:D) (h:(zan c/\(zaK c).2=0)/\l.len<=20/\tgP l):zac (zbp os0 .nil .nil) 3 99 [.dat 22 c,.dat 130 l] (.tup [.dat 34 (lnD c l).1,.int .i64 (lnD c l).2]):=by
 rw [zAC]
 refine ⟨h,λk=> ?_,λk=>⟨zxv h.2.1, ?_⟩⟩
 .unfold lnD;rw [if_pos (by omega)];exact ⟨rfl,rfl,trivial⟩
 .have k:¬((grD c l).len:Int)<l.len:=k
  unfold lnD;rw [if_neg (by omega)];exact ⟨rfl,rfl,trivial⟩
theorem zhn {c g:D} (h:zgb c g) (hl:g.len<=64):g.len<=20/\tgG g:=by rcases h.out.2 with h|h<;>omega
theorem zti {g:D} (ht:tgG g):tgP (plD g):=zvW ht λx hx=>List.mem_range.1 hx
theorem zve {c g:D} (h:zgb c g):g.len<=100:=by rcases h.out.2 with h|h<;>omega
theorem s34 (c g:D) (h:zgb c g):zac (zbp os0 .nil .nil) 4 34 [.dat 22 c,.dat 23 g] (.dat 57 (orD c g)):=by
 rw [zzP]
 refine ⟨λhl=>⟨h.out.1,λhb=> ?_,λhb=> ?_⟩,λhl=> ?_⟩
 .unfold orD;rw [if_neg λk=>hb k.out.2]
 .have hb:=Classical.byContradiction hb
  have hp:=zhn h (by omega)
  refine ⟨by omega,⟨⟨h.out.1,hb⟩,by rw [zc6];exact hp.1,zti hp.2⟩, ?_⟩
  unfold orD;rw [if_pos ⟨by omega,hb⟩];rfl
 .have hl:¬(g.len:Int)<=64:=hl
  unfold orD;rw [if_neg λk=>by have:=k.out.1;omega]
theorem s36 (c g:D) (h:zgb c g):zac (zbp os1 .nil .nil) 3 36 [.dat 22 c,.dat 23 g] (.tup [.dat 34 (liD c g).1,.int .i64 (liD c g).2]):=by
 rw [zBd]
 refine ⟨h.out.1,λhb=> ?_,λhb=>⟨λhl=> ?_,λhl=> ?_⟩⟩
 .unfold liD;rw [if_pos hb];exact ⟨rfl,rfl,trivial⟩
 .unfold liD;rw [if_neg hb,if_pos (by omega)];exact ⟨rfl,rfl,trivial⟩
 .have hl:¬(64:Int)<g.len:=hl
  have hp:=zhn h (by omega)
  refine ⟨by omega,⟨⟨h.out.1,Classical.byContradiction hb⟩,by rw [zc6];exact hp.1,zti hp.2⟩, ?_⟩
  unfold liD;rw [if_neg hb,if_neg (by omega)];exact ⟨rfl,rfl,trivial⟩
theorem zep (R:List D) (k:Int) (s:D):∀j,(ziR R k s j).length=R.length
 |0=>rfl
 |j+1=>by unfold ziR;rw [List.length_set];exact zep R k s j
theorem zbg (R:List D) (ll:D):∀k,(zey R ll k).length=R.length
 |0=>rfl
 |k+1=>by unfold zey;rw [zep];exact zbg R ll k
theorem zhW {c g:D} (h:okO c g):∃G:List (List Nat),orD c g=zba (G.map iD)/\zou (rkZ c g) (λx=>(x:Int)) (List.range g.len) G:=by
 unfold orD;rw [if_pos h]
 exact zwu h.out.2 (λx hx=>by have:=List.mem_range.1 hx;have:=h.out.1;omega) List.pairwise_lt_range
theorem zvF {c g:D} (h:okO c g) (h20:g.len<=20):zws (orD c g) g.len:=by
 obtain ⟨G,e,hG⟩:=zhW h
 rw [e]
 have hs:=zoJ hG
 rw [List.length_range] at hs
 exact zx1 (n:=g.len) (by omega) hs.1 hs.2 λs h1 x h2=>List.mem_range.1 (zu9 hG h1 h2)
theorem s35 (c g:D) (h:zgb c g):zac (zbp os1 c g) 4 35 [.dat 22 c,.dat 23 g] (.dat 34 (clD c g)):=by
 rw [zAT]
 have T:True:=trivial
 have hb8:(zbp (λ_=>none) D.nil D.nil).P.types[(3:Nat)].bytes=8:=by kernel_rfl
 refine ⟨λhl=>⟨h.out.1,λhb=> ?_,λhb=> ?_⟩,λhl=> ?_⟩
 .unfold clD;rw [if_neg λk=>hb k.out.2]
 .have hb:=Classical.byContradiction hb
  have hp:=zhn h (by omega)
  have hok:okO c g:=⟨by omega,hb⟩
  have hin:=zvF hok hp.1
  have h100:=hin.out.1
  refine ⟨by omega,by omega,by omega,by rw [hb8];omega,h,⟨0,Nat.zero_le _,⟨rfl,T⟩,rfl,T⟩,λx hx=>⟨zc1 (by omega),λhlt=>⟨by omega,hlt,⟨0,Nat.zero_le _,⟨rfl,T⟩,rfl,T⟩,λy hy=> ?_⟩,λhge=> ?_⟩⟩
  .have hsh:=hin.sh.out.2 x (by omega)
   refine ⟨zc1 (by omega),λhlt2=> ?_,λhge=>⟨⟨by omega,by omega⟩,x+1,(by show x+1<=(orD c g).len;omega),by omega,⟨by omega,T⟩, ?_,T⟩⟩
   .have q:=hin.out.2 x y (by omega) (by omega)
    refine ⟨by omega,hlt2,q.1,by omega,by rw [zep,zbg,List.length_replicate];omega,⟨by omega,by omega⟩,y+1,(by show y+1<=(el (orD c g) x).len;omega),by omega,⟨by omega,T⟩,rfl,T⟩
   .rw [za5 hy hge];rfl
  .have e:=za5 hx hge
   subst e
   refine ⟨by rw [zbg,List.length_replicate];omega, ?_⟩
   rw [List.take_of_length_le (by rw [zbg,List.length_replicate];exact Nat.le_refl _)]
   unfold clD;rw [if_pos hok]
 .have hl:¬(g.len:Int)<=64:=hl
  unfold clD;rw [if_neg λk=>by have:=k.out.1;omega]
theorem zrj {c:D} {a b:GD} {i j:Int} (hi:inB i) (hj:inB j) (x:Nat):clE c b a j i x= -clE c a b i j x:=by
 have hb:wkP (λp:GD×Int=>inB p.2) (zew (λp q:GD×Int=>zb5 (cK (el c x)) (cL (el c x)) (cNm (el c x)) (cN (el c x)) p.1 q.1 p.2 q.2)):=
  ztz (λa b _ _ h=>ztH h) (λa b d _ _ hd h=>ztJ d.1 hd h)
 rw [zfe,zfe]
 by_cases q:cA (el c x)≠ []/\(a.rk≠cA (el c x)\/b.rk≠cA (el c x))
 .rw [if_pos q,if_pos ⟨q.1,q.2.symm⟩];rfl
 .rw [if_neg q,if_neg (λz=>q ⟨z.1,z.2.symm⟩)];exact hb.anti _ _ hi hj
theorem ztX (f:Nat->Int):∀m i,((zaM f m i).2≠0->(i:Int)<=(zaM f m i).1/\(zaM f m i).1<(i+m:Nat))/\((zaM f m i).2=0->(zaM f m i).1= -1)
 |0,i=>⟨λh=>absurd rfl h,λ_=>rfl⟩
 |m+1,i=>by
  have e:zaM f (m+1) i=if f i≠0 then (((i:Nat):Int),f i) else zaM f m (i+1):=rfl
  rw [e]
  by_cases h:f i≠0
  .rw [if_pos h];exact ⟨λ_=>⟨Int.le_refl _,by show (i:Int)<_;omega⟩,λk=>absurd k h⟩
  .rw [if_neg h]
   have:=ztX f m (i+1)
   exact ⟨λk=>by have:=this.1 k;omega,this.2⟩
theorem zpR {f f':Nat->Int} (h:∀k,f' k= -f k):∀m i,(zaM f' m i).1=(zaM f m i).1
 |0,_=>rfl
 |m+1,i=>by
  have e:zaM f (m+1) i=if f i≠0 then (((i:Nat):Int),f i) else zaM f m (i+1):=rfl
  have e':zaM f' (m+1) i=if f' i≠0 then (((i:Nat):Int),f' i) else zaM f' m (i+1):=rfl
  rw [e,e']
  by_cases k:f i≠0
  .rw [if_pos k,if_pos (by rw [h];omega)]
  .rw [if_neg k,if_neg (by rw [h];omega)];exact zpR h m (i+1)
theorem zmz {f:Nat->Int} (h:∀k,f k=0):∀m i,zaM f m i=(-1,0)
 |0,_=>rfl
 |m+1,i=>by
  have e:zaM f (m+1) i=if f i≠0 then (((i:Nat):Int),f i) else zaM f m (i+1):=rfl
  rw [e,if_neg (λk=>k (h i))];exact zmz h m (i+1)
theorem zwI (c g:D) {a b:Nat} (ha:a<64) (hb:b<64):sxZ c g b a=sxZ c g a b:=zpR (λk=>zrj ⟨by omega,by omega⟩ ⟨by omega,by omega⟩ k) _ _
theorem zt3 (c g:D) {a:Nat} (ha:a<64):sxZ c g a a= -1:=by
 unfold sxZ
 rw [zmz λk=>by have:=zrj (c:=c) (a:=gAt (el g a)) (b:=gAt (el g a)) (i:=(a:Int)) (j:=a) ⟨by omega,by omega⟩ ⟨by omega,by omega⟩ k;omega]
theorem zqo {c g:D} (hg:g.len<=64) (k:Nat):dcP c g g.len 0 k↔zmS c g k:=by
 constructor
 .rintro ⟨a,b,h,e⟩
  exact ⟨a,b,by omega,by omega,e⟩
 .rintro ⟨a,b,h1,h2,e⟩
  rcases Nat.lt_trichotomy a b with h|h|h
  .exact ⟨b,a,.inl ⟨h,h2⟩,by rw [zwI c g (by omega) (by omega)];exact e⟩
  .subst h;rw [zt3 c g (by omega)] at e;omega
  .exact ⟨a,b,.inl ⟨h,h1⟩,e⟩
theorem ztA {c g:D} (hg:g.len<=64):∀n,dlP c g n=zbZ c g n
 |0=>rfl
 |n+1=>by
  unfold dlP zbZ
  rw [ztA hg n]
  by_cases h:zmS c g n
  .rw [if_pos ((zqo hg n).2 h),if_pos h]
  .rw [if_neg (λk=>h ((zqo hg n).1 k)),if_neg h]
open Classical in
theorem zu8 {c g:D} {n:Nat} (h:dcP c g g.len 0 n):dlP c g (n+1)=dlP c g n++ [.int (n:Nat)]:=by show (if _ then _ else _)=_;rw [if_pos h]
open Classical in
theorem zwa {c g:D} {n:Nat} (h:¬dcP c g g.len 0 n):dlP c g (n+1)=dlP c g n:=by show (if _ then _ else _)=_;rw [if_neg h]
theorem zwJ (c g:D):∀n,(dlP c g n).length<=n
 |0=>Nat.le_refl _
 |n+1=>by
  have:=zwJ c g n
  by_cases h:dcP c g g.len 0 n
  .rw [zu8 h,List.length_append];show _+1<=_;omega
  .rw [zwa h];omega
theorem ziu (c g:D) (i j:Nat):(dcL c g i j).length=c.len:=by unfold dcL;rw [List.length_map,List.length_range]
theorem ztE {c g:D} {i j k:Nat} (h:k<c.len):(zai (dcL c g i j) k).asProp=dcP c g i j k:=by
 unfold dcL zai
 rw [List.getElem?_map,List.getElem?_range h];rfl
theorem zkk {c g:D} {i j i' j':Nat} (h:∀k,dcP c g i j k↔dcP c g i' j' k):dcL c g i j=dcL c g i' j':=by
 unfold dcL
 exact List.map_congr_left λk _=>by rw [propext (h k)]
theorem zuS {c g:D} {i j k:Nat} (hs:sxZ c g i j=k) (hk:k<c.len):(dcL c g i j).set k (.bool (true=true))=dcL c g i (j+1):=by
 apply List.ext_getElem?
 intro m
 rw [List.getElem?_set,ziu]
 unfold dcL
 rw [List.getElem?_map,List.getElem?_map]
 by_cases e:k=m
 .subst e
  rw [if_pos rfl,if_pos hk,List.getElem?_range hk]
  show some (D.bool _)=some (D.bool _)
  rw [show (true=true)=dcP c g i (j+1) k from propext ⟨λ_=>⟨i,j,.inr ⟨rfl,by omega⟩,hs⟩,λ_=>rfl⟩]
 .rw [if_neg e]
  rcases Nat.lt_or_ge m c.len with hm|hm
  .rw [List.getElem?_range hm]
   show some (D.bool _)=some (D.bool _)
   rw [show dcP c g i j m=dcP c g i (j+1) m from propext ⟨λ⟨a,b,h,q⟩=>⟨a,b,by omega,q⟩,λ⟨a,b,h,q⟩=>⟨a,b,by
    rcases h with h|h
    .exact .inl h
    .rcases Nat.lt_or_ge b j with w|w
     .exact .inr ⟨h.1,w⟩
     .have e2:b=j:=by omega
      rw [h.1,e2,hs] at q;omega,q⟩⟩]
  .rw [List.getElem?_eq_none (by rw [List.length_range];exact hm)];rfl
theorem zs7 {c g:D} {i j:Nat} (hs:sxZ c g i j= -1):dcL c g i j=dcL c g i (j+1):=zkk λk=>⟨λ⟨a,b,h,q⟩=>⟨a,b,by omega,q⟩,λ⟨a,b,h,q⟩=>⟨a,b,by
 rcases h with h|h
 .exact .inl h
 .rcases Nat.lt_or_ge b j with w|w
  .exact .inr ⟨h.1,w⟩
  .have e2:b=j:=by omega
   rw [h.1,e2,hs] at q;omega,q⟩⟩
theorem zte {g:D} {n x:Nat} (h:x<n):zai (plL g n) x=plG g x:=by unfold plL zai;rw [List.getElem?_map,List.getElem?_range h];rfl
theorem zt7 {g:D} {x y:Nat} (hx:x<=g.len) (hy:y<x):el ((D.list (plL g g.len)).sub 0 x) y=plG g y:=by
 rw [zjQ _ _ _ hy];exact zte (by omega)
theorem zwv {g:D} {x:Nat} (hx:x<=g.len):((D.list (plL g g.len)).sub 0 x).len=x:=zdY _ _ (by show x<=(plL g g.len).length;rw [zc6];exact hx)
theorem zua {c g:D} (hv:(zaK c).2=0) (a b:Nat):zof (D.list (zaG c c.len)) (gAt ((plG g a).fld 0)) (gAt ((plG g b).fld 0)) ((plG g a).fld 1).asInt ((plG g b).fld 1).asInt=zaM (clE c (gAt (el g a)) (gAt (el g b)) a b) c.len 0:=by
 unfold zof
 show zaM _ (zaG c c.len).length 0=_
 rw [za7]
 exact zes (n:=c.len) (λk hk=>by rw [zgv hk];exact ztl hv hk _ _ _ _) c.len 0 (by omega)
theorem s68 (c g:D) (h:zgb c g):zac (zbp os0 c g) 4 68 [.dat 22 c,.dat 23 g] (.dat 34 (deD c g)):=by
 rw [zzO]
 have T:True:=trivial
 have hb1:(zbp (λ_=>none) D.nil D.nil).P.types[(4:Nat)].bytes=1:=by kernel_rfl
 have hc:=h.out.1.out.1
 refine ⟨λhl=>⟨h.out.1,λhb=> ?_,λhb=> ?_⟩,λhl=> ?_⟩
 .unfold deD;rw [if_neg λk=>hb k.out.2]
 .have hb:=Classical.byContradiction hb
  have hp:=zhn h (by omega)
  have hok:okO c g:=⟨by omega,hb⟩
  have h64:g.len<=64:=by omega
  have tests:(zaG c c.len).length<=100/\∀(k:Nat),k<(zaG c c.len).length->okA (el (D.list (zaG c c.len)) k):=⟨by rw [za7];exact hc,λk hk=>by rw [za7] at hk;rw [zgv hk];exact zmw h.out.1 hb hk⟩
  have fin:∀x,x=c.len->zba (dlP c g x)=deD c g:=λx e=>by unfold deD;rw [if_pos hok,e,ztA h64]
  have e1:∀n:Nat,List.take 1 [D.int (n:Nat)]= [D.int (n:Nat)]:=λ_=>rfl
  refine ⟨hc,by omega,by omega,by omega,by omega,by rw [hb1];omega,⟨0,Nat.zero_le _,⟨rfl,T⟩, ?_,T⟩,λx hx=>⟨zc1 (by omega),λhlt=> ?_,λhge=> ?_⟩⟩
  .apply List.ext_getElem?
   intro m
   unfold dcL
   rw [List.getElem?_map]
   rcases Nat.lt_or_ge m c.len with hm|hm
   .rw [List.getElem?_replicate,if_pos hm,List.getElem?_range hm]
    show some (D.bool _)=some (D.bool _)
    rw [show (false=true)=dcP c g 0 0 m from propext ⟨λk=>(by cases k),λ⟨a,b,k,_⟩=>by omega⟩]
   .rw [List.getElem?_eq_none (by rw [List.length_replicate];exact hm),List.getElem?_eq_none (by rw [List.length_range];exact hm)];rfl
  .rw [zc6] at hlt⊢
   have hxl:x<g.len:=by omega
   rw [zwv (by omega),zte hxl]
   refine ⟨by omega,hlt,by omega,by omega,by omega,⟨0,Nat.zero_le _,⟨rfl,T⟩,rfl,T⟩,λy hy=>⟨zc1 (by omega),λhlt2=> ?_,λhge=>⟨⟨by omega,by omega⟩,x+1,(by show x+1<=g.len;omega),by omega,⟨by omega,T⟩, ?_,T⟩⟩⟩
   .rw [zt7 (by omega) (by omega),zua hb]
    have hin:=ztX (clE c (gAt (el g x)) (gAt (el g y)) x y) c.len 0
    rw [Nat.zero_add] at hin
    refine ⟨by omega,hlt2,⟨tests,hp.2.out x hxl,hp.2.out y (by omega)⟩,λhne=> ?_,λheq=>⟨⟨by omega,by omega⟩,y+1,(by show y+1<=x;omega),by omega,⟨by omega,T⟩,zs7 (hin.2 (Classical.byContradiction heq)),T⟩⟩
    have q:=hin.1 hne
    refine ⟨by omega,q.2,by rw [ziu];omega,⟨by omega,by omega⟩,y+1,(by show y+1<=x;omega),by omega,⟨by omega,T⟩,zuS (by show (zaM _ _ _).1=_;omega) (by omega),T⟩
   .have e:=za5 hy hge
    subst e
    exact zkk λk=>⟨λ⟨a,b,k1,k2⟩=>⟨a,b,by omega,k2⟩,λ⟨a,b,k1,k2⟩=>⟨a,b,by omega,k2⟩⟩
  .rw [zc6] at hge
   have e:=za5 hx hge
   subst e
   refine ⟨.inl ⟨0,⟨Nat.zero_le _,rfl⟩,⟨rfl,T,T⟩,T⟩,λk hk=>⟨zc1 (by omega),λhlt=>⟨by omega,hlt,by rw [ziu];omega, ?_⟩,λhge=> ?_⟩,λk hk=>⟨zc1 (by omega),λhlt=>⟨by omega,hlt,by rw [ziu];omega, ?_⟩,λhge=>⟨by omega, ?_⟩⟩⟩
   .rw [ztE (by omega)]
    refine ⟨λq=>⟨Nat.le_refl _,by omega,⟨by omega,by omega⟩,.inr ⟨k+1,⟨by omega, ?_⟩,by omega,⟨by omega,⟨rfl, ?_,T⟩,T⟩, ?_,T⟩⟩,λq=>⟨⟨by omega,by omega⟩,.inl ⟨k+1,⟨by omega,by rw [zwa q];exact hk.2⟩,by omega,⟨by omega,T,T⟩,T⟩⟩⟩
    .rw [zu8 q,List.length_append];exact Nat.succ_pos _
    .rw [zu8 q,hk.2];rfl
    .rw [zu8 q,hk.2];rfl
   .rw [<-fin k (za5 hk.1 hge),hk.2];rfl
   .rw [ztE (by omega)]
    have:=zwJ c g k
    refine ⟨λq=>⟨Nat.le_refl _,by omega,by omega,⟨by omega,by omega⟩,.inr ⟨k+1,⟨by omega, ?_⟩,by omega,⟨by omega,⟨rfl, ?_,T⟩,T⟩, ?_,T⟩⟩,λq=>⟨⟨by omega,by omega⟩,.inr ⟨k+1,⟨by omega,by rw [zwa q];exact hk.2⟩,by omega,⟨by omega,⟨rfl,by rw [zwa q],T⟩,T⟩,by rw [zwa q],T⟩⟩⟩
    .rw [zu8 q,List.length_append];exact Nat.succ_pos _
    .rw [zu8 q,List.length_append];rfl
    .rw [zu8 q,List.take_of_length_le (Nat.le_refl _)];rfl
   .rw [List.take_of_length_le (Nat.le_refl _),<-fin k (za5 hk.1 hge)]
    exact za9 hk.2
 .have hl:¬(g.len:Int)<=64:=hl
  unfold deD;rw [if_neg λk=>by have:=k.out.1;omega]
theorem zuG {c g:D} {k:Nat}:fdP c g k g.len 0↔zmS c g k:=⟨λ⟨a,b,h,e⟩=>⟨a,b,by omega,by omega,e⟩,λ⟨a,b,h1,h2,e⟩=>⟨a,b,.inl ⟨h1,h2⟩,e⟩⟩
theorem zwF {c g:D} {k i:Nat} (hi:i<=g.len) (h:fdP c g k i 0):zmS c g k:=let ⟨a,b,h,e⟩:=h.out;⟨a,b,by omega,by omega,e⟩
open Classical in
theorem zuD {c g:D} {n:Nat} (h:zmS c g n):zbZ c g (n+1)=zbZ c g n++ [.int (n:Nat)]:=by show (if _ then _ else _)=_;rw [if_pos h]
open Classical in
theorem zv4 {c g:D} {n:Nat} (h:¬zmS c g n):zbZ c g (n+1)=zbZ c g n:=by show (if _ then _ else _)=_;rw [if_neg h]
theorem zui (c g:D):∀n,(zbZ c g n).length<=n
 |0=>Nat.le_refl _
 |n+1=>by
  have:=zui c g n
  by_cases h:zmS c g n
  .rw [zuD h,List.length_append];show _+1<=_;omega
  .rw [zv4 h];omega
theorem s65 (c g:D) (hc:zan c/\(zaK c).2=0) (ht:tgG g) (h20:g.len<=20):zac (zbp os0 c g) 3 65 [.dat 22 c,.dat 23 g] (.dat 34 (zba (zbZ c g c.len))):=by
 rw [zzx]
 have T:True:=trivial
 have hcl:=hc.1.out.1
 have g1:∀x y,y<g.len->zub c g x y:=λx y hy hn=>by
  refine ⟨⟨0,Nat.zero_le _,⟨rfl,Iff.rfl,T⟩,T⟩,λz hz=>⟨zc1 (by omega),λhlt=>⟨by omega,by omega,by omega,hlt,⟨hc,ht.out y hy,ht.out z (by omega)⟩,λhf=>⟨⟨by omega,by omega⟩,z+1,(by show z+1<=g.len;omega),by omega,⟨by omega, ?_,T⟩,T⟩,λhf=>⟨⟨by omega,by omega⟩,z+1,(by show z+1<=g.len;omega),by omega,⟨by omega,nt ?_,T⟩,T⟩⟩,λhge=>⟨⟨by omega,by omega⟩,y+1,(by show y+1<=g.len;omega),by omega,⟨by omega, ?_,T⟩,T⟩⟩⟩
  .constructor
   .intro e;exact ⟨y,z,.inr ⟨rfl,by omega⟩,e⟩
   .rintro ⟨a,b,h,e⟩
    rcases h with h|h
    .exact (hf ⟨a,b,.inl h,e⟩).elim
    .rcases Nat.lt_or_ge b z with w|w
     .exact (hf ⟨a,b,.inr ⟨h.1,w⟩,e⟩).elim
     .have e2:b=z:=by omega
      rw [h.1,e2] at e;exact e
  .obtain ⟨a,b,h,e⟩:=hf.out
   exact ⟨a,b,by omega,e⟩
  .have e:=za5 hz hge
   subst e
   exact ⟨λ⟨a,b,h,e⟩=>⟨a,b,by omega,e⟩,λ⟨a,b,h,e⟩=>⟨a,b,by omega,e⟩⟩
 have e1:∀n:Nat,List.take 1 [D.int (n:Nat)]= [D.int (n:Nat)]:=λ_=>rfl
 have g35:∀x y,x<c.len->zbZ c g x= []->(fdP c g x y 0↔zmS c g x)->zvj c g x y/\zuk c g x y:=λx y hx h0 H=>by
  refine ⟨λhf=>⟨Nat.le_refl _,by omega,⟨by omega,by omega⟩,.inr ⟨x+1,⟨by omega, ?_⟩,by omega,⟨by omega,⟨rfl, ?_,T⟩,T⟩, ?_,T⟩⟩,λhf=>⟨⟨by omega,by omega⟩,.inl ⟨x+1,⟨by omega,by rw [zv4 (λk=>hf (H.2 k))];exact h0⟩,by omega,⟨by omega,T,T⟩,T⟩⟩⟩
  .rw [zuD (H.1 hf),List.length_append];exact Nat.succ_pos _
  .rw [zuD (H.1 hf),h0];rfl
  .rw [zuD (H.1 hf),h0];rfl
 have g24:∀x y,x<c.len->0<(zbZ c g x).length->(fdP c g x y 0↔zmS c g x)->zuR c g x y/\zvH c g x y:=λx y hx h0 H=>by
  have:=zui c g x
  refine ⟨λhf=>⟨Nat.le_refl _,by omega,by omega,⟨by omega,by omega⟩,.inr ⟨x+1,⟨by omega, ?_⟩,by omega,⟨by omega,⟨rfl, ?_,T⟩,T⟩, ?_,T⟩⟩,λhf=>⟨⟨by omega,by omega⟩,.inr ⟨x+1,⟨by omega,by rw [zv4 (λk=>hf (H.2 k))];exact h0⟩,by omega,⟨by omega,⟨rfl,by rw [zv4 (λk=>hf (H.2 k))],T⟩,T⟩,by rw [zv4 (λk=>hf (H.2 k))],T⟩⟩⟩
  .rw [zuD (H.1 hf),List.length_append];exact Nat.succ_pos _
  .rw [zuD (H.1 hf),List.length_append];rfl
  .rw [zuD (H.1 hf),List.take_of_length_le (Nat.le_refl _)];rfl
 have fd0:∀x,(false=true↔fdP c g x 0 0):=λx=>nf λ⟨a,b,h,_⟩=>by omega
 have Hf:∀x y,y<=g.len->((fdP c g x y 0->False)->False)->(fdP c g x y 0↔zmS c g x):=λx y hy hf=>⟨zwF hy,λ_=>Classical.byContradiction hf⟩
 have He:∀x y,y<=g.len->((y:Int)<g.len->False)->(fdP c g x y 0↔zmS c g x):=λx y hy hge=>by
  have e:=za5 hy hge
  subst e;exact zuG
 refine ⟨.inl ⟨0,⟨Nat.zero_le _,rfl⟩,⟨rfl,T,T⟩,T⟩,λx hx=>⟨zc1 (by omega),λhlt=>⟨⟨0,Nat.zero_le _,⟨rfl,fd0 x,T⟩,T⟩,λy hy=>⟨zc1 (by omega),λhl2=>⟨g1 x y (by omega),λhf=>g35 x y (by omega) hx.2 (Hf x y hy hf)⟩,λhge=>g35 x y (by omega) hx.2 (He x y hy hge)⟩⟩,λhge=> ?_⟩,λx hx=>⟨zc1 (by omega),λhlt=>⟨⟨0,Nat.zero_le _,⟨rfl,fd0 x,T⟩,T⟩,λy hy=>⟨zc1 (by omega),λhl2=>⟨g1 x y (by omega),λhf=>g24 x y (by omega) hx.2 (Hf x y hy hf)⟩,λhge=>g24 x y (by omega) hx.2 (He x y hy hge)⟩⟩,λhge=>⟨by omega, ?_⟩⟩⟩
 .have e:=za5 hx.1 hge
  rw [<-e,hx.2];rfl
 .have e:=za5 hx.1 hge
  rw [List.take_of_length_le (Nat.le_refl _),<-e]
  exact za9 hx.2
theorem zwo (s:List Nat):(iL s).map (λx=>x.asInt.toNat)=s:=by
 unfold iL;rw [List.map_map]
 have:((λx:D=>x.asInt.toNat)∘λx:Nat=>D.int (x:Nat))=id:=by funext x;rfl
 rw [this,List.map_id]
theorem zaN (s:List Nat):sOf (iD s)=s:=by unfold sOf iD;rw [zcV];exact zwo s
theorem zwW {g:D} (h20:g.len<=20):zw7 g (rgD g.len):=⟨by
 have e:rgD g.len=iD (List.range g.len):=rfl
 rw [e,zaN,zaQ,List.length_range]
 exact ⟨rfl,h20,λx hx=>List.mem_range.1 hx⟩⟩
theorem s64 (c g:D) (hc:zan c/\(zaK c).2=0) (ht:tgG g) (h20:g.len<=20):zac (zbp os2 c g) 3 64 [.dat 22 c,.dat 23 g] (.dat 57 (roD c g)):=by
 rw [zzU];exact ⟨⟨by omega,by omega⟩,⟨hc,ht,zwW h20⟩,rfl⟩
theorem s61 (l:D) (h:tgB l):zac (zbp os0 .nil .nil) 3 61 [.dat 23 l] (.dat 23 (cgD l)):=by
 rw [zzv]
 have T:True:=trivial
 have hn:=h.out.1
 have ln:∀n,(cgL l n).length=n:=λn=>by unfold cgL;rw [List.length_map,List.length_range]
 have sc:∀n,cgL l (n+1)=cgL l n++ [gD (zcq (gAt (el l n)))]:=λn=>by unfold cgL;rw [List.range_succ,List.map_append];rfl
 refine ⟨.inl ⟨0,rfl,⟨rfl,T,T⟩,T⟩,λx hx=>⟨zc1 (by omega),λhlt=>⟨by omega,hlt,h.out.2 0 (by omega),Nat.le_refl _,by omega,⟨by omega,by omega⟩,.inr ⟨1,⟨by omega,by omega⟩,by omega,⟨rfl,⟨rfl,rfl,T⟩,T⟩,rfl,T⟩⟩,λhge=> ?_⟩,λx hx=>⟨zc1 (by omega),λhlt=>⟨by omega,hlt,h.out.2 x (by omega),Nat.le_refl _,by rw [ln];omega,by omega,⟨by omega,by omega⟩,.inr ⟨x+1,⟨by omega,by omega⟩,by omega,⟨by omega,⟨rfl,rfl,T⟩,T⟩, ?_,T⟩⟩,λhge=>⟨by rw [ln];omega, ?_⟩⟩⟩
 .have e:l.len=0:=by have hge:¬(0:Int)<l.len:=hge;omega
  unfold cgD;rw [e];rfl
 .rw [List.take_of_length_le (by rw [ln];exact Nat.le_refl _),sc];rfl
 .have e:=za5 hx.2 hge
  subst e
  rw [List.take_of_length_le (by rw [ln];exact Nat.le_refl _)]
  exact za9 (by rw [ln];omega)
theorem s70 (a b:D) (h:tgB a):zac (zbp os0 .nil .nil) 3 70 [.dat 23 a,.dat 23 b] (.prop (zeC a b)):=by
 rw [zAQ]
 have hn:=h.out.1
 refine ⟨λq=>nf λe=>q (by rw [e.out.1]),λq=> ?_⟩
 have q:a.len=b.len:=by have:=Classical.byContradiction q;omega
 refine ⟨⟨0,⟨Nat.zero_le _,λi hi=>absurd hi (Nat.not_lt_zero _)⟩,⟨rfl,trivial⟩,trivial⟩,λx hx=>⟨zf7 hn,λk=>⟨by omega,k,by omega,by omega,h.out.2 x (by omega),λe=>nf λw=>e (w.out.2 x (by omega)),λe=>⟨⟨by omega,by omega⟩,x+1,⟨by omega,λi hi=> ?_⟩,by omega,⟨by omega,trivial⟩,trivial⟩⟩,λk=>nt ⟨q,λi hi=>hx.2 i (by have:=za5 hx.1 k;omega)⟩⟩⟩
 rcases Nat.lt_or_ge i x with w|w
 .exact hx.2 i w
 .have:i=x:=by omega
  subst this;exact ⟨(Classical.byContradiction e).out⟩
theorem s67 (a b:D) (h:zbJ a):zac (zbp os1 .nil .nil) 3 67 [.dat 57 a,.dat 57 b] (.prop (znF a b)):=by
 rw [zAb]
 have hn:=h.out.1
 refine ⟨λq=>nf λe=>q (by rw [e.out.1]),λq=> ?_⟩
 have q:a.len=b.len:=by have:=Classical.byContradiction q;omega
 refine ⟨⟨0,⟨Nat.zero_le _,λi hi=>absurd hi (Nat.not_lt_zero _)⟩,⟨rfl,trivial⟩,trivial⟩,λx hx=>⟨zf7 hn,λk=>⟨by omega,k,by omega,by omega,h.out.2 x (by omega),λe=>nf λw=>e (w.out.2 x (by omega)),λe=>⟨⟨by omega,by omega⟩,x+1,⟨by omega,λi hi=> ?_⟩,by omega,⟨by omega,trivial⟩,trivial⟩⟩,λk=>nt ⟨q,λi hi=>hx.2 i (by have:=za5 hx.1 k;omega)⟩⟩⟩
 rcases Nat.lt_or_ge i x with w|w
 .exact hx.2 i w
 .have:i=x:=by omega
  subst this;exact ⟨(Classical.byContradiction e).out⟩
theorem zAk (l:D) (n:Int) (hn:l.len<=1000000):zac (zbp cn2 .nil .nil) 6 16 [.dat 23 l,.int .i64 n] (.prop (zfQ l n)):=by
 rw [zyx]
 refine ⟨λq=>⟨⟨0,⟨Nat.zero_le _,λi hi=>absurd hi (Nat.not_lt_zero _)⟩,⟨rfl,trivial⟩,trivial⟩,λx hx=>⟨zc1 (by omega),λk=>⟨by omega,k,trivial,λe=> ?_,λe=>⟨⟨by omega,by omega⟩,x+1,⟨by omega,λi hi=> ?_⟩,by omega,⟨by omega,trivial⟩,trivial⟩⟩,λk=>nt ⟨q,λi hi=>hx.2 i (by have:=za5 hx.1 k;omega)⟩⟩⟩,λq=>nf λe=>q e.out.1⟩
 .exact ⟨λw=>(w (by omega)).elim,λw=>(e ⟨(w.out.2 x (by omega)).out⟩).elim⟩
 .rcases Nat.lt_or_ge i x with w|w
  .exact hx.2 i w
  .have:i=x:=by omega
   subst this;exact ⟨(Classical.byContradiction e).out⟩
theorem s66 (ll:D) (n:Int) (hn:0<=n/\n<=100) (h:zws ll n.toNat):zac (zbp (λ_=>none) .nil .nil) 4 66 [.dat 57 ll,.int .i64 n] (.dat 34 (crD ll n.toNat)):=by
 rw [zz8]
 have T:True:=trivial
 have h100:=h.out.1
 have hsh:=h.sh.out.2
 refine ⟨.inl ⟨0,rfl,⟨rfl,T,T⟩,T⟩,λx hx=>⟨zc1 (by omega),λhlt=>⟨Nat.le_refl _,by omega,⟨by omega,by omega⟩,.inr ⟨1,⟨by omega,by omega⟩,by omega,⟨rfl,⟨rfl,rfl,T⟩,T⟩,rfl,T⟩⟩,λhge=> ?_⟩,λx hx=>⟨zc1 (by omega),λhlt=>⟨Nat.le_refl _,by rw [zcp];omega,by omega,⟨by omega,by omega⟩,.inr ⟨x+1,⟨by omega,by omega⟩,by omega,⟨by omega,⟨rfl,rfl,T⟩,T⟩, ?_,T⟩⟩,λhge=> ?_⟩⟩
 .have hge:¬(0:Int)<n:=hge
  have hz:n.toNat=0:=by omega
  have noin:∀i j,i<ll.len->j<(el ll i).len->False:=λi j hi hj=>by have:=h.out.2 i j hi hj;omega
  refine ⟨⟨0,Nat.zero_le _,⟨rfl,T⟩,T⟩,λy hy=> ?_⟩
  have hy:y<=ll.len:=hy
  refine ⟨zc1 (by omega),λhlt=>⟨⟨0,Nat.zero_le _,⟨rfl,T⟩,T⟩,λz hz=> ?_⟩,λ_=> ?_⟩
  .have hz:z<=(el ll y).len:=hz
   have:=hsh y (by omega)
   exact ⟨zc1 (by omega),by omega,by omega,λk=>(noin y z (by omega) (by omega)).elim,λ_=>⟨⟨by omega,by omega⟩,y+1,(by show y+1<=ll.len;omega),by omega,⟨by omega,T⟩,T⟩⟩
  .have hl:=zbg (rgL 0) ll ll.len
   rw [zcp] at hl
   unfold crD;rw [hz,List.length_eq_zero_iff.1 hl];rfl
 .rw [List.take_of_length_le (by rw [zcp];exact Nat.le_refl _),zmU];rfl
 .have hge:¬(x:Int)<n:=hge
  have hx0:=hx.1
  have hxn:n.toNat=x:=by omega
  refine ⟨⟨0,Nat.zero_le _,⟨rfl,T⟩,rfl,T⟩,λy hy=> ?_⟩
  have hy:y<=ll.len:=hy
  refine ⟨zc1 (by omega),λhlt=>⟨⟨0,Nat.zero_le _,⟨rfl,T⟩,rfl,T⟩,λz hz=> ?_⟩,λhge=> ?_⟩
  .have hz:z<=(el ll y).len:=hz
   have:=hsh y (by omega)
   refine ⟨zc1 (by omega),by omega,by omega,λk=> ?_,λhge=>⟨⟨by omega,by omega⟩,y+1,(by show y+1<=ll.len;omega),by omega,⟨by omega,T⟩, ?_,T⟩⟩
   .have q:=h.out.2 y z (by omega) (by omega)
    exact ⟨by omega,by omega,by omega,k,q.1,by omega,by rw [zep,zbg,zcp];omega,⟨by omega,by omega⟩,z+1,(by show z+1<=(el ll y).len;omega),by omega,⟨by omega,T⟩,rfl,T⟩
   .rw [za5 hz hge];rfl
  .have e:=za5 hy hge
   subst e
   have hl:=zbg (rgL x) ll ll.len
   rw [zcp] at hl
   refine ⟨by omega, ?_⟩
   rw [List.take_of_length_le (by omega)]
   unfold crD;rw [hxn]
   exact za9 (by omega)
end
end Go.Ev

end
