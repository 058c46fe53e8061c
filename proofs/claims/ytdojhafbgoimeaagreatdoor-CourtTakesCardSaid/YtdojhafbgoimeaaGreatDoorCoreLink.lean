/- Part of the proof. -/
import Derived.Test.YtdojhafbgoimeaaGreatDoorCoreSeC
import Derived.Test.YtdojhafbgoimeaaGreatDoorCoreG2
import Derived.ChangeSlices
import Derived.WideShapes
import Derived.ProofKit
import Derived.SizedLaws
import Derived.OpenShut

namespace Go.Ev
noncomputable section
open Go.ChangeShapes Go.WideShapes Go.ChangeAt Go.RowKit
section
variable {P:Program} {W:World} {Z:Nat->Option Loc} {H:zaa} {J:Sig}
structure zi2 (W:World) (Z:Nat->Option Loc) (H:zaa) (J:Sig):Prop where
 rel:Rel Z H W
 stab:zsY J H
 low:H.next<=H.wlow
 ros:∀i,H.get i≠none->H.ro i=true
 sig:∀i,H.next<=i->J i=none
def zw3:Sig:=λi=>((default:zdV).l.find? λp=>Nat.beq p.g i).map λp=>(p.cs,0)
theorem zjY {i:Nat} {c:List Value×Nat} (h:zw3 i=some c):∃x,((default:zdV).l.find? λp=>Nat.beq p.g i)=some x/\x∈(default:zdV).l/\x.g=i/\c=(x.cs,0):=by
 unfold zw3 at h
 cases hf:((default:zdV).l.find? λp=>Nat.beq p.g i) with
 |none=>rw [hf] at h;cases h
 |some x=>
  rw [hf] at h
  exact ⟨x,rfl,List.mem_of_find?_eq_some hf,Nat.eq_of_beq_eq_true (List.find?_some (p:=λp:zmR=>Nat.beq p.g i) hf),(Option.some.inj h).symm⟩
theorem zi2.start {W:World} (hw:LaidG W):zi2 W GM GH zw3 where
 rel:=Rel.start hw
 stab:=by
  refine ⟨λi c h=> ?_,λx hx=> ?_⟩
  .obtain ⟨x,h1,h2,h3,rfl⟩:=zjY h
   refine ⟨by have:=(hw x h2).1;rw [h3] at this;exact this,x.e,none,true, ?_⟩
   rw [zsW,h1];rfl
  .unfold zw3
   cases hf:((default:zdV).l.find? λp=>Nat.beq p.g x.g) with
   |none=>exact absurd (List.find?_eq_none.1 hf x hx) (by simp)
   |some y=>
    have hm:=List.mem_of_find?_eq_some hf
    have e:y.g=x.g:=Nat.eq_of_beq_eq_true (List.find?_some (p:=λp:zmR=>Nat.beq p.g x.g) hf)
    obtain ⟨_,_,arr,fz,ha,hb⟩:=hw x hx
    obtain ⟨_,_,arr',fz',ha',hb'⟩:=hw y hm
    rw [e,ha] at ha'
    simp only [Option.some.injEq,Obj.cells.injEq] at ha'
    show some (y.cs,0)=_
    rw [<-hb',<-ha'.1,hb]
 low:=Nat.le_refl _
 ros i hi:=by
  cases hg:GH.get i with
  |none=>exact absurd hg hi
  |some bk=>
   obtain ⟨x,_,_,_,rfl⟩:=ze7 hg
   unfold zaa.ro;rw [hg]
 sig i hi:=by
  cases h:zw3 i with
  |none=>rfl
  |some c=>
   obtain ⟨x,_,h2,h3,_⟩:=zjY h
   have:=(hw x h2).1
   have hi':(default:zdV).N<=i:=hi
   omega
theorem zi2.push (L:zi2 W Z H J) (cs:List Value) (e:TypeId) (z:Nat) (loc:Option Loc) (hc:∀p,loc=some p->zdj Z W p cs e z true):
  ∃Z' H' J',zi2 W Z' H' J'/\Ext Z Z'/\XS J J'/\Z' H.next=loc/\J' H.next=some (cs,z):=by
 have hx:Ext Z (λj=>if j=H.next then loc else Z j):=λi p hi=>by
  have:i≠H.next:=λe=>by rw [e,L.rel.fresh _ (Nat.le_refl _)] at hi;cases hi
  simp [this,hi]
 refine ⟨λj=>if j=H.next then loc else Z j,{(H.alloc (.cells cs e z none true)) with wlow:=H.next+1},λj=>if j=H.next then some (cs,z) else J j, ?_,hx, ?_,by simp,by simp⟩
 .have hget:∀i,zaa.get {(H.alloc (.cells cs e z none true)) with wlow:=H.next+1} i=if i=H.next then some (.cells cs e z none true) else H.get i:=λi=>zaa.get_alloc (h:=H)
  have hro:∀i,zaa.get {(H.alloc (.cells cs e z none true)) with wlow:=H.next+1} i≠none->zaa.ro {(H.alloc (.cells cs e z none true)) with wlow:=H.next+1} i=true:=λi hi=>by
   by_cases h:i=H.next
   .unfold zaa.ro;rw [hget,if_pos h]
   .have hg:=hget i
    rw [if_neg h] at hg
    rw [zaa.ro_congr hg]
    exact L.ros i (by rw [<-hg];exact hi)
  have htop:zvJ (λj=>if j=H.next then loc else Z j) {(H.alloc (.cells cs e z none true)) with wlow:=H.next+1} W:=
   ⟨L.rel.top.1,L.rel.top.2.1.mono hx,λx m i q hi hr _=>by rw [hro i hi] at hr;cases hr⟩
  refine ⟨⟨?_, ?_,htop,trivial, ?_, ?_, ?_, ?_⟩, ?_,Nat.le_refl _,hro, ?_⟩
  .intro i hi
   have hi':H.next+1<=i:=hi
   have h1:i≠H.next:=by omega
   simp only [h1,if_false]
   exact L.rel.fresh i (by omega)
  .intro i hi
   show i<H.next+1
   by_cases h:i=H.next
   .omega
   .rw [hget,if_neg h] at hi
    have:=L.rel.below i hi
    omega
  .intro i cs' e' esz m ro p hg hp
   rw [hget] at hg
   by_cases h:i=H.next
   .rw [if_pos h] at hg
    cases hg
    simp only [h,if_true] at hp
    obtain ⟨arr,fz,a1,a2,a3,a4,a5,a6⟩:=hc p hp
    exact ⟨arr,fz,a1,a2,a3,a4,λj v hj=>by obtain ⟨u,hu,hv⟩:=a5 j v hj;exact ⟨u,hu,hv.mono hx⟩,a6⟩
   .rw [if_neg h] at hg
    simp only [h,if_false] at hp
    obtain ⟨arr,fz,a1,a2,a3,a4,a5,a6⟩:=L.rel.cells i cs' e' esz m ro p hg hp
    exact ⟨arr,fz,a1,a2,a3,a4,λj v hj=>by obtain ⟨u,hu,hv⟩:=a5 j v hj;exact ⟨u,hu,hv.mono hx⟩,a6⟩
  .intro i st pend F ps as_ bd p hg hp
   rw [hget] at hg
   by_cases h:i=H.next
   .rw [if_pos h] at hg;cases hg
   .rw [if_neg h] at hg
    have:=L.ros i (by rw [hg];simp)
    unfold zaa.ro at this
    rw [hg] at this
    cases this
  .intro i p hg hp
   rw [hget] at hg
   by_cases h:i=H.next
   .rw [if_pos h] at hg;cases hg
   .rw [if_neg h] at hg
    have:=L.ros i (by rw [hg];simp)
    unfold zaa.ro at this
    rw [hg] at this
    cases this
  .intro i j p q _ hi hj _ _ _
   exact Or.inl ⟨hro i hi,hro j hj⟩
  .refine ⟨?_,L.stab.2.mono λi c hi=> ?_⟩
   rotate_left
   .have:i≠H.next:=λe=>by rw [e,L.sig _ (Nat.le_refl _)] at hi;cases hi
    simp [this,hi]
   intro i c hi
   by_cases h:i=H.next
   .simp only [h,if_true,Option.some.injEq] at hi
    subst hi
    refine ⟨?_,e,none,true, ?_⟩
    .show i<H.next+1;omega
    .rw [hget,if_pos h]
   .simp only [h,if_false] at hi
    obtain ⟨h1,e',m,ro,h2⟩:=L.stab.1 i c hi
    refine ⟨?_,e',m,ro, ?_⟩
    .show i<H.next+1;omega
    .rw [hget,if_neg h,h2]
  .intro i hi
   have hi':H.next+1<=i:=hi
   have h1:i≠H.next:=by omega
   simp only [h1,if_false]
   exact L.sig i (by omega)
 .intro i c hi
  have:i≠H.next:=λe=>by rw [e,L.sig _ (Nat.le_refl _)] at hi;cases hi
  simp [this,hi]
variable {Hh:Type} {enc:TypeId×Value->Hh} {base:Nat} {held:Bool}
end
end
end Go.Ev
namespace Go.Ev
noncomputable section
open Go.ChangeShapes Go.WideShapes Go.ChangeAt Go.RowKit
section
variable {P:Program} {W:World} {Hh:Type} {enc:TypeId×Value->Hh} {base:Nat} {held:Bool}
def zjm (P:Program):List Field->Nat->Option Nat
 | [],o=>some o
 |fd::fs,o=>cond (Nat.beq fd.offset o&&zay P fd.type (P.cellsOf fd.type)) (zjm P fs (o+P.cellsOf fd.type)) none
def zgD (P:Program):Nat->TypeId->Bool
 |0,_=>false
 |f+1,t=>
  match P.underlying t with
  |some (.int _)|some .bool|some .string=>zay P t 1
  |some (.slice e)=>zay P t 1&&zgD P f e&&zkl P e&&zay P e (P.cellsOf e)
  |some (.struct fs)=>fs.toList.all (λfd=>zgD P f fd.type)&&zay P t (P.cellsOf t)&&(match zjm P fs.toList 0 with|some o=>Nat.beq o (P.cellsOf t)|none=>false)
  |some (.array n e)=>zgD P f e&&zkl P e&&zay P e (P.cellsOf e)&&zay P t (P.cellsOf t)&&Nat.beq (n*P.cellsOf e) (P.cellsOf t)
  |_=>false
def VRs (Z:Nat->Option Loc) (l l':List Value):Prop:=l.length=l'.length/\∀(j:Nat) (v v':Value),l[j]? =some v->l'[j]? =some v'->VR Z v v'
theorem VRs.mono {Z Z':Nat->Option Loc} {l l':List Value} (h:VRs Z l l') (hx:Ext Z Z'):VRs Z' l l':=⟨h.1,λj v v' a b=>(h.2 j v v' a b).mono hx⟩
theorem VRs.nil {Z:Nat->Option Loc}:VRs Z [] []:=⟨rfl,λj v v' h _=>by simp at h⟩
theorem VRs.one {Z:Nat->Option Loc} {v v':Value} (h:VR Z v v'):VRs Z [v] [v']:=⟨rfl,λj u u' a b=>by
 cases j with
 |zero=>simp at a b;subst a;subst b;exact h
 |succ j=>simp at a⟩
theorem VRs.append {Z:Nat->Option Loc} {a b a' b':List Value} (h:VRs Z a a') (k:VRs Z b b'):VRs Z (a++b) (a'++b'):=⟨by simp [h.1,k.1],λj v v' x y=>by
 by_cases hj:j<a.length
 .rw [List.getElem?_append_left hj] at x
  rw [List.getElem?_append_left (h.1▸hj)] at y
  exact h.2 j v v' x y
 .rw [List.getElem?_append_right (by omega)] at x
  rw [List.getElem?_append_right (by have:=h.1;omega),<-h.1] at y
  exact k.2 _ v v' x y⟩
def okD (P:Program):Nat->TypeId->D->Prop
 |0,_,_=>False
 |f+1,t,d=>
  match P.underlying t with
  |some (.int k)=>∃n,d= .int n/\inR k n
  |some .bool=>∃p,d= .bool p
  |some .string=>∃s,d= .str s/\s.length<=maxLen
  |some (.slice e)=>d= .nil\/∃l,d= .list l/\(l.length<=maxLen/\l.length*P.bytesOf e<=reachBytes)/\∀(j:Nat) (x:D),l[j]? =some x->okD P f e x
  |some (.struct fs)=>∃ds,d= .sct ds/\ds.length=fs.size/\∀(j:Nat) (fd:Field) (x:D),fs[j]? =some fd->ds[j]? =some x->okD P f fd.type x
  |some (.array n e)=>∃ds,d= .sct ds/\ds.length=n/\∀(j:Nat) (x:D),ds[j]? =some x->okD P f e x
  |_=>False
theorem zws {k:IntKind} {n:Int} (h:(Lit.int k n).wf=true):inR k n:=by
 simp only [Lit.wf,Bool.and_eq_true,decide_eq_true_eq] at h
 obtain ⟨h1,h2⟩:=h
 cases k<;>simp [IntKind.min,IntKind.max,IntKind.signed,IntKind.bits] at h1 h2<;>simp only [inR]<;>omega
def zxK (P:Program) (W:World) (Z:Nat->Option Loc) (J:Sig) (f:Nat) (t:TypeId) (cs:List Value):Prop:=
 ∃(Z':Nat->Option Loc) (H':zaa) (J':Sig) (cs0:List Value) (D:D),zi2 W Z' H' J'/\Ext Z Z'/\XS J J'/\VRs Z' cs0 cs/\zan P J' t D cs0/\okD P f t D
def zkm (P:Program) (W:World) (f:Nat) (t:TypeId) (cs:List Value):Prop:= ∀Z H J,zi2 W Z H J->zxK P W Z J f t cs
theorem zgE {n f0:Nat}:∀(fs:List Field) (o oe:Nat) (cs:List Value),zjm P fs o=some oe->cs.length=oe->
  (∀(j:Nat) (fd:Field),fs[j]? =some fd->zkm P W f0 fd.type ((cs.drop fd.offset).take (P.cellsOf fd.type)))->∀Z H J,zi2 W Z H J->
  ∃(Z':Nat->Option Loc) (H':zaa) (J':Sig) (css:List (List Value)) (ds:List D),zi2 W Z' H' J'/\Ext Z Z'/\XS J J'/\VRs Z' css.flatten (cs.drop o)/\css.length=fs.length/\ds.length=fs.length/\o<=oe/\
   ∀(j:Nat) (f:Field) (d:D) (c:List Value),fs[j]? =some f->ds[j]? =some d->css[j]? =some c->zan P J' f.type d c/\okD P f0 f.type d
 | [],o,oe,cs,he,hl,_,Z,H,J,L=>by
  simp only [zjm,Option.some.injEq] at he
  refine ⟨Z,H,J,[],[],L,.refl _,.refl _, ?_,rfl,rfl,by omega,λj f d c h=>by simp at h⟩
  rw [List.drop_eq_nil_of_le (by omega)];exact .nil
 |fd::fs,o,oe,cs,he,hl,hf,Z,H,J,L=>by
  simp only [zjm] at he
  cases hc:(Nat.beq fd.offset o&&zay P fd.type (P.cellsOf fd.type)) with
  |false=>rw [hc] at he;cases he
  |true=>
   rw [hc] at he
   simp only [Bool.and_eq_true] at hc
   have ho:=Nat.eq_of_beq_eq_true hc.1
   obtain ⟨Z1,H1,J1,c0,d0,L1,x1,s1,v1,r1,k1⟩:=hf 0 fd rfl Z H J L
   obtain ⟨Z2,H2,J2,css,ds,L2,x2,s2,v2,l1,l2,hle,r2⟩:=zgE (n:=n) fs _ oe cs he hl (λj g hg=>hf (j+1) g hg) Z1 H1 J1 L1
   refine ⟨Z2,H2,J2,c0::css,d0::ds,L2,x1.trans x2,s1.trans s2, ?_,by simp [l1],by simp [l2],by omega,λj f d c a b c'=> ?_⟩
   .have e:cs.drop o=(cs.drop fd.offset).take (P.cellsOf fd.type)++cs.drop (o+P.cellsOf fd.type):=by
     rw [ho,<-List.drop_drop,List.take_append_drop]
    rw [List.flatten_cons,e]
    exact (v1.mono x2).append v2
   .cases j with
    |zero=>simp at a b c';subst a;subst b;subst c';exact ⟨r1.mono s2,k1⟩
    |succ j=>exact r2 j f d c (by simpa using a) (by simpa using b) (by simpa using c')
theorem zfm {f0:Nat} {e:TypeId} {z:Nat} (hz:zaj P e=some z) (css':Nat->List Value):∀(k:Nat),(∀j,j<k->zkm P W f0 e (css' j))->∀Z H J,zi2 W Z H J->
  ∃(Z':Nat->Option Loc) (H':zaa) (J':Sig) (css:List (List Value)) (ds:List D),zi2 W Z' H' J'/\Ext Z Z'/\XS J J'/\css.length=k/\ds.length=k/\(∀c∈css,c.length=z)/\(∀(j:Nat) (c:List Value),css[j]? =some c->VRs Z' c (css' j))/\∀(j:Nat) (d:D) (c:List Value),ds[j]? =some d->css[j]? =some c->zan P J' e d c/\okD P f0 e d
 |0,_,Z,H,J,L=>⟨Z,H,J,[],[],L,.refl _,.refl _,rfl,rfl,λc hc=>by simp at hc,λj c h=>by simp at h,λj d c h=>by simp at h⟩
 |k+1,hk,Z,H,J,L=>by
  obtain ⟨Z1,H1,J1,css,ds,L1,x1,s1,l1,l2,hl,hv,hr⟩:=zfm hz css' k (λj hj=>hk j (by omega)) Z H J L
  obtain ⟨Z2,H2,J2,c0,d0,L2,x2,s2,v2,r2,k2⟩:=hk k (by omega) Z1 H1 J1 L1
  refine ⟨Z2,H2,J2,css++ [c0],ds++ [d0],L2,x1.trans x2,s1.trans s2,by simp [l1],by simp [l2],λc hc=> ?_,λj c h=> ?_,λj d c a b=> ?_⟩
  .rcases List.mem_append.1 hc with h|h
   .exact hl c h
   .have:c=c0:=by simpa using h
    subst this
    have:=r2.size;rw [hz] at this;exact (Option.some.inj this).symm
  .by_cases hj:j<css.length
   .rw [List.getElem?_append_left hj] at h;exact (hv j c h).mono x2
   .rw [List.getElem?_append_right (by omega)] at h
    have hj0:j-css.length=0:=by
     have:=(List.getElem?_eq_some_iff.1 h).1
     simp at this;omega
    rw [hj0] at h
    simp at h;subst h
    have:j=k:=by omega
    rw [this];exact v2
  .by_cases hj:j<css.length
   .rw [List.getElem?_append_left (by omega)] at a
    rw [List.getElem?_append_left hj] at b
    exact ⟨(hr j d c a b).1.mono s2,(hr j d c a b).2⟩
   .rw [List.getElem?_append_right (by omega)] at a b
    have hj0:j-css.length=0:=by
     have:=(List.getElem?_eq_some_iff.1 b).1
     simp at this;omega
    have hj1:j-ds.length=0:=by omega
    rw [hj0] at b;rw [hj1] at a
    simp at a b;subst a;subst b;exact ⟨r2,k2⟩
theorem znR {a:Addr} (hs:a.spot=none) (n:Nat):a.add n=⟨a.block,a.off+n,none⟩:=by
 obtain ⟨b,o,s⟩:=a
 simp only at hs
 subst hs
 unfold Addr.add
 split
 .rename_i h;subst h;rfl
 .rfl
theorem zc9 {P:Program} {e:TypeId} {n:Nat}:∀{l:List (DataW Hh)} {d:DataW Hh},d∈l->n∈d.weights P e->n∈DataW.weightsAll P e l
 |a::l,d,h,hn=>by
  simp only [DataW.weightsAll,List.mem_append]
  rcases List.mem_cons.1 h with rfl|h
  .exact .inl hn
  .exact .inr (zc9 h hn)
theorem ze1:∀(f:Nat) (t:TypeId),zgD P f t=true->∀(fuel:Nat) (cs:List Value) (x:DataW Hh×List MemPlace),DataW.trod enc P W base (λ_=>true) held fuel t cs=some x->(∀n∈x.1.weights P t,n<=reachBytes)->zkm P W f t cs
 |0,t,h,_,_,_,_,_=>by cases h
 |f+1,t,h,fuel,cs,x,hx,hw=>by
  intro Z H J L
  unfold zgD at h
  split at h
  .rename_i k hu
   obtain ⟨n,rfl,_,hwf⟩:=DataW.trod_int hu hx
   exact ⟨Z,H,J,[.int k n],.int n,L,.refl _,.refl _,.one (.flat rfl),.int hu (zaw h),by unfold okD;rw [hu];exact ⟨n,rfl,zws hwf⟩⟩
  .rename_i hu
   obtain ⟨b,rfl,_⟩:=DataW.trod_bool hu hx
   refine ⟨Z,H,J,[.bool b],.bool (b=true),L,.refl _,.refl _,.one (.flat rfl), ?_,by unfold okD;rw [hu];exact ⟨_,rfl⟩⟩
   have:=zan.bool (P:=P) (J:=J) (t:=t) (p:=b=true) hu (zaw h)
   rw [zby (b:=b) Iff.rfl] at this
   exact this
  .rename_i hu
   obtain ⟨s,rfl,_,hsl⟩:=DataW.trod_string hu hx
   refine ⟨Z,H,J,[.string s],.str s.data.toList,L,.refl _,.refl _,.one (.flat rfl), ?_,by unfold okD;rw [hu];exact ⟨_,rfl,by simpa using hsl⟩⟩
   have:=zan.str (P:=P) (J:=J) (t:=t) (s:=s.data.toList) hu (zaw h)
   exact this
  .rename_i e hu
   simp only [Bool.and_eq_true] at h
   obtain ⟨⟨⟨h1,h2⟩,h3⟩,h4⟩:=h
   have hs1:=zaw h1
   have hze:=zaw h4
   generalize hzz:P.cellsOf e=z at*
   have hz0:0<z:=by
    unfold zkl at h3
    rw [hze] at h3
    exact zbg h3
   rcases DataW.trod_slice hu hx with ⟨rfl,_⟩| ⟨a,len,cap,elems,rest,n,rfl,rfl,hxe,_,hle,hmx,hel,h5,h6,_⟩
   .exact ⟨Z,H,J,_,.nil,L,.refl _,.refl _,.one (.flat rfl),.nil hu hs1,by unfold okD;rw [hu];exact .inl rfl⟩
   .obtain ⟨hrl,h6⟩:=h6 rfl
    rw [hxe] at hw
    have hw1:(elems.length+rest.length)*P.bytesOf e<=reachBytes:=hw _ (by simp [DataW.weights,hu])
    have hw2:∀y,y∈elems++rest->∀n∈y.1.weights P e,n<=reachBytes:=λy hy n hn=>hw n (by
     simp only [DataW.weights,hu,List.mem_cons,List.mem_append]
     rcases List.mem_append.1 hy with h|h
     .exact .inr (.inl (zc9 (List.mem_map.2 ⟨y,h,rfl⟩) hn))
     .exact .inr (.inr (zc9 (List.mem_map.2 ⟨y,h,rfl⟩) hn)))
    rw [hzz] at h5 h6
    have each:∀i,i<cap->∃c y,W.cells? base (a.add (i*z)) z=some c/\(DataW.trod enc P W base (λ_=>true) held n e c=some y/\y∈elems++rest):=λi hi=>by
     have:∃y,(W.cells? base (a.add (i*z)) z).bind (DataW.trod enc P W base (λ_=>true) held n e)=some y/\y∈elems++rest:=by
      by_cases hil:i<len
      .rw [h5 i hil];exact ⟨_,List.getElem?_eq_getElem (by omega),List.mem_append_left _ (List.getElem_mem _)⟩
      .have:=h6 (i-len) (by omega)
       rw [show len+(i-len)=i by omega] at this
       rw [this];exact ⟨_,List.getElem?_eq_getElem (by omega),List.mem_append_right _ (List.getElem_mem _)⟩
     obtain ⟨y,hy,hm⟩:=this
     obtain ⟨c,h1,h2⟩:=Option.bind_eq_some_iff.1 hy
     exact ⟨c,y,h1,h2,hm⟩
    let css':Nat->List Value:=λi=>(W.cells? base (a.add (i*z)) z).getD []
    obtain ⟨Z1,H1,J1,css,ds,L1,x1,s1,l1,l2,hl,hv,hr⟩:=zfm hze css' len (λj hj=>by
     obtain ⟨c,y,h1,h2',hm⟩:=each j (by omega)
     have:css' j=c:=by show (W.cells? base (a.add (j*z)) z).getD []=c;rw [h1];rfl
     rw [this]
     exact ze1 f e h2 n c y h2' (hw2 y hm)) Z H J L
    have hflen:css.flatten.length=len*z:=by rw [zf5 hl,l1]
    have hread:∀(J':Sig) (c:Nat),XS J1 J'->J' H1.next=some (css.flatten,z)->(c=UNK\/(ds.length<=c/\c<UNK))->zan P J' t (.list ds) [.slice (some ⟨H1.next,0,none⟩) ds.length c]:=λJ' c hxs hσ hc=>by
     refine zan.list (sz:=z) hu hs1 hze hσ (by rw [l2,hflen];omega) hc (.inl rfl) λj d hj=> ?_
     rw [Nat.zero_add,zf4 hl]
     have hjl:j<css.length:=by have:=(List.getElem?_eq_some_iff.1 hj).1;omega
     rw [List.getElem?_eq_getElem hjl]
     exact (hr j d _ hj (List.getElem?_eq_getElem hjl)).1.mono hxs
    have hokd:okD P (f+1) t (.list ds):=by
     unfold okD;rw [hu]
     refine .inr ⟨ds,rfl,⟨by omega,Nat.le_trans (Nat.mul_le_mul_right _ (by omega)) hw1⟩,λj x hj=> ?_⟩
     have hjl:j<css.length:=by have:=(List.getElem?_eq_some_iff.1 hj).1;omega
     exact (hr j x _ hj (List.getElem?_eq_getElem hjl)).2
    by_cases hcap:cap=0
    .have hl0:len=0:=by omega
     obtain ⟨Z2,H2,J2,L2,x2,s2,_,hσ⟩:=L1.push css.flatten e z none (λp h=>by cases h)
     have:=hread J2 UNK s2 hσ (.inl rfl)
     rw [l2,hl0] at this
     refine ⟨Z2,H2,J2,_,_,L2,x1.trans x2,s1.trans s2,.one ?_,this,hokd⟩
     rw [hl0,hcap]
     exact .slice0
    .obtain ⟨c0,y0,hc0,_⟩:=each 0 (by omega)
     obtain ⟨_,q2,q3⟩:=World.cells?_some hc0
     have hcell0:W.cell? a=c0[0]? :=by simpa [Addr.add] using q3 0 hz0
     have hsome:∃u,W.cell? a=some u:=by rw [hcell0];exact ⟨_,List.getElem?_eq_getElem (by omega)⟩
     have hspot:a.spot=none:=by
      obtain ⟨u,hu'⟩:=hsome
      unfold World.cell? at hu'
      split at hu'
      .cases hsp:a.spot with
       |none=>rfl
       |some s=>rw [hsp] at hu';simp at hu'
      .cases hu'
     obtain ⟨arr,e',fz,hb⟩:∃arr e' fz,W.heap[a.block]? =some (.cells arr e' fz):=by
      obtain ⟨u,hu'⟩:=hsome
      unfold World.cell? at hu'
      split at hu'
      .rename_i c e' fz hh;exact ⟨c,e',fz,hh⟩
      .cases hu'
     have hcell:∀i,i<cap->∀c,W.cells? base (a.add (i*z)) z=some c->c.length=z/\∀r,r<z->arr[a.off+(i*z+r)]? =c[r]? :=λi hi c hc=>by
      obtain ⟨_,q2,q3⟩:=World.cells?_some hc
      refine ⟨q2,λr hr=> ?_⟩
      have:=q3 r hr
      rw [znR hspot,znR (a:=⟨a.block,a.off+i*z,none⟩) rfl] at this
      unfold World.cell? at this
      rw [hb] at this
      rw [<-this]
      simp [Nat.add_assoc]
     have hsize:a.off+cap*z<=arr.size:=by
      obtain ⟨c,y,hc,_⟩:=each (cap-1) (by omega)
      obtain ⟨g1,g2⟩:=hcell (cap-1) (by omega) c hc
      have:=g2 (z-1) (by omega)
      rw [List.getElem?_eq_getElem (by omega)] at this
      have:=(Array.getElem?_eq_some_iff.1 this).1
      have e1:(cap-1)*z+z=cap*z:=by rw [<-Nat.succ_mul];congr 1;omega
      omega
     obtain ⟨Z2,H2,J2,L2,x2,s2,hμ,hσ⟩:=L1.push css.flatten e' z (some ⟨a.block,a.off,cap*z,z⟩) (λp hp=>by
      cases hp
      refine ⟨arr,fz,hb,hsize,by rw [hflen];exact Nat.mul_le_mul_right _ hle,⟨rfl,λh=>by omega⟩,λj v hj=> ?_,λh=>by cases h⟩
      have hjl:j<len*z:=by have:=(List.getElem?_eq_some_iff.1 hj).1;omega
      have hq:j/z<len:=(Nat.div_lt_iff_lt_mul hz0).2 hjl
      have hrm:j%z<z:=Nat.mod_lt _ hz0
      have hdm:j/z*z+j%z=j:=by rw [Nat.mul_comm];exact Nat.div_add_mod j z
      obtain ⟨c,y,hc,_⟩:=each (j/z) (by omega)
      obtain ⟨g1,g2⟩:=hcell (j/z) (by omega) c hc
      have g3:=g2 (j%z) hrm
      rw [hdm] at g3
      have hcj:css[j/z]? =some (css[j/z]'(by omega)):=List.getElem?_eq_getElem (by omega)
      have hvv:=hv _ _ hcj
      have e1:css' (j/z)=c:=by show (W.cells? base (a.add (j/z*z)) z).getD []=c;rw [hc];rfl
      rw [e1] at hvv
      have e2:(css[j/z]'(by omega))[j%z]? =some v:=by
       have:=zf4 hl (j/z)
       rw [hcj] at this
       simp only [Option.getD_some] at this
       rw [<-this,List.getElem?_take,if_pos hrm,List.getElem?_drop,hdm]
       exact hj
      refine ⟨c[j%z]'(by omega), ?_,hvv.2 _ _ _ e2 (List.getElem?_eq_getElem (by omega))⟩
      show arr[a.off+j]? =_
      rw [g3];exact List.getElem?_eq_getElem (by omega))
     have:=hread J2 UNK s2 hσ (.inl rfl)
     rw [l2] at this
     refine ⟨Z2,H2,J2,_,_,L2,x1.trans x2,s1.trans s2,.one ?_,this,hokd⟩
     have h7:=VR.sliceU (i:=H1.next) (o:=0) (l:=len) (c:=cap) hμ hle (by simp)
     have ea:a=⟨a.block,a.off,none⟩:=by
      obtain ⟨b,o,s⟩:=a
      simp only at hspot
      subst hspot;rfl
     rw [ea]
     simpa using h7
  .rename_i fs hu
   simp only [Bool.and_eq_true] at h
   obtain ⟨⟨h1,h2⟩,h3⟩:=h
   obtain ⟨xs,n,rfl,hxe,hlen,hxl,hfld⟩:=DataW.trod_struct hu hx
   rw [hxe] at hw
   split at h3
   .rename_i oe heo
    have hoe:=Nat.eq_of_beq_eq_true h3
    obtain ⟨Z1,H1,J1,css,ds,L1,x1,s1,v1,l1,l2,_,r1⟩:=zgE (n:=0) fs.toList 0 oe cs heo (by rw [hlen,hoe]) (λj fd hj=>by
     have hj':fs[j]? =some fd:=by simpa using hj
     have hjl:j<fs.size:=(Array.getElem?_eq_some_iff.1 hj').1
     have:=hfld j fd hj'
     rw [List.getElem?_eq_getElem (by omega)] at this
     exact ze1 f fd.type (List.all_eq_true.1 h1 fd (List.mem_of_getElem? hj)) n _ _ this (λm hm=>hw m (by
      simp only [DataW.weights,hu]
      exact DataW.weights_mem_each (j:=j) (by rw [List.getElem?_map,hj];rfl) (by rw [List.getElem?_map,List.getElem?_eq_getElem (by omega)];rfl) m hm))) Z H J L
    rw [List.drop_zero] at v1
    refine ⟨Z1,H1,J1,css.flatten,.sct ds,L1,x1,s1,v1,.sct hu (by simpa using l1) (by simpa using l2) (by rw [zaw h2,v1.1,hlen]) λj f d c a b c'=>(r1 j f d c (by simpa using a) b c').1, ?_⟩
    unfold okD;rw [hu]
    refine ⟨ds,rfl,by simpa using l2,λj fd x a b=> ?_⟩
    have hjl:j<css.length:=by have:=(List.getElem?_eq_some_iff.1 b).1;omega
    exact (r1 j fd x _ (by simpa using a) b (List.getElem?_eq_getElem hjl)).2
   .cases h3
  .rename_i k e hu
   simp only [Bool.and_eq_true] at h
   obtain ⟨⟨⟨⟨h2,h3⟩,h4⟩,h1⟩,h5⟩:=h
   have hze:=zaw h4
   have h5:=Nat.eq_of_beq_eq_true h5
   obtain ⟨xs,m,rfl,hxe,hlen,hxl,hel⟩:=DataW.trod_array hu hx
   rw [hxe] at hw
   have h1:=zaw h1
   rw [<-h5] at hlen h1
   generalize P.cellsOf e=z at*
   have hz0:0<z:=by
    unfold zkl at h3
    rw [hze] at h3
    exact zbg h3
   obtain ⟨Z1,H1,J1,css,ds,L1,x1,s1,l1,l2,hl,hv,hr⟩:=zfm hze (λj=>(cs.drop (j*z)).take z) k (λj hj=>by
    have:=hel j hj
    rw [List.getElem?_eq_getElem (by omega)] at this
    exact ze1 f e h2 m _ _ this (λn hn=>hw n (by simp only [DataW.weights,hu];exact zc9 (List.mem_map.2 ⟨xs[j]'(by omega),List.getElem_mem _,rfl⟩) hn))) Z H J L
   have hfl:css.flatten.length=k*z:=by rw [zf5 hl,l1]
   refine ⟨Z1,H1,J1,css.flatten,.sct ds,L1,x1,s1,⟨by rw [hfl,hlen],λj v v' a b=> ?_⟩,.arr hu l1 l2 (by rw [h1,hfl]) λj d c a b=>(hr j d c a b).1, ?_⟩
   .have hjl:j<k*z:=by have:=(List.getElem?_eq_some_iff.1 a).1;omega
    have hq:j/z<k:=(Nat.div_lt_iff_lt_mul hz0).2 hjl
    have hrm:j%z<z:=Nat.mod_lt _ hz0
    have hdm:j/z*z+j%z=j:=by rw [Nat.mul_comm];exact Nat.div_add_mod j z
    have hcj:css[j/z]? =some (css[j/z]'(by omega)):=List.getElem?_eq_getElem (by omega)
    have hvv:=hv _ _ hcj
    have e2:(css[j/z]'(by omega))[j%z]? =some v:=by
     have:=zf4 hl (j/z)
     rw [hcj] at this
     simp only [Option.getD_some] at this
     rw [<-this,List.getElem?_take,if_pos hrm,List.getElem?_drop,hdm]
     exact a
    refine hvv.2 _ _ _ e2 ?_
    show ((cs.drop (j/z*z)).take z)[j%z]? =some v'
    rw [List.getElem?_take,if_pos hrm,List.getElem?_drop,hdm];exact b
   .unfold okD;rw [hu]
    refine ⟨ds,rfl,l2,λj x b=> ?_⟩
    exact (hr j x _ b (List.getElem?_eq_getElem (by have:=(List.getElem?_eq_some_iff.1 b).1;omega))).2
  .cases h
end
end
end Go.Ev
