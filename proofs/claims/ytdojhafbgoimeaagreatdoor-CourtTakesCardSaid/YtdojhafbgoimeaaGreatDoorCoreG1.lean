/- Part of the proof. -/
import Derived.Test.YtdojhafbgoimeaaGreatDoorCoreG0
import Derived.RangeFuncLeaves
import Derived.RangeFuncRecord
import Derived.OrdersIn
import Derived.LoopNIn
import Derived.Scope
import Derived.Sort.Grow
import Derived.RecoverIn
import Derived.Laws.Externs
import Derived.Lib.MakeNoZero
import Derived.KernelRfl

section

namespace Go.Ev
noncomputable section
open Go.RowKit
section
variable {P:Program} {Z:Nat->Option Loc} {H H':zaa} {w:World} {v:Value}
theorem zm2 {s:Sem Value} (h:zcL P s v Z H w H'):∃Z' v' w',(do pure (.value (<-s)):Sem Next).run P w= .ok (.value v') w'/\VR Z' v v'/\zaK Z H w Z' H' w':=by
 obtain ⟨Z',v',w',hs,hv,hp⟩:=h
 exact ⟨Z',v',w',by simp [hs],hv,hp⟩
def zlB (P:Program) (s:Sem Next) (v:Value) (Z:Nat->Option Loc) (H:zaa) (w:World) (H':zaa):Prop:=
 ∃Z' v' w',(s.run P w= .ok (.value v') w'\/(s.run P w= .ok .skip w'/\v'=undef))/\VR Z' v v'/\zaK Z H w Z' H' w'
theorem zlB.of {s:Sem Value} (h:zcL P s v Z H w H'):zlB P (do pure (.value (<-s))) v Z H w H':=
 let ⟨Z',v',w',a,b,c⟩:=zm2 h;⟨Z',v',w',.inl a,b,c⟩
theorem zkV {F:zab} {ρ':Operand->Value} {x:Option Operand} (h:∀y,x=some y->VR Z (zah F y) (ρ' y)):OVR Z (x.map (zah F)) (x.map ρ'):=by
 cases x with
 |none=>exact ⟨λa h=>(by cases h),λ_=>rfl⟩
 |some y=>exact ⟨λa ha=>⟨ρ' y,rfl,by simp at ha;subst ha;exact h y rfl⟩,λh=>(by cases h)⟩
theorem zs0 {F:zab} {ρ':Operand->Value} {xs:Array Operand} (h:∀y,y∈xs.toList->VR Z (zah F y) (ρ' y)):AR Z (xs.map (zah F)) (xs.map ρ'):=by
 refine ⟨by simp,λi v v' hv hv'=> ?_⟩
 simp only [Array.getElem?_map] at hv hv'
 cases hx:xs[i]? with
 |none=>rw [hx] at hv;cases hv
 |some y=>
  rw [hx] at hv hv'
  simp only [Option.map_some,Option.some.injEq] at hv hv'
  subst hv;subst hv'
  exact h y (by rw [Array.mem_toList_iff];exact Array.mem_of_getElem? hx)
theorem zts {call:Call->TypeId->zab->zaa->Option (Value×zaa)} {F:zab} {ρ':Operand->Value} (o:Oper) (hr:Rel Z H w)
  (hρ:∀x,x∈o.op.operands.toList->VR Z (zah F x) (ρ' x)) (hnc:∀c,o.op≠ .call c) (h:opA call P F o.op o.type H=some (v,H')):zlB P (execOp ρ' o) v Z H w H':=by
 obtain ⟨dst,op,type,pos,after,guard⟩:=o
 simp only at hρ hnc h
 cases op<;>simp only [opA] at h<;>(try (cases h;done))<;>simp only [execOp]
 case move x=>
  simp only [zpO,Option.some.injEq,Prod.mk.injEq] at h
  obtain ⟨rfl,rfl⟩:=h
  exact ⟨Z,ρ' x,w,.inl rfl,hρ x (by simp [Op.operands]),.refl hr⟩
 case assign x=>
  simp only [zpO,Option.some.injEq,Prod.mk.injEq] at h
  obtain ⟨rfl,rfl⟩:=h
  exact ⟨Z,ρ' x,w,.inl rfl,hρ x (by simp [Op.operands]),.refl hr⟩
 case pick c a b=>
  obtain ⟨v',hrun,hv,rfl⟩:=zso (P:=P) (w:=w) h (hρ c (by simp [Op.operands])) (hρ a (by simp [Op.operands])) (hρ b (by simp [Op.operands]))
  exact ⟨Z,v',w,.inl hrun,hv,.refl hr⟩
 case alloc e=>exact .of (znU hr h)
 case box e x=>exact .of (zt6 hr h (hρ x (by simp [Op.operands])))
 case build t ps=>
  cases hz:zcV P t with
  |false=>rw [hz] at h;cases h
  |true=>
   rw [hz] at h
   simp only [cond_true] at h
   obtain ⟨hb,rfl⟩:=zfw h
   exact .of (zrv hr hb (zvH.of_map λx hx=>hρ x (by simpa [Op.operands] using hx)) hz)
 case buildSlice t n ps=>exact .of (zha hr h λx hx=>hρ x (by simpa [Op.operands] using hx))
 case load t a=>
  obtain ⟨hl,rfl⟩:=zfw h
  obtain ⟨v',⟨ad,he,hrun⟩,hv⟩:=zmb hr hl (hρ a (by simp [Op.operands]))
  exact .of (.still hr (by rw [he];simp only [Instr.loadAt,Instr.sureAddr,Sem.run_bind,Sem.run_pure,Result.andThen_ok];exact hrun) hv)
 case store t a x=>
  unfold zbt at h
  split at h
  .rename_i h2 hs
   simp only [Option.some.injEq,Prod.mk.injEq] at h
   obtain ⟨rfl,rfl⟩:=h
   obtain ⟨w',hrun,hp⟩:=zqz hr hs (hρ a (by simp [Op.operands])) (hρ x (by simp [Op.operands]))
   exact ⟨Z,undef,w',.inr ⟨by simp [hrun],rfl⟩,.undef Z,hp⟩
  .cases h
 case nilCheck x=>
  obtain ⟨h1,h2,rfl⟩:=zjK (P:=P) (w:=w) h (hρ x (by simp [Op.operands])) ⟨dst,.nilCheck x,type,pos,after,guard⟩ ρ' x rfl rfl
  simp only [execOp] at h1
  exact ⟨Z,_,w,.inl h1,h2,.refl hr⟩
 case binOp op t x y ty=>exact .of (zt3 hr h (hρ x (by simp [Op.operands])) (hρ y (by simp [Op.operands])))
 case unOp op t x=>exact .of (zxd hr h (hρ x (by simp [Op.operands])))
 case convert s d x=>exact .of (zrH hr h (hρ x (by simp [Op.operands])))
 case makeFunc fn fs cs=>
  cases fn<;>simp only [reduceCtorEq] at h
  simp only [Option.some.injEq,Prod.mk.injEq] at h
  obtain ⟨rfl,rfl⟩:=h
  have a1:AR Z (fs.map (zah F)) (fs.map ρ'):=zs0 λy hy=>hρ y (by simp only [Op.operands,Array.toList_append,List.mem_append];exact .inl hy)
  have a2:AR Z (cs.map (zah F)) (cs.map ρ'):=zs0 λy hy=>hρ y (by simp only [Op.operands,Array.toList_append,List.mem_append];exact .inr hy)
  exact .of (.still hr rfl (.func a1.1 a1.2 a2.1 a2.2))
 case makeSlice t l c=>exact .of (zh8 hr h (hρ l (by simp [Op.operands])) (hρ c (by simp [Op.operands])))
 case slice t x lo hi mx=>
  exact .of (zqu hr h (hρ x (by simp [Op.operands])) (zkV λy hy=>hρ y (by subst hy;simp [Op.operands])) (zkV λy hy=>hρ y (by subst hy;simp [Op.operands])) (zkV λy hy=>hρ y (by subst hy;simp [Op.operands])))
 case fieldAddr s x f=>exact .of (zhX hr h (hρ x (by simp [Op.operands])))
 case field t x f=>exact .of (zoT hr h (hρ x (by simp [Op.operands])))
 case indexAddr t x ix=>
  obtain ⟨hi,rfl⟩:=zfw h
  exact .of (zh3 hr hi (hρ x (by simp [Op.operands])) (hρ ix (by simp [Op.operands])))
 case index t x ix=>exact .of (zpt hr h (hρ x (by simp [Op.operands])) (hρ ix (by simp [Op.operands])))
 case extract t ix=>exact .of (zkx hr h (hρ t (by simp [Op.operands])))
 case typeAssert x s t ok=>
  cases hf:Ev.flat (zah F x) with
  |false=>rw [hf] at h;cases h
  |true=>
   rw [hf] at h
   simp only [cond_true] at h
   have:=(hρ x (by simp [Op.operands])).eq hf
   rw [this]
   exact .of (.of_flatValR hr h)
 case call c=>exact absurd rfl (hnc c)
end
end
end Go.Ev

end

section

namespace Go.Ev
noncomputable section
open Go.RowKit
def FNC (rd:Option Nat):Fence:={Fence.wide with round:=rd}
inductive MR (Z:Nat->Option Loc):List zfO->List Deferred->Prop
 |nil:MR Z [] []
 |cons {D:Nat} {p:Loc} {ms:List zfO} {ds:List Deferred} (h:Z D=some p) (t:MR Z ms ds):MR Z (.col D::ms) ({target:= .collected p.b,args:= #[]}::ds)
 |fn {g:FuncId} {xs:List Value} {cap args:Array Value} {ms:List zfO} {ds:List Deferred} (h:AR Z ⟨xs⟩ (args++cap)) (t:MR Z ms ds):MR Z (.fn g xs::ms) ({target:= .fn (.func g) cap,args:=args}::ds)
theorem MR.mono {Z Z':Nat->Option Loc} {ms:List zfO} {ds:List Deferred} (h:MR Z ms ds) (hx:Ext Z Z'):MR Z' ms ds:=by
 induction h with
 |nil=>exact .nil
 |cons h _ ih=>exact .cons (hx _ _ h) ih
 |fn h _ ih=>exact .fn ⟨h.1,λi v v' a b=>(h.2 i v v' a b).mono hx⟩ ih
def RD (Z:Nat->Option Loc) (rd rd':Option Nat):Prop:=
 match rd,rd' with
 |none,none=>True
 |some l,some l'=>∃p,Z l=some p/\p.b=l'
 |_,_=>False
theorem RD.mono {Z Z':Nat->Option Loc} {rd rd':Option Nat} (h:RD Z rd rd') (hx:Ext Z Z'):RD Z' rd rd':=by
 cases rd<;>cases rd'<;>simp only [RD] at h⊢
 obtain ⟨p,hp,hb⟩:=h;exact ⟨p,hx _ _ hp,hb⟩
def zwd:AEx->Exit
 | .normal=> .normal
 | .exit id=> .exit id
 | .ret=> .ret
def QOK (Z:Nat->Option Loc) (h:zaa) (w:World) (e:AEx) (F':zab) (h':zaa):Exit->Act->World->Prop:=λe' a' w'=>
 e'=zwd e/\∃Z',FR Z' F' a'.tmps/\MR Z' F'.marks a'.defers/\zaK Z h w Z' h' w'
def zco (P:Program) (run:Run):Prop:= ∀(rd:Option Nat) (c:Code) (F:zab) (h:zaa) (e:AEx) (F':zab) (h':zaa),run rd c F h=some (e,F',h')->zaB c=true->
 ∀(n:Nat) (Z:Nat->Option Loc) (rd':Option Nat) (a:Act) (w:World),Rel Z h w->FR Z F a.tmps->MR Z F.marks a.defers->RD Z rd rd'->c.wpIn (FNC rd') n P (QOK Z h w e F' h') a w
def Ret (Z:Nat->Option Loc) (h:zaa) (w:World) (v:Value) (h':zaa):Ending->World->Prop:=λe w'=>∃Z' v',e= .returned v'/\VR Z' v v'/\zaK Z h w Z' h' w'
section
variable {P:Program} {Z:Nat->Option Loc} {H H':zaa} {w:World} {v:Value}
theorem zoX (rd:Option Nat) (n:Nat):(FNC rd).depth.isSome=true->1<=n:=λh=>by cases h
theorem znJ {o:Oper} {a:Act} {rd:Option Nat} {n:Nat} {K:Act->World->Prop} {Q:Exit->Act->World->Prop} (hnd:∀c,o.op≠ .defer c)
  (h:zlB P (execOp a.eval o) v Z H w H') (hK:∀Z' v' w',VR Z' v v'->zaK Z H w Z' H' w'->K (a.put o.dst v') w'):o.wpIn (FNC rd) n P a w K Q:=by
 obtain ⟨Z',v',w',hrun,hv,hp⟩:=h
 refine ⟨λf _=>trivial, ?_⟩
 rw [Oper.semAt_eq _ _ _ hnd]
 rcases hrun with hrun| ⟨hrun,rfl⟩
 .rw [hrun];exact hK Z' v' w' hv hp
 .rw [hrun];exact hK Z' undef w' hv hp
def zcy (P:Program) (call:Call->TypeId->zab->zaa->Option (Value×zaa)):Prop:=
 ∀(c:Call) (F:zab) (h:zaa) (v:Value) (h':zaa) (o:Oper),o.op= .call c->call c o.type F h=some (v,h')->zcx o.op=true->
  ∀(n:Nat) (Z:Nat->Option Loc) (rd':Option Nat) (a:Act) (w:World) (K:Act->World->Prop) (Q:Exit->Act->World->Prop),Rel Z h w->(∀x,x∈o.op.operands.toList->VR Z (zah F x) (a.eval x))->
   (∀Z' v' w',VR Z' v v'->zaK Z h w Z' h' w'->K (a.put o.dst v') w')->o.wpIn (FNC rd') n P a w K Q
theorem zeF {F:zab} {a:Act} {x:Operand} (hG:zmS Z) (h:FR Z F a.tmps) (hx:zbr x=true):VR Z (zah F x) (a.eval x):=by
 cases x with
 |tmp t=>exact h.2.2 t
 |const v=>
  simp only [zbr,Bool.or_eq_true] at hx
  rcases hx with hx|hx
  .exact .of_flat hx
  .split at hx
   .rename_i vs
    have h0:vs= #[]:=Array.eq_empty_of_size_eq_zero (Nat.eq_of_beq_eq_true hx)
    subst h0;exact .undef Z
   .cases hx
 |global g=>
  obtain ⟨n,hn⟩:=hG.2 g (Nat.le_of_ble_eq_true hx)
  exact .ptr (o:=0) hn
 |func f=>exact .func rfl (λi v v' hv _=>by simp at hv) rfl (λi v v' hv _=>by simp at hv)
theorem zaI {o:Op} (h:zcx o=true):∀x,x∈o.operands.toList->zbr x=true:=by
 intro x hx
 cases o<;>simp only [zcx] at h<;>first| (cases h;done)|exact List.all_eq_true.1 h x hx
theorem zdb {call:Call->TypeId->zab->zaa->Option (Value×zaa)} (hc:zcy P call) {F:zab} {o:Oper} {a:Act} {rd:Option Nat} {n:Nat} {K:Act->World->Prop} {Q:Exit->Act->World->Prop}
  (h:opA call P F o.op o.type H=some (v,H')) (hok:zcx o.op=true) (hr:Rel Z H w) (hρ:∀x,x∈o.op.operands.toList->VR Z (zah F x) (a.eval x)) (hK:∀Z' v' w',VR Z' v v'->zaK Z H w Z' H' w'->K (a.put o.dst v') w'):o.wpIn (FNC rd) n P a w K Q:=by
 by_cases hcall:∃c,o.op= .call c
 .obtain ⟨c,hoc⟩:=hcall
  rw [hoc] at h
  exact hc c F H v H' o hoc (by simpa [opA] using h) hok n Z rd a w K Q hr hρ hK
 .exact znJ (λc e=>by rw [e] at hok;simp [zcx] at hok) (zts o hr hρ (λc e=>hcall ⟨c,e⟩) h) hK
theorem zjp {F:zab} {a:Act} {ops:Array Oper} {o:Oper} (hF:∀j b d,o.guard=some (j,b)->(ops[j]?).bind (·.dst)=some d->VR Z (F.get d) (a.tmps.getD d undef)):Region.wanted o (yielded ops a.tmps)=za6 F ops o:=by
 unfold Region.wanted za6
 cases hg:o.guard with
 |none=>rfl
 |some jw=>
  obtain ⟨j,want⟩:=jw
  simp only [yielded]
  cases hd:(ops[j]?).bind (·.dst) with
  |none=>simp
  |some d=>
   simp only [Option.bind_some]
   have:=hF j want d hg hd
   have hget:a.tmps.getD d undef=(a.tmps[d]?).getD undef:=by rw [Array.getD_eq_getD_getElem?]
   rw [hget] at this
   cases ht:a.tmps[d]? with
   |none=>
    rw [ht] at this
    simp only [Option.getD_none] at this
    have hne:∀b,F.get d≠ .bool b:=λb e=>by rw [e] at this;have:=this.bool_inv;simp [undef] at this
    cases hu:F.get d with
    |bool b=>exact absurd hu (hne b)
    |_=>simp
   |some u=>
    rw [ht] at this
    simp only [Option.getD_some] at this
    cases hu:F.get d with
    |bool b=>
     rw [hu] at this
     have:=this.bool_inv
     subst this
     simp
    |_=>
     rw [hu] at this
     have hne:∀b,u≠ .bool b:=by rintro b rfl;cases this
     cases u<;>first| (exact absurd rfl (hne _))|simp
theorem zhW {F:zab} {a:Act} {ops:Array Oper} {o:Oper} (hF:FR Z F a.tmps):Region.wanted o (yielded ops a.tmps)=za6 F ops o:=zjp λ_ _ d _ _=>hF.2.2 d
theorem znn {call:Call->TypeId->zab->zaa->Option (Value×zaa)} (hc:zcy P call) {ops:Array Oper} (hok:∀o,o∈ops.toList->zcx o.op=true) {rd:Option Nat} {n:Nat} {Q:Exit->Act->World->Prop}:
  ∀(rest:List Oper) (k:Nat) (F F':zab) (H H':zaa) (Z:Nat->Option Loc) (a:Act) (w:World),ops.toList.drop k=rest->zbx call P ops rest F H=some (F',H')->Rel Z H w->FR Z F a.tmps->MR Z F.marks a.defers->
   (∀Z' a' w',FR Z' F' a'.tmps->MR Z' F'.marks a'.defers->zaK Z H w Z' H' w'->Q .normal a' w')->wpOpsIn (FNC rd) n P ops Q ((List.range ops.size).drop k) a w:=by
 intro rest
 induction rest with
 |nil=>
  intro k F F' H H' Z a w hk h hr hF hM hQ
  have hlen:ops.size<=k:=by
   have:=congrArg List.length hk;simp at this;omega
  rw [List.drop_eq_nil_of_le (by simpa using hlen)]
  simp only [zbx,Option.some.injEq,Prod.mk.injEq] at h
  obtain ⟨rfl,rfl⟩:=h
  exact hQ Z a w hF hM (.refl hr)
 |cons o rest ih=>
  intro k F F' H H' Z a w hk h hr hF hM hQ
  have hlt:k<ops.size:=by
   rcases Nat.lt_or_ge k ops.size with h|h
   .exact h
   .rw [List.drop_eq_nil_of_le (by simpa using h)] at hk;cases hk
  have hd:=List.drop_eq_getElem_cons (l:=ops.toList) (i:=k) (by simpa using hlt)
  rw [hd] at hk
  injection hk with ho hrest
  have hr2:(List.range ops.size).drop k=k::(List.range ops.size).drop (k+1):=by
   rw [List.drop_eq_getElem_cons (by simpa using hlt)];simp
  rw [hr2]
  have hoi:ops[k]? =some o:=by rw [Array.getElem?_eq_getElem hlt,<-ho];rfl
  simp only [wpOpsIn,hoi]
  rw [zhW hF]
  simp only [zbx] at h
  have hmem:o∈ops.toList:=by rw [<-ho];exact List.getElem_mem _
  cases hf:za6 F ops o with
  |true=>
   simp only [if_true]
   rw [hf] at h
   simp only [cond_true] at h
   split at h
   .rename_i v h1 hop
    rw [za8] at h
    split at h
    .rename_i F1 hput
     refine zdb hc hop (hok o hmem) hr (λx hx=>zeF hr.top.2.1 hF (zaI (hok o hmem) x hx)) λZ' v' w' hv hp=> ?_
     obtain ⟨hF1,hm1⟩:=FR.put (hF.mono hp.ext) hv hput
     exact ih (k+1) F1 F' h1 H' Z' (a.put o.dst v') w' hrest h hp.rel hF1 (by rw [hm1,show (a.put o.dst v').defers=a.defers by cases o.dst<;>rfl];exact hM.mono hp.ext)
      λZ2 a2 w2 h1 h2 h3=>hQ Z2 a2 w2 h1 h2 (hp.trans h3)
    .cases h
   .cases h
  |false=>
   simp only [Bool.false_eq_true,if_false]
   rw [hf] at h
   simp only [cond_false] at h
   split at h
   .rename_i F1 hput
    obtain ⟨hF1,hm1⟩:=FR.put hF (.undef Z) hput
    exact ⟨λf _=>trivial,ih (k+1) F1 F' H H' Z (a.put o.dst undef) w hrest h hr hF1 (by rw [hm1,show (a.put o.dst undef).defers=a.defers by cases o.dst<;>rfl];exact hM) hQ⟩
   .cases h
end
end
end Go.Ev

end

section

namespace Go.Ev
noncomputable section
open Go.RowKit
section
variable {P:Program} {F:Fence} {n:Nat} {Q Q':Exit->Act->World->Prop}
theorem zbY {b:Frame} {a:Act} {k:List Item} {cs:List Frame} {w:World} {c:Code}:step P (lone (b.atR a (.code (.scope c)::k)) cs w)= .next (lone (b.atR a (.code c:: .inScope c::k)) cs w):=
 step_lone_go (by simp [stepG,stepG.exec,Frame.atR])
theorem zit {b:Frame} {a:Act} {k:List Item} {cs:List Frame} {w:World} {c:Code}:step P (lone (b.atR a (.inScope c::k)) cs w)= .next (lone (b.atR a k) cs w):=
 step_lone_go (by simp [stepG,stepG.exec,Frame.atR])
theorem znI {c:Code} {a:Act} {w:World} (h:c.wpIn F n P (Exit.noGoto Q) a w):(Code.scope c).wpIn F n P Q a w:=by
 intro b k cs hro hb hr
 have h0:(lone (b.atR a (.code (.scope c)::k)) cs w).fenced P F:=fenced_calm hb hr rfl
 obtain ⟨e,a₁,w₁,hq,harr⟩:=h b (.inScope c::k) cs hro hb hr
 cases e with
 |normal=>exact ⟨.normal,a₁,w₁,hq,.head h0 zbY (StepsIn.trans harr (.one (fenced_calm hb hr rfl) zit))⟩
 |exit id=>
  have hx:exitTo id (.inScope c::k)=exitTo id k:=by simp [exitTo]
  exact ⟨.exit id,a₁,w₁,hq,λk' hk=> .head h0 zbY (harr.1 k' (by rw [hx];exact hk)),
   λhr' hk=>let ⟨k₁,h1,h2⟩:=harr.2 hr' (by rw [hx];exact hk);⟨k₁,h1,.head h0 zbY h2⟩⟩
 |goto l=>exact hq.elim
 |ret=>exact ⟨_,a₁,w₁,hq,.of_steps (.one h0 zbY) harr⟩
 |panic ch=>exact ⟨_,a₁,w₁,hq,.of_steps (.one h0 zbY) harr⟩
 |outgrown=>exact ⟨_,a₁,w₁,hq,.of_steps (.one h0 zbY) harr⟩
theorem zeT {c:Code} (hq:∀e a w,Q e a w->Q' e a w):∀(m:Nat) (a:Act) (w:World),Code.roundsIn F n P c Q m a w->Code.roundsIn F n P c Q' m a w
 |0,_,_,h=>h.elim
 |m+1,_,_,h=>wpIn_mono h λe a w he=>by
   cases e<;>first|exact zeT hq m a w he|exact hq _ a w he
end
section
variable {P:Program} {Z:Nat->Option Loc} {H H':zaa} {w:World} {v:Value}
theorem QOK.chain {Z Z1:Nat->Option Loc} {h h1 h2:zaa} {w w1:World} {e:AEx} {F:zab} (hp:zaK Z h w Z1 h1 w1) (e':Exit) (a':Act) (w':World) (hq:QOK Z1 h1 w1 e F h2 e' a' w'):QOK Z h w e F h2 e' a' w':=by
 obtain ⟨he,Z2,hF,hM,hp2⟩:=hq
 exact ⟨he,Z2,hF,hM,hp.trans hp2⟩
theorem ztC {run:Run} (hrun:zco P run) {c:Code} (hc:zaB c=true) {rd:Option Nat} {F F1:zab} {h h1:zaa} {e1:AEx} (hev:run rd c F h=some (e1,F1,h1))
  {n:Nat} {rd':Option Nat} {a:Act} {e:AEx} {F':zab} {h':zaa} (hr:Rel Z h w) (hF:FR Z F a.tmps) (hM:MR Z F.marks a.defers) (hd:RD Z rd rd') {K:Act->World->Prop}
  (hn:e1= .normal->∀(Z1:Nat->Option Loc) (a1:Act) (w1:World),zaK Z h w Z1 h1 w1->FR Z1 F1 a1.tmps->MR Z1 F1.marks a1.defers->RD Z1 rd rd'->K a1 w1)
  (he:e1≠ .normal->(e,F',h')=(e1,F1,h1)):c.wpIn (FNC rd') n P (Exit.then K (QOK Z h w e F' h')) a w:=by
 refine wpIn_mono (hrun rd c F h e1 F1 h1 hev hc n Z rd' a w hr hF hM hd) λex a1 w1 hq=> ?_
 cases e1 with
 |normal=>
  obtain ⟨rfl,Z1,hF1,hM1,hp⟩:=hq
  exact hn rfl Z1 a1 w1 hp hF1 hM1 (hd.mono hp.ext)
 |exit id=>
  have:=he (by simp)
  simp only [Prod.mk.injEq] at this
  obtain ⟨rfl,rfl,rfl⟩:=this
  obtain ⟨rfl,hrest⟩:=hq
  exact ⟨rfl,hrest⟩
 |ret=>
  have:=he (by simp)
  simp only [Prod.mk.injEq] at this
  obtain ⟨rfl,rfl,rfl⟩:=this
  obtain ⟨rfl,hrest⟩:=hq
  exact ⟨rfl,hrest⟩
theorem zgr {run:Run} {rd:Option Nat} {a b:Code} {F F':zab} {h h':zaa} {e:AEx} (hev:zdY run rd a b F h=some (e,F',h')):
  ∃e1 F1 h1,run rd a F h=some (e1,F1,h1)/\(e1= .normal->run rd b F1 h1=some (e,F',h'))/\(e1≠ .normal->(e,F',h')=(e1,F1,h1)):=by
 unfold zdY at hev
 split at hev
 .rename_i e1 F1 h1 h0
  refine ⟨e1,F1,h1,h0, ?_, ?_⟩
  .rintro rfl;exact hev
  .intro hne
   split at hev
   .exact absurd rfl hne
   .simp only [Option.some.injEq] at hev;exact hev.symm
 .cases hev
theorem zwZ {run:Run} (hrun:zco P run) {x y:Code} (hx:zaB x=true) (hy:zaB y=true) {rd:Option Nat} {F F':zab} {h h':zaa} {e:AEx} (hev:zdY run rd x y F h=some (e,F',h'))
  {n:Nat} {rd':Option Nat} {a:Act} (hr:Rel Z h w) (hF:FR Z F a.tmps) (hM:MR Z F.marks a.defers) (hd:RD Z rd rd'):(Code.seq x y).wpIn (FNC rd') n P (QOK Z h w e F' h') a w:=by
 obtain ⟨e1,F1,h1,h0,hn,he⟩:=zgr hev
 refine wpIn_seq (ztC hrun hx h0 hr hF hM hd (λhn1 Z1 a1 w1 hp hF1 hM1 hd1=> ?_) he)
 exact wpIn_mono (hrun rd y F1 h1 e F' h' (hn hn1) hy n Z1 rd' a1 w1 hp.rel hF1 hM1 hd1) (QOK.chain hp)
def zi3 (P:Program) (run:Run) (m:Nat):Prop:= ∀(rd:Option Nat) (c:Code) (F:zab) (h:zaa) (e:AEx) (F':zab) (h':zaa),run rd (.loop c) F h=some (e,F',h')->zaB c=true->
 ∀(n:Nat) (Z:Nat->Option Loc) (rd':Option Nat) (a:Act) (w:World),Rel Z h w->FR Z F a.tmps->MR Z F.marks a.defers->RD Z rd rd'->Code.roundsIn (FNC rd') n P c (QOK Z h w e F' h') m a w
theorem zuS {run:Run} {m:Nat} (hrun:zco P run) (hl:zi3 P run m) {x:Code} (hx:zaB x=true) {rd:Option Nat} {F F':zab} {h h':zaa} {e:AEx} (hev:zdY run rd x (.loop x) F h=some (e,F',h'))
  {n:Nat} {rd':Option Nat} {a:Act} (hr:Rel Z h w) (hF:FR Z F a.tmps) (hM:MR Z F.marks a.defers) (hd:RD Z rd rd'):Code.roundsIn (FNC rd') n P x (QOK Z h w e F' h') (m+1) a w:=by
 obtain ⟨e1,F1,h1,h0,hn,he⟩:=zgr hev
 refine ztC hrun hx h0 hr hF hM hd (λhn1 Z1 a1 w1 hp hF1 hM1 hd1=> ?_) he
 exact zeT (QOK.chain hp) _ _ _ (hl rd x F1 h1 e F' h' (hn hn1) hx n Z1 rd' a1 w1 hp.rel hF1 hM1 hd1)
theorem zui {run:Run} (hrun:zco P run) {c:Operand} {x y:Code} (hc:zbr c=true) (hx:zaB x=true) (hy:zaB y=true) {rd:Option Nat} {F F':zab} {h h':zaa} {e:AEx} (hev:zlU run rd (zah F c) x y F h=some (e,F',h'))
  {n:Nat} {rd':Option Nat} {a:Act} (hr:Rel Z h w) (hF:FR Z F a.tmps) (hM:MR Z F.marks a.defers) (hd:RD Z rd rd'):(Code.cond c x y).wpIn (FNC rd') n P (QOK Z h w e F' h') a w:=by
 have hv:=zeF hr.top.2.1 hF hc
 unfold zlU at hev
 split at hev
 .rename_i t ht
  rw [ht] at hv
  have:=hv.bool_inv
  refine wpIn_cond this ?_
  cases t with
  |true=>exact hrun rd x F h e F' h' (by simpa using hev) hx n Z rd' a w hr hF hM hd
  |false=>exact hrun rd y F h e F' h' (by simpa using hev) hy n Z rd' a w hr hF hM hd
 .cases hev
theorem zru {run:Run} (hrun:zco P run) {id:Nat} {x:Code} (hx:zaB x=true) {rd:Option Nat} {F F':zab} {h h':zaa} {e:AEx} (hev:zgq run rd id x F h=some (e,F',h'))
  {n:Nat} {rd':Option Nat} {a:Act} (hr:Rel Z h w) (hF:FR Z F a.tmps) (hM:MR Z F.marks a.defers) (hd:RD Z rd rd'):(Code.block id x).wpIn (FNC rd') n P (QOK Z h w e F' h') a w:=by
 unfold zgq at hev
 split at hev
 .rename_i e1 F1 h1 h0
  refine wpIn_block (wpIn_mono (hrun rd x F h e1 F1 h1 h0 hx n Z rd' a w hr hF hM hd) λex a1 w1 hq=> ?_)
  obtain ⟨rfl,Z1,hF1,hM1,hp⟩:=hq
  cases e1 with
  |normal=>
   simp only [Option.some.injEq,Prod.mk.injEq] at hev
   obtain ⟨rfl,rfl,rfl⟩:=hev
   exact ⟨rfl,Z1,hF1,hM1,hp⟩
  |ret=>
   simp only [Option.some.injEq,Prod.mk.injEq] at hev
   obtain ⟨rfl,rfl,rfl⟩:=hev
   exact ⟨rfl,Z1,hF1,hM1,hp⟩
  |exit id'=>
   simp only at hev
   show Exit.inBlock id _ (.exit id') a1 w1
   simp only [Exit.inBlock]
   cases hb:Nat.beq id' id with
   |true=>
    rw [hb] at hev
    have:=Nat.eq_of_beq_eq_true hb
    rw [if_pos this]
    simp only [cond_true,Option.some.injEq,Prod.mk.injEq] at hev
    obtain ⟨rfl,rfl,rfl⟩:=hev
    exact ⟨rfl,Z1,hF1,hM1,hp⟩
   |false=>
    rw [hb] at hev
    have hne:id'≠id:=λe=>by subst e;rw [Nat.beq_refl] at hb;cases hb
    rw [if_neg hne]
    simp only [cond_false,Option.some.injEq,Prod.mk.injEq] at hev
    obtain ⟨rfl,rfl,rfl⟩:=hev
    exact ⟨rfl,Z1,hF1,hM1,hp⟩
 .cases hev
theorem zsC {run:Run} (hrun:zco P run) {x:Code} (hx:zaB x=true) {rd:Option Nat} {F F':zab} {h h':zaa} {e:AEx} (hev:run rd x F h=some (e,F',h'))
  {n:Nat} {rd':Option Nat} {a:Act} (hr:Rel Z h w) (hF:FR Z F a.tmps) (hM:MR Z F.marks a.defers) (hd:RD Z rd rd'):(Code.scope x).wpIn (FNC rd') n P (QOK Z h w e F' h') a w:=by
 refine znI (wpIn_mono (hrun rd x F h e F' h' hev hx n Z rd' a w hr hF hM hd) λex a1 w1 hq=> ?_)
 obtain ⟨rfl,hrest⟩:=hq
 cases e<;>exact ⟨rfl,hrest⟩
end
end
end Go.Ev

end

section

namespace Go.Ev
noncomputable section
open Go.RowKit
section
variable {P:Program} {Z:Nat->Option Loc} {H H':zaa} {w:World} {v:Value}
def zhL (P:Program) (g:FuncId) (f:ztS):Prop:=(∀(args:Array Value) (w:World),(callFunc g args).run P w= .ok (.enter g args) w)/\
 (∀zs,(f.new zs).length=zs.length/\∀k,f.ret zs=some k->k<=zs.length)/\
 (∀(n:Nat) (w:World),LaidG w->CallsIn (FNC none) n P g #[.slice none 0 0] w (λe w'=>e= .returned (match f.ret [] with|some _=> .slice none 0 0|none=> .tuple #[])/\
  (∀b,b<w.heap.size->w'.heap[b]? =w.heap[b]?)/\w.heap.size<=w'.heap.size/\w'.os=w.os/\w'.tape=w.tape/\Out w w'))/\
 ∀(n:Nat) (w:World) (blk off cap:Nat) (zs:List Int),Sort.Holds (Value.int .i64) w blk off zs.toArray->blk<w.heap.size->zs.length<4611686018427387904->zs.length<=cap->
  CallsIn (FNC none) n P g #[.slice (some ⟨blk,off,none⟩) zs.length cap] w (λe w'=>e= .returned (match f.ret zs with|some k=> .slice (some ⟨blk,off,none⟩) k cap|none=> .tuple #[])/\
   ∃k os,w'=Sort.grow (Sort.putRow (Value.int .i64) (Sort.ahead w k) blk off (f.new zs).toArray) os)
def zgb (P:Program) (g:FuncId):Prop:=(∀(args:Array Value) (w:World),(callFunc g args).run P w= .ok (.enter g args) w)/\
 ∀(n:Nat) (w:World) (blk off cap:Nat) (zs ss:List Int) (cmp:Int->Int->Option Int) (c:FuncId) (cb:Array Value),zs≠ []->ztU cmp zs ss->(∀(args:Array Value) (w:World),(callFunc c args).run P w= .ok (.enter c args) w)->
  (∀(m:Nat) (os:Array Obj) (dk:Array Int),dk.size=zs.length->∀x y z,cmp x y=some z->
   Calls P c (#[.int .i64 x,.int .i64 y]++cb) (Sort.grow (Sort.putRow (Value.int .i64) (Sort.ahead w m) blk off dk) os) λe w'=>e= .returned (.int .i64 z)/\
    ∃q os',w'=Sort.grow (Sort.ahead (Sort.grow (Sort.putRow (Value.int .i64) (Sort.ahead w m) blk off dk) os) q) os')->
  Sort.Holds (Value.int .i64) w blk off zs.toArray->blk<w.heap.size->zs.length<4611686018427387904->
  CallsIn (FNC none) n P g #[.slice (some ⟨blk,off,none⟩) zs.length cap,.func (.func c) #[] cb] w (λe w'=>e= .returned (.tuple #[])/\
   ∃k os,w'=Sort.grow (Sort.putRow (Value.int .i64) (Sort.ahead w k) blk off ss.toArray) os)
def GOK (P:Program) (G:Msk):Prop:=(∀g fn body,Nat.testBit G.bits g=true->P.funcs[g]? =some fn->fn.body=some body->(fn.name== "runtime.NumGoroutine")=false/\zaB body=true)/\
 (∀g v,G.ora g=some v->flatR v=true/\∀n w,LaidG w->(∀w,(callFunc g #[]).run P w= .ok (.enter g #[]) w)/\CallsIn (FNC none) n P g #[] w (λe w'=>e= .returned v/\(∀b,b<w.heap.size->w'.heap[b]? =w.heap[b]?)/\w.heap.size<=w'.heap.size/\w'.os=w.os/\w'.tape=w.tape/\Out w w'))/\
 (∀g as v,G.tab g as=some v->flatR v=true/\∀n w,LaidG w->(∀w,(callFunc g ⟨as⟩).run P w= .ok (.enter g ⟨as⟩) w)/\CallsIn (FNC none) n P g ⟨as⟩ w (λe w'=>e= .returned v/\(∀b,b<w.heap.size->w'.heap[b]? =w.heap[b]?)/\w.heap.size<=w'.heap.size/\w'.os=w.os/\w'.tape=w.tape/\Out w w'))/\
 (∀g f,G.srt g=some f->zhL P g f)/\∀g,G.srtC g=true->zgb P g
theorem zdv {G:Msk} (hG:GOK P G) {g:FuncId} {fn:Func} {body:Code} (hg:Nat.testBit G.bits g=true) (hf:P.funcs[g]? =some fn) (hb:fn.body=some body) (args:Array Value) (w:World):
  (callFunc g args).run P w= .ok (.enter g args) w:=by
 obtain ⟨hn,_⟩:=hG.1 g fn body hg hf hb
 have hn':¬fn.name= "runtime.NumGoroutine" :=by simpa using hn
 simp [callFunc,Sem.run_bind,program,Sem.run,Result.andThen,hf,hb,hn']
theorem zlZ (m:Nat):∀(l:List Value) (k:Nat) (t:T Value),k+l.length<=TOP->
  ((l.zipIdx k).foldl (λt (x:Value×Nat)=>t.set 40 x.2 (some x.1)) t).get m=if k<=m/\m<k+l.length then l[m-k]? else t.get m
 | [],k,t,_=>by simp;intro h1 h2;omega
 |v::l,k,t,h=>by
  rw [List.zipIdx_cons,List.foldl_cons,zlZ m l (k+1) _ (by simp at h;omega)]
  simp only [List.length_cons] at h⊢
  by_cases h1:k+1<=m/\m<k+1+l.length
  .rw [if_pos h1,if_pos (by omega)]
   have:m-k=(m-(k+1))+1:=by omega
   rw [this,List.getElem?_cons_succ]
  .rw [if_neg h1,T.get_set40 _ _ _ _ (by omega)]
   by_cases e:m=k
   .subst e;simp
   .rw [if_neg e,if_neg (by omega)]
theorem zgy (n:Nat) (args:Array Value) (h:args.size<=TOP) (m:Nat):(frameOf n args).get m=(args[m]?).getD undef:=by
 rw [zab.get_eq]
 have:=zlZ m args.toList 0 .leaf (by simpa using h)
 simp only [frameOf]
 have e:(args.toList.zipIdx.foldl (λt (x:Value×Nat)=>t.set 40 x.2 (some x.1)) (.leaf:T Value)).get m=if m<args.size then args[m]? else none:=by
  rw [show args.toList.zipIdx=args.toList.zipIdx 0 from rfl,this]
  simp [T.get_leaf]
 rw [e]
 by_cases hm:m<args.size
 .rw [if_pos hm]
 .rw [if_neg hm];simp [Array.getElem?_eq_none (by omega:args.size<=m)]
theorem FR.frameOf {n:Nat} {args args':Array Value} (ha:AR Z args args') (hn:args.size<=n) (ht:n<=TOP):FR Z (frameOf n args) (args'++Array.replicate (n-args'.size) undef):=by
 refine ⟨?_,ht,λm=> ?_⟩
 .have:=ha.1;simp [Ev.frameOf];omega
 .rw [zgy n args (by omega)]
  by_cases hm:m<args.size
  .have hm':m<args'.size:=by rw [<-ha.1];exact hm
   obtain ⟨u,hu,hv⟩:=ha.get (i:=m) (v:=args[m]) (by simp [hm])
   rw [Array.getElem?_eq_getElem hm,Array.getD_eq_getD_getElem?,Array.getElem?_append_left hm',hu]
   exact hv
  .have hm':¬m<args'.size:=by rw [<-ha.1];exact hm
   rw [Array.getElem?_eq_none (by omega),Array.getD_eq_getD_getElem?,Array.getElem?_append_right (by omega)]
   simp only [Option.getD_none,Array.getElem?_replicate]
   split<;>exact .undef Z
def zvQ (tmps:Array Value):ResultVar->Sem Value
 | .tmp t=>pure (tmps.getD t undef)
 | .cell a t=>do loadVar t (<-asAddr (tmps.getD a undef))
theorem znm (fn:Func) (tmps:Array Value):results fn tmps=(do let vs<-fn.results.mapM (zvQ tmps);pure (if h:vs.size=1 then vs[0] else .tuple vs)):=by
 unfold results
 have e:(λx=>match x with
   |ResultVar.tmp t=>(pure (tmps.getD t undef):Sem Value)
   | .cell a t=>do loadVar t (<-asAddr (tmps.getD a undef)))=zvQ tmps:=by funext x;cases x<;>rfl
 rw [<-e]
 rfl
theorem zij (hr:Rel Z H w) {F:zab} {tmps:Array Value} (hF:FR Z F tmps):∀(rs:List ResultVar) (vs:List Value),zcJ P H F rs=some vs->
  ∃us,(rs.mapM (zvQ tmps)).run P w= .ok us w/\LR Z vs us
 | [],vs,h=>by
  simp only [zcJ,Option.some.injEq] at h
  subst h
  exact ⟨[],by simp,rfl,λj v v' hv _=>by simp at hv⟩
 | .tmp t::rs,vs,h=>by
  simp only [zcJ] at h
  split at h
  .rename_i vs' h1
   simp only [Option.some.injEq] at h
   subst h
   obtain ⟨us,hu,hl⟩:=zij hr hF rs vs' h1
   refine ⟨tmps.getD t undef::us,by rw [List.mapM_cons];simp only [Sem.run_bind,zvQ,Sem.run_pure,Result.andThen_ok,hu],by simp [hl.1],λj v v' hv hv'=> ?_⟩
   cases j with
   |zero=>simp at hv hv';subst hv hv';have:=hF.2.2 t;rwa [Array.getD_eq_getD_getElem?] at this
   |succ j=>exact hl.2 j v v' (by simpa using hv) (by simpa using hv')
  .cases h
 | .cell a t::rs,vs,h=>by
  simp only [zcJ] at h
  split at h
  .rename_i v0 vs' h0 h1
   simp only [Option.some.injEq] at h
   subst h
   obtain ⟨us,hu,hl⟩:=zij hr hF rs vs' h1
   obtain ⟨v',⟨ad,ha,hrun⟩,hv⟩:=zmb hr h0 (hF.2.2 a)
   refine ⟨v'::us, ?_,by simp [hl.1],λj x x' hx hx'=> ?_⟩
   .rw [List.mapM_cons];simp only [Sem.run_bind,zvQ]
    rw [ha]
    simp only [asAddr,Sem.run_pure,Result.andThen_ok,hrun,hu]
   .cases j with
    |zero=>simp at hx hx';subst hx hx';exact hv
    |succ j=>exact hl.2 j x x' (by simpa using hx) (by simpa using hx')
  .cases h
theorem zhw (hr:Rel Z H w) {F:zab} {tmps:Array Value} (hF:FR Z F tmps) {fn:Func} (h:zaU P H F fn=some v):∃v',(results fn tmps).run P w= .ok v' w/\VR Z v v':=by
 unfold zaU at h
 have e:fn.results=fn.results.toList.toArray:=by simp
 have key:∀us,(fn.results.toList.mapM (zvQ tmps)).run P w= .ok us w->
   (results fn tmps).run P w= .ok (if h:us.toArray.size=1 then us.toArray[0] else .tuple us.toArray) w:=by
  intro us hu
  rw [znm,e,List.mapM_toArray]
  simp only [Sem.run_bind,Sem.run_map,hu,Result.andThen,Sem.run_pure]
 split at h
 .rename_i v0 h0
  simp only [Option.some.injEq] at h
  subst h
  obtain ⟨us,hu,hl⟩:=zij hr hF _ _ h0
  have hlen:us.length=1:=by have:=hl.1;simpa using this.symm
  obtain ⟨u,rfl⟩:=List.length_eq_one_iff.1 hlen
  exact ⟨u,by rw [key _ hu];simp,hl.2 0 v0 u rfl rfl⟩
 .rename_i vs h1 h0
  simp only [Option.some.injEq] at h
  subst h
  obtain ⟨us,hu,hl⟩:=zij hr hF _ _ h0
  have hlen:¬us.toArray.size=1:=by
   intro e1
   have:vs.length=1:=by rw [hl.1];simpa using e1
   obtain ⟨x,rfl⟩:=List.length_eq_one_iff.1 this
   exact h1 x rfl
  exact ⟨.tuple us.toArray,by rw [key _ hu,dif_neg hlen],.tuple (by simpa using hl.1) (λi x x' hx hx'=>hl.2 i x x' (by simpa using hx) (by simpa using hx'))⟩
 .cases h
theorem zpN (hr:Rel Z H w) {D:Nat} {p:Loc} (hD:H.get D=some .deferred) (hp:Z D=some p):
  (Instr.takeDeferred p.b).run P w= .ok [] (w.putObj p.b (.deferred none))/\zaK Z H w Z (H.write D none) (w.putObj p.b (.deferred none)):=by
 have hd:=hr.defs D p hD hp
 refine ⟨run_takeDeferred hd, ?_⟩
 have hm:H.mate D=none:=by unfold zaa.mate;rw [hD]
 have:=zaK.turn (w':=w.putObj p.b (.deferred none)) hr hD (by unfold zaa.ro;rw [hD]) none rfl rfl ⟨rfl,Nat.le_refl _⟩ (by simp) (λb hb=>World.putObj_heap_other (hb p hp)) (λ_ _ _ _ _ h=>by cases h) (λ_ _=>trivial)
 rw [hm] at this
 exact this
theorem zfx {c:Code} {F:Fence} {n:Nat} {Q Q':Exit->Act->List Frame->World->Prop} {a:Act} {cs:List Frame} {w:World} (h:c.wpSIn F n P Q a cs w) (hQ:∀e a' cs' w',Q e a' cs' w'->Q' e a' cs' w'):c.wpSIn F n P Q' a cs w:=
 λb k h1 h2 h3 h4=>let ⟨e,a',cs',w',l,q,r⟩:=h b k h1 h2 h3 h4;⟨e,a',cs',w',l,hQ _ _ _ _ q,r⟩
theorem zp6 {ops:Array Oper} (hok:∀o,o∈ops.toList->zcx o.op=true) {cs:List Frame} (hcs:recoverD cs=none) {n:Nat} {Q:Exit->Act->List Frame->World->Prop}:
  ∀(rest:List Oper) (k:Nat) (F F':zab) (H H':zaa) (Z:Nat->Option Loc) (a:Act) (w:World),ops.toList.drop k=rest->zgL P ops rest F H=some (F',H')->Rel Z H w->FR Z F a.tmps->MR Z F.marks a.defers->
   (∀Z' a' w',FR Z' F' a'.tmps->MR Z' F'.marks a'.defers->zaK Z H w Z' H' w'->Q .normal a' cs w')->wpOpsSIn (FNC none) n P ops Q ((List.range ops.size).drop k) a cs w:=by
 intro rest
 induction rest with
 |nil=>
  intro k F F' H H' Z a w hk h hr hF hM hQ
  have hlen:ops.size<=k:=by
   have:=congrArg List.length hk;simp at this;omega
  rw [List.drop_eq_nil_of_le (by simpa using hlen)]
  simp only [zgL,Option.some.injEq,Prod.mk.injEq] at h
  obtain ⟨rfl,rfl⟩:=h
  exact hQ Z a w hF hM (.refl hr)
 |cons o rest ih=>
  intro k F F' H H' Z a w hk h hr hF hM hQ
  have hlt:k<ops.size:=by
   rcases Nat.lt_or_ge k ops.size with h|h
   .exact h
   .rw [List.drop_eq_nil_of_le (by simpa using h)] at hk;cases hk
  have hd:=List.drop_eq_getElem_cons (l:=ops.toList) (i:=k) (by simpa using hlt)
  rw [hd] at hk
  injection hk with ho hrest
  have hr2:(List.range ops.size).drop k=k::(List.range ops.size).drop (k+1):=by
   rw [List.drop_eq_getElem_cons (by simpa using hlt)];simp
  rw [hr2]
  have hoi:ops[k]? =some o:=by rw [Array.getElem?_eq_getElem hlt,<-ho];rfl
  simp only [wpOpsSIn,hoi]
  rw [zhW hF]
  simp only [zgL] at h
  have hmem:o∈ops.toList:=by rw [<-ho];exact List.getElem_mem _
  refine ⟨λf _=>trivial, ?_⟩
  have hdf:∀v,(a.put o.dst v).defers=a.defers:=λv=>by cases o.dst<;>rfl
  cases hf:za6 F ops o with
  |true=>
   simp only [if_true]
   rw [hf] at h
   simp only [cond_true] at h
   cases hrec:zr8 o.op with
   |true=>
    rw [hrec] at h
    simp only [cond_true] at h
    split at h
    .rename_i F1 hput
     have hrun:(execOp a.eval o).run P w= .ok .recover w:=by
      unfold zr8 at hrec
      split at hrec
      .rename_i c hc
       split at hrec
       .rename_i hcal
        obtain ⟨callee,cargs,cats⟩:=c
        simp only at hcal
        subst hcal
        simp only [execOp,hc]
        rfl
       .cases hrec
      .cases hrec
     rw [hrun]
     simp only [hcs]
     obtain ⟨hF1,hm1⟩:=FR.put hF (VR.of_flat (Z:=Z) (v:= .nilIface) rfl) hput
     exact ih (k+1) F1 F' H H' Z (a.put o.dst .nilIface) w hrest h hr hF1 (by rw [hm1,hdf];exact hM) hQ
    .cases h
   |false=>
    rw [hrec] at h
    simp only [cond_false] at h
    split at h
    .rename_i v h1 hop
     rw [za8] at h
     split at h
     .rename_i F1 hput
      have hnc:∀c,o.op≠ .call c:=λc e=>by rw [e] at hop;simp [opA] at hop
      obtain ⟨Z',v',w',hrun,hv,hp⟩:=zts o hr (λx hx=>zeF hr.top.2.1 hF (zaI (hok o hmem) x hx)) hnc hop
      obtain ⟨hF1,hm1⟩:=FR.put (hF.mono hp.ext) hv hput
      have hM1:MR Z' F1.marks (a.put o.dst v').defers:=by rw [hm1,hdf];exact hM.mono hp.ext
      have hnext:=ih (k+1) F1 F' h1 H' Z' (a.put o.dst v') w' hrest h hp.rel hF1 hM1 λZ2 a2 w2 h1 h2 h3=>hQ Z2 a2 w2 h1 h2 (hp.trans h3)
      rcases hrun with hrun| ⟨hrun,rfl⟩
      .rw [hrun];exact hnext
      .rw [hrun];exact hnext
     .cases h
    .cases h
  |false=>
   simp only [Bool.false_eq_true,if_false]
   rw [hf] at h
   simp only [cond_false] at h
   split at h
   .rename_i F1 hput
    obtain ⟨hF1,hm1⟩:=FR.put hF (.undef Z) hput
    exact ih (k+1) F1 F' H H' Z (a.put o.dst undef) w hrest h hr hF1 (by rw [hm1,hdf];exact hM) hQ
   .cases h
theorem zvg {run:Run} (hrun:zco P run) {c₀:Frame} {cs:List Frame} (hm:c₀.mode= .returning):∀(c:Code) (F:zab) (h:zaa) (e:AEx) (F':zab) (h':zaa),zvR P run c F h=some (e,F',h')->zaB c=true->
  ∀(n:Nat) (Z:Nat->Option Loc) (a:Act) (w:World),Rel Z h w->FR Z F a.tmps->MR Z F.marks a.defers->c.wpSIn (FNC none) n P (λe' a' cs' w'=>cs'=c₀::cs/\QOK Z h w e F' h' e' a' w') a (c₀::cs) w:=by
 intro c
 have plain:∀(c:Code) (F:zab) (h:zaa) (e:AEx) (F':zab) (h':zaa),run none c F h=some (e,F',h')->zaB c=true->
   ∀(n:Nat) (Z:Nat->Option Loc) (a:Act) (w:World),Rel Z h w->FR Z F a.tmps->MR Z F.marks a.defers->c.wpSIn (FNC none) n P (λe' a' cs' w'=>cs'=c₀::cs/\QOK Z h w e F' h' e' a' w') a (c₀::cs) w:=
  λc F h e F' h' hev hok n Z a w hr hF hM=>wpSIn_of_wpIn rfl (wpIn_mono (hrun none c F h e F' h' hev hok n Z none a w hr hF hM trivial) λe' a' w' hq=>⟨rfl,hq⟩)
 induction c with
 |seq x y ihx ihy=>
  intro F h e F' h' hev hok n Z a w hr hF hM
  simp only [zaB,Bool.and_eq_true] at hok
  simp only [zvR] at hev
  split at hev
  .rename_i e1 F1 h1 h0
   refine wpSIn_seq (zfx (ihx F h e1 F1 h1 h0 hok.1 n Z a w hr hF hM) λe' a' cs' w' hq=> ?_)
   obtain ⟨rfl,rfl,Z1,hF1,hM1,hp⟩:=hq
   cases e1 with
   |normal=>
    simp only at hev
    show y.wpSIn (FNC none) n P _ a' (c₀::cs) w'
    refine zfx (ihy F1 h1 e F' h' hev hok.2 n Z1 a' w' hp.rel hF1 hM1) λe2 a2 cs2 w2 hq2=> ?_
    obtain ⟨rfl,rfl,Z2,hF2,hM2,hp2⟩:=hq2
    exact ⟨rfl,rfl,Z2,hF2,hM2,hp.trans hp2⟩
   |exit id=>
    simp only [Option.some.injEq,Prod.mk.injEq] at hev
    obtain ⟨rfl,rfl,rfl⟩:=hev
    exact ⟨rfl,rfl,Z1,hF1,hM1,hp⟩
   |ret=>
    simp only [Option.some.injEq,Prod.mk.injEq] at hev
    obtain ⟨rfl,rfl,rfl⟩:=hev
    exact ⟨rfl,rfl,Z1,hF1,hM1,hp⟩
  .cases hev
 |region id ops draw=>
  intro F h e F' h' hev hok n Z a w hr hF hM
  simp only [zvR] at hev
  cases hh:zti ops with
  |false=>rw [hh] at hev;exact plain _ F h e F' h' hev hok n Z a w hr hF hM
  |true=>
   rw [hh] at hev
   simp only [cond_true] at hev
   cases hdd:draw||zcZ ops with
   |true=>rw [hdd] at hev;cases hev
   |false=>
    rw [hdd] at hev
    simp only [cond_false] at hev
    simp only [Bool.or_eq_false_iff] at hdd
    obtain ⟨rfl,hdf⟩:=hdd
    split at hev
    .rename_i F1 h1 hrec
     simp only [Option.some.injEq,Prod.mk.injEq] at hev
     obtain ⟨rfl,rfl,rfl⟩:=hev
     refine wpSIn_region ?_
     have hcs:recoverD (c₀::cs)=none:=by simp [recoverD,hm]
     have hnd:∀o,o∈ops.toList->zcx o.op=true:=by
      simp only [zaB,hdf,cond_false] at hok
      exact λo ho=>List.all_eq_true.1 hok o ho
     .have:=zp6 (P:=P) hnd hcs (n:=n) (Q:=λe' a' cs' w'=>cs'=c₀::cs/\QOK Z h w .normal F1 h1 e' a' w') ops.toList 0 F F1 h h1 Z a w rfl hrec hr hF hM
       λZ' a' w' q1 q2 q3=>⟨rfl,rfl,Z',q1,q2,q3⟩
      simpa using this
    .cases hev
 |_=>intro F h e F' h' hev hok;exact plain _ F h e F' h' hev hok
theorem zrN {G:Msk} (hG:GOK P G) {run:Run} (hrun:zco P run) {g:FuncId} {xs:List Value} {args:Array Value} (h:zhc P G run g xs H=some H') (n:Nat) (hr:Rel Z H w) (ha:AR Z ⟨xs⟩ args):
  (∀w,(callFunc g args).run P w= .ok (.enter g args) w)/\CallsDIn (FNC none) n P g args .returning w (λe u' w'=>∃v Z',e= .returned v/\u'= .returning/\zaK Z H w Z' H' w'):=by
 unfold zhc at h
 cases hg:Nat.testBit G.bits g with
 |false=>rw [hg] at h;simp at h
 |true=>
  rw [hg] at h
  simp only [cond_true] at h
  split at h
  .rename_i fn hf
   split at h
   .rename_i body hb
    cases hc:(Nat.blt fn.ntmps xs.length||Nat.blt 1000000 fn.ntmps) with
    |true=>rw [hc] at h;simp at h
    |false=>
     rw [hc] at h
     simp only [cond_false] at h
     simp only [Bool.or_eq_false_iff] at hc
     have hn1:xs.length<=fn.ntmps:=Nat.le_of_not_lt λhlt=>by have:=Nat.ble_eq_true_of_le hlt;rw [show Nat.blt fn.ntmps xs.length=Nat.ble (fn.ntmps+1) xs.length from rfl,this] at hc;cases hc.1
     have hn2:fn.ntmps<=1000000:=Nat.le_of_not_lt λhlt=>by have:=Nat.ble_eq_true_of_le hlt;rw [show Nat.blt 1000000 fn.ntmps=Nat.ble (1000000+1) fn.ntmps from rfl,this] at hc;cases hc.2
     obtain ⟨_,hok⟩:=hG.1 g fn body hg hf hb
     refine ⟨λw=>zdv hG hg hf hb args w, ?_⟩
     split at h
     .rename_i e F1 h1 hev
      refine callsDIn_of_wpSIn hf hb trivial λc₀ cs hm=>zfx (zvg hrun hm body _ _ e F1 h1 hev hok n Z {tmps:=args++Array.replicate (fn.ntmps-args.size) undef,defers:= []} w hr
       (FR.frameOf ha hn1 (Nat.le_trans hn2 (by decide))) .nil) λe' a' cs' w' hq=> ?_
      obtain ⟨rfl,rfl,Z1,hF1,hM1,hp⟩:=hq
      have hc₀:c₀={c₀ with mode:= .returning}:=by rw [<-hm]
      have key:(match F1.marks with| []=>(match zaU P h1 F1 fn with|some _=>some h1|none=>none)|_=>none)=some H'->a'.defers= []/\∃u',c₀::cs={c₀ with mode:=u'}::cs/\∃v,(results fn a'.tmps).run P w'= .ok v w'/\
        (∃v' Z',Ending.returned v= .returned v'/\u'= .returning/\zaK Z H w Z' H' w'):=λhh=>by
       split at hh
       .rename_i hmk
        rw [hmk] at hM1
        split at hh
        .rename_i v0 hv0
         cases hh
         obtain ⟨v',h1,_⟩:=zhw hp.rel hF1 hv0
         cases hd:a'.defers with
         |nil=>exact ⟨rfl,.returning,by rw [<-hc₀],v',h1,v',Z1,rfl,rfl,hp⟩
         |cons d ds=>rw [hd] at hM1;cases hM1
        .cases hh
       .cases hh
      cases e with
      |exit id=>simp at h
      |normal=>exact key h
      |ret=>exact key h
     .cases h
   .cases h
  .cases h
theorem zgC {G:Msk} (hG:GOK P G) {run:Run} (hrun:zco P run) {F:zab} {tmps:Array Value} {fn:Func} {R:Ending->World->Prop} {h2:zaa} {n:Nat}:∀(ms:List zfO) (Z:Nat->Option Loc) (H:zaa) (w:World) (ds:List Deferred),zbd (zhc P G run) H ms=some h2->MR Z ms ds->Rel Z H w->FR Z F tmps->
  zaU P h2 F fn=some v->(∀Z' w' v',zaK Z H w Z' h2 w'->VR Z' v v'->R (.returned v') w')->LeavesInM (FNC none) n P fn tmps R ds .returning w
 | [],Z,H,w,ds,he,hM,hr,hF,hv,hR=>by
  cases hM
  simp only [zbd,Option.some.injEq] at he
  subst he
  obtain ⟨v',h1,h2⟩:=zhw hr hF hv
  exact ⟨v',h1,hR Z w v' (.refl hr) h2⟩
 | .col m::ms,Z,H,w,ds,he,hM,hr,hF,hv,hR=>by
  cases hM with
  |cons hp ht=>
   rename_i p ds'
   simp only [zbd] at he
   split at he
   .rename_i hD
    obtain ⟨h1,h2⟩:=zpN (P:=P) hr hD hp
    refine ⟨by simp,.inl ⟨p.b,_,rfl,h1, ?_⟩⟩
    exact zgC hG hrun ms Z _ _ ds' he ht h2.rel hF hv λZ' w' v' hp' hv'=>hR Z' w' v' (h2.trans hp') hv'
   .cases he
 | .fn g xs::ms,Z,H,w,ds,he,hM,hr,hF,hv,hR=>by
  cases hM with
  |fn ha ht=>
   rename_i cap args ds'
   simp only [zbd] at he
   split at he
   .rename_i h3 hd
    obtain ⟨c1,c2⟩:=zrN hG hrun hd (n-1) hr ha
    refine ⟨by simp,.inr ⟨zoX _ _,.func g,cap,g,args++cap,rfl,c1 w,λ_ _=>trivial,CallsDIn.mono c2 λe u' w' hq=> ?_⟩⟩
    obtain ⟨v',Z',rfl,rfl,hp⟩:=hq
    exact zgC hG hrun ms Z' h3 w' ds' he (ht.mono hp.ext) hp.rel (hF.mono hp.ext) hv λZ2 w2 v2 hp2 hv2=>hR Z2 w2 v2 (hp.trans hp2) hv2
   .cases he
theorem Rel.part {Z:Nat->Option Loc} {H H':zaa} {w:World} (hr:Rel Z H w) (hn:H'.next=H.next) (hg:∀i,H'.get i=H.get i\/H'.get i=none):Rel Z H' w:=by
 have live:∀i,H'.get i≠none->H'.get i=H.get i:=λi hi=>(hg i).resolve_right hi
 refine ⟨λi hi=>hr.fresh i (by rw [<-hn];exact hi),λi hi=> ?_,⟨hr.top.1,hr.top.2.1,λx m i q hi hro hq=> ?_⟩,hr.mlt,λi cs e esz m ro p hgi hp=> ?_,λi st pend F ps as_ bd p hgi hp=> ?_,λi p hgi hp=> ?_,λi j p q hij hgi hgj hp hq e=> ?_⟩
 .rw [hn];exact hr.below i (by rw [<-live i hi];exact hi)
 .have e:=live i hi
  exact hr.top.2.2 x m i q (by rw [<-e];exact hi) (by rw [<-zaa.ro_congr e];exact hro) hq
 .exact hr.cells i cs e esz m ro p ((live i (by rw [hgi];simp)).symm.trans hgi) hp
 .exact hr.loops i st pend F ps as_ bd p ((live i (by rw [hgi];simp)).symm.trans hgi) hp
 .exact hr.defs i p ((live i (by rw [hgi];simp)).symm.trans hgi) hp
 .have e1:=live i hgi
  have e2:=live j hgj
  have:=hr.excl i j p q hij (by rw [<-e1];exact hgi) (by rw [<-e2];exact hgj) hp hq e
  rwa [<-zaa.ro_congr e1,<-zaa.ro_congr e2,<-zaa.mate_congr e1,<-zaa.mate_congr e2] at this
theorem zhD (h2:zaa):∀(l:List Nat) (t:T ABk) (i:Nat),(zgV h2 l t).get i=h2.get i\/(zgV h2 l t).get i=t.get i
 | [],t,i=> .inr rfl
 |j::l,t,i=>by
  have ih:=zhD h2 l (T.set (Nat.succ j) t j (h2.get j)) i
  rw [T.get_setN] at ih
  show (zgV h2 l (T.set (Nat.succ j) t j (h2.get j))).get i=_\/(zgV h2 l (T.set (Nat.succ j) t j (h2.get j))).get i=_
  by_cases e:i=j
  .subst e
   rw [if_pos rfl] at ih
   exact .inl (ih.elim id id)
  .rw [if_neg e] at ih
   exact ih
theorem zr9 {fast:Bool} {Z2:Nat->Option Loc} {h h2:zaa} {w w':World} {v v':Value} (hr:Rel Z h w) (hp:zaK Z {h with wlow:=h.next} w Z2 h2 w') (hv:VR Z2 v v'):
  ∃Z',VR Z' v v'/\zaK Z h w Z' (zdq fast h h2 v) w':=by
 have hlow:∀T,T<=(cond (Nat.ble h.wlow h2.wlow) h.wlow h2.wlow)->T<=h.wlow/\T<=h2.wlow:=by
  intro T hT
  cases hb:Nat.ble h.wlow h2.wlow with
  |true=>rw [hb] at hT;have:=Nat.le_of_ble_eq_true hb;simp at hT;omega
  |false=>
   rw [hb] at hT
   have:¬h.wlow<=h2.wlow:=λhle=>by rw [Nat.ble_eq_true_of_le hle] at hb;cases hb
   simp at hT;omega
 unfold zdq
 cases hq:fast&&Nat.ble h.next h2.wlow with
 |true=>
  simp only [Bool.and_eq_true] at hq
  have hle:h.next<=h2.wlow:=Nat.le_of_ble_eq_true hq.2
  simp only [cond_true]
  cases hf:flatR v with
  |true=>
   obtain ⟨k1,k2⟩:=zaK.quiet (hr.wlow h.next) hp hle
   have hrel:=hr.world k1
   simp only [cond_true]
   refine ⟨Z,by rw [hv.eqR hf];exact .of_flatR hf,.refl _,λ_ _=>rfl,hrel,hp.os,hp.tape,hp.output,hp.size,Nat.le_refl _,Nat.le_refl _,λ_ _ _=>rfl,λT N _ hN hμ=>⟨λb hb=>k1 b (by omega),hμ⟩⟩
  |false=>
   simp only [cond_false]
   have hold:∀i,i<h.next->h2.get i=h.get i:=λi hi=>hp.old i (Nat.lt_of_lt_of_le hi hle) hi
   have hnew:∀i,h.next<=i->h.t.get i=none:=λi hi=>by
    cases hg:h.t.get i with
    |none=>rfl
    |some bk=>exact absurd (hr.below i (by show h.t.get i≠none;rw [hg];simp)) (by omega)
   have hget:=zhD h2 (zp5 h2 h.next 100000 (zxt v) []) h.t
   have hpart:=hp.rel.part (H':={t:=zgV h2 (zp5 h2 h.next 100000 (zxt v) []) h.t,next:=h2.next,wlow:=cond (Nat.ble h.wlow h2.wlow) h.wlow h2.wlow}) rfl (λi=>by
    rcases hget i with e|e
    .exact .inl e
    .by_cases hi:i<h.next
     .exact .inl (e.trans (hold i hi).symm)
     .exact .inr (e.trans (hnew i (by omega))))
   exact ⟨Z2,hv,hp.ext,hp.only,hpart,hp.os,hp.tape,hp.output,hp.size,(hlow _ (Nat.le_refl _)).1,hp.nxt,
    λi _ hn=>(by
     rcases hget i with e|e
     .exact e.trans (hold i hn)
     .exact e),λT N hT hN hμ=>hp.keep T N (hlow T hT).2 hN hμ⟩
 |false=>
  simp only [cond_false]
  exact ⟨Z2,hv,hp.ext,hp.only,hp.rel.wlow _,hp.os,hp.tape,hp.output,hp.size,(hlow _ (Nat.le_refl _)).1,hp.nxt,
   λi hi hn=>hp.old i (hlow (i+1) hi).2 hn,λT N hT hN hμ=>hp.keep T N (hlow T hT).2 hN hμ⟩
theorem zdH {G:Msk} (hG:GOK P G) {run:Run} (hrun:zco P run) {g:FuncId} {args args':Array Value} (h:zci P G run g args H=some (v,H')) (n:Nat) (hr:Rel Z H w) (ha:AR Z args args'):
  (∀w,(callFunc g args').run P w= .ok (.enter g args') w)/\CallsIn (FNC none) n P g args' w (Ret Z H w v H'):=by
 unfold zci at h
 cases hg:Nat.testBit G.bits g with
 |false=>rw [hg] at h;simp at h
 |true=>
  rw [hg] at h
  simp only [cond_true] at h
  split at h
  .rename_i fn hf
   split at h
   .rename_i body hb
    cases hc:(Nat.blt fn.ntmps args.size||Nat.blt 1000000 fn.ntmps) with
    |true=>rw [hc] at h;simp at h
    |false=>
     rw [hc] at h
     simp only [cond_false] at h
     simp only [Bool.or_eq_false_iff] at hc
     have hn1:args.size<=fn.ntmps:=Nat.le_of_not_lt λhlt=>by have:=Nat.ble_eq_true_of_le hlt;rw [show Nat.blt fn.ntmps args.size=Nat.ble (fn.ntmps+1) args.size from rfl,this] at hc;cases hc.1
     have hn2:fn.ntmps<=1000000:=Nat.le_of_not_lt λhlt=>by have:=Nat.ble_eq_true_of_le hlt;rw [show Nat.blt 1000000 fn.ntmps=Nat.ble (1000000+1) fn.ntmps from rfl,this] at hc;cases hc.2
     obtain ⟨_,hok⟩:=hG.1 g fn body hg hf hb
     refine ⟨λw=>zdv hG hg hf hb args' w, ?_⟩
     split at h
     .rename_i e F1 h1 hev
      have hbody:=hrun none body _ _ e F1 h1 hev hok n Z none {tmps:=args'++Array.replicate (fn.ntmps-args'.size) undef,defers:= []} w (hr.wlow H.next)
       (FR.frameOf ha hn1 (Nat.le_trans hn2 (by decide))) .nil trivial
      have key:∀ex:AEx,(∀id,ex≠ .exit id)->(match zbd (zhc P G run) h1 F1.marks with|some h2=>(match zaU P h2 F1 fn with|some v=>some (v,zdq G.fast H h2 v)|none=>none)|none=>none)=some (v,H')->
        ∀(a':Act) (w':World) (Z2:Nat->Option Loc),FR Z2 F1 a'.tmps->MR Z2 F1.marks a'.defers->zaK Z {H with wlow:=H.next} w Z2 h1 w'->LeavesInM (FNC none) n P fn a'.tmps (Ret Z H w v H') a'.defers .returning w':=by
       intro ex _ hh a' w' Z2 hF hM hp
       split at hh
       .rename_i h2 he
        split at hh
        .rename_i v0 hv0
         simp only [Option.some.injEq,Prod.mk.injEq] at hh
         obtain ⟨rfl,rfl⟩:=hh
         refine zgC hG hrun F1.marks Z2 h1 w' a'.defers he hM hp.rel hF hv0 λZ3 w'' v' hp2 hv=> ?_
         obtain ⟨Z',hv',hp'⟩:=zr9 hr (hp.trans hp2) hv
         exact ⟨Z',v',rfl,hv',hp'⟩
        .cases hh
       .cases hh
      refine callsIn_of_wp_marks hf hb trivial (wpIn_mono hbody λex a' w' hq=> ?_)
      obtain ⟨rfl,Z2,hF,hM,hp⟩:=hq
      cases e with
      |exit id=>cases h
      |normal=>exact key .normal (by simp) h a' w' Z2 hF hM hp
      |ret=>exact key .ret (by simp) h a' w' Z2 hF hM hp
     .cases h
   .cases h
  .cases h
end
end
end Go.Ev

end

section

namespace Go.Ev
noncomputable section
open Go.RowKit
section
variable {P:Program} {Z:Nat->Option Loc} {H H':zaa} {w:World} {v:Value}
theorem za1 {β:Type} (F:zab):∀(l:List Operand) (k:List Value->β),znV F l k=k (l.map (zah F))
 | [],k=>rfl
 |x::l,k=>by
  show zdo (zah F x) (λv=>znV F l λl=>k (v::l))=_
  rw [za8,za1 F l];rfl
def GM (i:Nat):Option Loc:=match ((default:zdV).l.find? λp=>Nat.beq p.g i) with|some p=>some ⟨p.g,0,p.cs.length,0⟩|none=>if i<(default:zdV).N then some ⟨i,0,0,0⟩ else none
theorem znO:∀(l:List zmR) (i:Nat),(GHt l).get i=(l.find? λp=>Nat.beq p.g i).map λp=> .cells p.cs p.e 0 none true
 | [],i=>by simp [GHt,T.get_leaf]
 |x::r,i=>by
  simp only [GHt,T.get_setN,List.find?_cons]
  by_cases e:i=x.g
  .subst e;simp
  .rw [if_neg e,znO r i]
   cases hb:Nat.beq x.g i with
   |true=>exact absurd (Nat.eq_of_beq_eq_true hb).symm e
   |false=>rfl
theorem zsW (i:Nat):GH.get i=((default:zdV).l.find? λp=>Nat.beq p.g i).map λp=> .cells p.cs p.e 0 none true:=znO _ i
theorem ze7 {i:Nat} {bk:ABk} (h:GH.get i=some bk):∃x,((default:zdV).l.find? λp=>Nat.beq p.g i)=some x/\x∈(default:zdV).l/\x.g=i/\bk= .cells x.cs x.e 0 none true:=by
 rw [zsW] at h
 cases hf:((default:zdV).l.find? λp=>Nat.beq p.g i) with
 |none=>rw [hf] at h;cases h
 |some x=>
  rw [hf] at h
  simp only [Option.map_some,Option.some.injEq] at h
  exact ⟨x,rfl,List.mem_of_find?_eq_some hf,Nat.eq_of_beq_eq_true (List.find?_some (p:=λp:zmR=>Nat.beq p.g i) hf),h.symm⟩
theorem zrh {i:Nat} {x:zmR} (h:((default:zdV).l.find? λp=>Nat.beq p.g i)=some x):GM i=some ⟨x.g,0,x.cs.length,0⟩:=by
 unfold GM;rw [h]
theorem Rel.start {w:World} (hw:LaidG w):Rel GM GH w:=by
 have hro:∀i,GH.get i≠none->GH.ro i=true:=λi hi=>by
  cases hg:GH.get i with
  |none=>exact absurd hg hi
  |some bk=>
   obtain ⟨x,_,_,_,rfl⟩:=ze7 hg
   unfold zaa.ro;rw [hg]
 refine ⟨λi hi=> ?_,λi hi=> ?_,⟨hw,⟨λx hx=> ?_,λg hg=> ?_⟩,λx hx i q hi hr _=> ?_⟩,trivial,λi cs e esz m ro p hg hp=> ?_,λi st pend F ps a b p hg _=> ?_,λi p hg _=> ?_,λi j p q _ hi hj _ _ _=> .inl ⟨hro i hi,hro j hj⟩⟩
 .have hi:(default:zdV).N<=i:=hi
  unfold GM
  cases hf:((default:zdV).l.find? λp=>Nat.beq p.g i) with
  |none=>exact if_neg (Nat.not_lt.2 hi)
  |some x=>
   have h3:=(hw _ (List.mem_of_find?_eq_some hf)).1
   have h4:x.g=i:=Nat.eq_of_beq_eq_true (List.find?_some (p:=λp:zmR=>Nat.beq p.g i) hf)
   omega
 .cases hg:GH.get i with
  |none=>exact absurd hg hi
  |some bk=>
   obtain ⟨x,_,h2,h4,_⟩:=ze7 hg
   have:=(hw _ h2).1
   show i<(default:zdV).N
   omega
 .show GM x.g=_
  unfold GM
  cases hf:((default:zdV).l.find? λp=>Nat.beq p.g x.g) with
  |none=>exact absurd (List.find?_eq_none.1 hf x hx) (by simp)
  |some y=>
   have hm:=List.mem_of_find?_eq_some hf
   have e:y.g=x.g:=Nat.eq_of_beq_eq_true (List.find?_some (p:=λp:zmR=>Nat.beq p.g x.g) hf)
   obtain ⟨_,_,arr,fz,ha,hb⟩:=hw x hx
   obtain ⟨_,_,arr',fz',ha',hb'⟩:=hw y hm
   rw [e,ha] at ha'
   simp only [Option.some.injEq,Obj.cells.injEq] at ha'
   show some (⟨y.g,0,y.cs.length,0⟩:Loc)=_
   rw [e,<-hb',<-ha'.1,hb]
 .show ∃n,GM g=_
  unfold GM
  cases hf:((default:zdV).l.find? λp=>Nat.beq p.g g) with
  |none=>exact ⟨0,if_pos hg⟩
  |some y=>
   have e:y.g=g:=Nat.eq_of_beq_eq_true (List.find?_some (p:=λp:zmR=>Nat.beq p.g g) hf)
   exact ⟨y.cs.length,by show some (⟨y.g,0,y.cs.length,0⟩:Loc)=_;rw [e]⟩
 .rw [hro i hi] at hr;cases hr
 .obtain ⟨x,h1,h2,h4,h3⟩:=ze7 hg
  cases h3
  rw [zrh h1] at hp
  cases hp
  obtain ⟨_,hfl,arr,fz,ha,hb⟩:=hw _ h2
  have hsz:arr.size=x.cs.length:=by rw [<-hb];simp
  refine ⟨arr,fz,ha,by simp [hsz],Nat.le_refl _,⟨rfl,λ_=>rfl⟩,λj v hj=>⟨v, ?_,.flat (List.all_eq_true.1 hfl v (List.mem_of_getElem? hj))⟩,λh=>by cases h⟩
  rw [<-hb] at hj
  simpa using hj
 .obtain ⟨_,_,_,_,h3⟩:=ze7 hg;cases h3
 .obtain ⟨_,_,_,_,h3⟩:=ze7 hg;cases h3
theorem AR.flats {args:List Value} {args':Array Value} (hf:args.all flat=true) (ha:AR Z ⟨args⟩ args'):args'=⟨args⟩:=
 zhO ha.1 λi v v' hv hv'=>(ha.2 i v v' hv hv').eq (List.all_eq_true.1 hf v (List.mem_of_getElem? (by simpa using hv)))
theorem zaK.rest {w':World} (hr:Rel Z H w) (q1:∀b,b<w.heap.size->w'.heap[b]? =w.heap[b]?) (q2:w.heap.size<=w'.heap.size) (q3:w'.os=w.os) (q4:w'.tape=w.tape) (q5:Out w w'):zaK Z H w Z H w':=
 ⟨.refl _,λ_ _=>rfl,hr.world q1,q3,q4,q5,q2,Nat.le_refl _,Nat.le_refl _,λ_ _ _=>rfl,λT N _ hN hμ=>⟨λb hb=>q1 b (by omega),hμ⟩⟩
theorem zsG {g:FuncId} {args:List Value} {args':Array Value} {f:ztS} (hS:zhL P g f) (hr:Rel Z H w) (h:zsF f args H=some (v,H')) (ha:AR Z ⟨args⟩ args') (n:Nat):
  (∀w,(callFunc g args').run P w= .ok (.enter g args') w)/\CallsIn (FNC none) n P g args' w (Ret Z H w v H'):=by
 have h0:none=some (v,H'):=h
 cases h0
theorem World.grown {W W2:World} (k1:∀b,b<W.heap.size->W2.heap[b]? =W.heap[b]?) (k2:W.heap.size<=W2.heap.size) (hos:W2.os=W.os) (htape:W2.tape=W.tape) (hout:Out W W2):
  ∃q os',W2=Sort.grow (Sort.ahead W q) os':=by
 refine ⟨W2.drawn-W.drawn,W2.heap.extract W.heap.size W2.heap.size, ?_⟩
 obtain ⟨h1,h2⟩:=hout
 cases W2
 simp only at k1 k2 hos htape h1 h2
 simp only [Sort.grow,Sort.ahead,World.mk.injEq]
 refine ⟨?_,htape,by omega,hos,h1⟩
 apply Array.ext_getElem?
 intro b
 rcases Nat.lt_or_ge b W.heap.size with hb|hb
 .rw [Array.getElem?_append_left hb,k1 b hb]
 .rw [Array.getElem?_append_right hb,Array.getElem?_extract]
  split
  .rw [show W.heap.size+(b-W.heap.size)=b by omega]
  .exact Array.getElem?_eq_none (by omega)
theorem zqv {G:Msk} (hG:GOK P G) {run:Run} (hrun:zco P run) {g:FuncId} {args:List Value} {args':Array Value} (hS:zgb P g) (hr:Rel Z H w) (h:zmC P G run args H=some (v,H')) (ha:AR Z ⟨args⟩ args') (n:Nat):
  (∀w,(callFunc g args').run P w= .ok (.enter g args') w)/\CallsIn (FNC none) n P g args' w (Ret Z H w v H'):=by
 have h0:none=some (v,H'):=h
 cases h0
theorem zrA {G:Msk} (hG:GOK P G) {run:Run} (hrun:zco P run) {g:FuncId} {args:List Value} {args':Array Value} (h:zjb P G run g args H=some (v,H')) (n:Nat) (hr:Rel Z H w) (ha:AR Z ⟨args⟩ args'):
  (∀w,(callFunc g args').run P w= .ok (.enter g args') w)/\CallsIn (FNC none) n P g args' w (Ret Z H w v H'):=by
 unfold zjb at h
 cases hf:G.fast&&args.all flat with
 |false=>rw [hf] at h;exact zdH hG hrun h n hr ha
 |true=>
  rw [hf] at h
  simp only [cond_true] at h
  simp only [Bool.and_eq_true] at hf
  have hf:=hf.2
  split at h
  .rename_i v0 H0 h0
   cases hv0:flatR v0&&Nat.ble GH.next H0.wlow with
   |false=>rw [hv0] at h;exact zdH hG hrun h n hr ha
   |true=>
    rw [hv0] at h
    simp only [Bool.and_eq_true] at hv0
    have hv:=hv0.1
    simp only [cond_true,Option.some.injEq,Prod.mk.injEq] at h
    obtain ⟨rfl,rfl⟩:=h
    have hargs:=ha.flats hf
    subst hargs
    have ha0:AR GM (⟨args⟩:Array Value) ⟨args⟩:=⟨rfl,λi v v' hv hv'=>by
     rw [hv] at hv';cases hv'
     exact .of_flat (List.all_eq_true.1 hf v (List.mem_of_getElem? (by simpa using hv)))⟩
    obtain ⟨c1,c2⟩:=zdH hG hrun h0 n (Rel.start hr.top.1) ha0
    refine ⟨c1,CallsIn.mono c2 λe w' he=> ?_⟩
    obtain ⟨Z',v',rfl,hv',hp⟩:=he
    obtain ⟨k1,k2⟩:=zaK.quiet (Rel.start hr.top.1) hp (Nat.le_of_ble_eq_true hv0.2)
    have:=hv'.eqR hv
    subst this
    exact ⟨Z,v',rfl,.of_flatR hv,.refl _,λ_ _=>rfl,hr.world k1,hp.os,hp.tape,hp.output,hp.size,Nat.le_refl _,Nat.le_refl _,λ_ _ _=>rfl,λT N _ hN hμ=>⟨λb hb=>k1 b (by omega),hμ⟩⟩
  .cases h
theorem zjQ (d:List Deferred):∀(ps:List Tmp) (vs us:List Value) (F F1:zab) (tmps:Array Value),zgK F (ps.zip vs)=some F1->FR Z F tmps->LR Z vs us->
  FR Z F1 ((ps.zip us).foldl (λtmps (x:Tmp×Value)=>tmps.setIfInBounds x.1 x.2) tmps)/\F1.marks=F.marks
 | [],vs,us,F,F1,tmps,h,hF,_=>by
  simp only [zgK,List.zip_nil_left,List.foldl_nil,Option.some.injEq] at h⊢
  subst h;exact ⟨hF,rfl⟩
 |p::ps,[],us,F,F1,tmps,h,hF,hl=>by
  have:us= []:=List.eq_nil_of_length_eq_zero hl.1.symm
  subst this
  simp only [zgK,List.zip_nil_right,List.foldl_nil,Option.some.injEq] at h⊢
  subst h;exact ⟨hF,rfl⟩
 |p::ps,v::vs,[],F,F1,tmps,h,hF,hl=>by have:=hl.1;simp at this
 |p::ps,v::vs,u::us,F,F1,tmps,h,hF,hl=>by
  simp only [List.zip_cons_cons,List.foldl_cons]
  simp only [zgK,List.zip_cons_cons,List.foldl_cons] at h
  cases hq:F.put (some p) v with
  |none=>
   rw [hq] at h
   have:∀(l:List (Tmp×Value)),l.foldl (λ(F:Option zab) (p:Tmp×Value)=>match F with|some F=>F.put (some p.1) p.2|none=>none) none=none:=λl=>by induction l<;>simp_all
   have:=(this _).symm.trans h;cases this
  |some F2=>
   rw [hq] at h
   obtain ⟨h2,hm⟩:=FR.put (a:={tmps:=tmps,defers:=d}) hF (hl.2 0 v u rfl rfl) hq
   obtain ⟨h3,hm3⟩:=zjQ d ps vs us F2 F1 _ h h2 ⟨by have:=hl.1;simpa using this,λj x x' hx hx'=>hl.2 (j+1) x x' (by simpa using hx) (by simpa using hx')⟩
   exact ⟨h3,hm3.trans hm⟩
theorem zeN (hr:Rel Z H w) {l:Nat} {p:Loc} {st:LoopState} {pend:Option Code} {F:zab} {params:Array Tmp} {assign body:Code} (hl:H.get l=some (.loop st pend F params assign body)) (hp:Z l=some p)
  (st':LoopState) (pend':Option Code):∃fn tmps D,w.heap[p.b]? =some (.loop {state:=st,pending:=pend,fn,tmps,params,assign,body,defers:=D})/\FR Z F tmps/\zaB assign=true/\zaB body=true/\
   zaK Z H w Z (H.write l (some (.loop st' pend' F params assign body))) (w.putObj p.b (.loop {state:=st',pending:=pend',fn,tmps,params,assign,body,defers:=D})):=by
 obtain ⟨fn,tmps,D,hb,hF,h1,h2⟩:=hr.loops l st pend F params assign body p hl hp
 refine ⟨fn,tmps,D,hb,hF,h1,h2, ?_⟩
 have hm:H.mate l=none:=by unfold zaa.mate;rw [hl]
 have hlt:p.b<w.heap.size:=(Array.getElem?_eq_some_iff.1 hb).1
 have:=zaK.turn (w':=w.putObj p.b (.loop {state:=st',pending:=pend',fn,tmps,params,assign,body,defers:=D})) hr hl (by unfold zaa.ro;rw [hl]) (some (.loop st' pend' F params assign body)) rfl rfl ⟨rfl,Nat.le_refl _⟩ (by simp)
  (λb hb=>World.putObj_heap_other (hb p hp)) (λ_ _ _ _ _ h=>by cases h) (λq hq=>by rw [hp] at hq;cases hq;exact ⟨fn,tmps,D,World.putObj_heap_same hlt,hF,h1,h2⟩)
 rw [hm] at this
 exact this
theorem zul (hr:Rel Z H w) {l:Nat} {p:Loc} {F:zab} {params:Array Tmp} {assign body:Code} (hl:H.get l=some (.loop .busy none F params assign body)) (hp:Z l=some p) {e:AEx}
  (h:zye l e F params assign body H=some (v,H')):∃j w',(match e with| .normal=>j=none| .ret=>j=some Code.ret| .exit id=>j=some (Code.exit id))/\(Instr.endRound p.b j).run P w= .ok v w'/\VR Z v v/\zaK Z H w Z H' w':=by
 unfold zye at h
 split at h
 all_goals
  simp only [Option.some.injEq,Prod.mk.injEq] at h
  obtain ⟨rfl,rfl⟩:=h
 .obtain ⟨fn,tmps,D,hb,_,_,_,hpost⟩:=zeN hr hl hp .ready none
  exact ⟨none,_,rfl,run_endRound none hb,.flat rfl,hpost⟩
 .obtain ⟨fn,tmps,D,hb,_,_,_,hpost⟩:=zeN hr hl hp .done (some .ret)
  exact ⟨some .ret,_,rfl,run_endRound (some .ret) hb,.flat rfl,hpost⟩
 .rename_i id
  obtain ⟨fn,tmps,D,hb,_,_,_,hpost⟩:=zeN hr hl hp .done (some (.exit id))
  exact ⟨some (.exit id),_,rfl,run_endRound (some (.exit id)) hb,.flat rfl,hpost⟩
theorem zg8 (ps:Array Tmp) (us:Array Value) (tmps:Array Value):
  ((ps.zip us).foldl (λtmps (x:Tmp×Value)=>tmps.setIfInBounds x.1 x.2) tmps)=((ps.toList.zip us.toList).foldl (λtmps (x:Tmp×Value)=>tmps.setIfInBounds x.1 x.2) tmps):=by
 rw [<-Array.foldl_toList];simp
theorem zrB {run:Run} (hrun:zco P run) {l:Nat} {args args':Array Value} (h:zn7 run l args H=some (v,H')) (n:Nat) (hr:Rel Z H w) (ha:AR Z args args') {p:Loc} (hp:Z l=some p) (rd:Option Nat):
  ∃f tmps assign body,(Instr.yield p.b args').run P w= .ok (.round p.b f tmps assign body) w/\RoundIn (FNC rd) n P p.b f tmps assign body w (Ret Z H w v H'):=by
 unfold zn7 at h
 split at h
 .rename_i F0 params assign body hl
  obtain ⟨fn,tmps,D,hb,hF0,hoa,hob⟩:=hr.loops _ _ _ _ _ _ _ p hl hp
  cases hsz:Nat.beq args.size params.size with
  |false=>rw [hsz] at h;simp at h
  |true=>
   rw [hsz] at h
   simp only [cond_true] at h
   have hsz':args'.size=params.size:=by rw [<-ha.1];exact Nat.eq_of_beq_eq_true hsz
   split at h
   .cases h
   .rename_i F1 hput
    obtain ⟨hF1,hm1⟩:=zjQ [] params.toList args.toList args'.toList {F0 with marks:= []} F1 tmps hput hF0 ha.toL
    refine ⟨_,_,_,_,run_yield hb hsz',roundIn_of_wpIn trivial ?_⟩
    simp only []
    have e:(Array.foldl (λtmps (x:Tmp×Value)=>tmps.setIfInBounds x.1 x.2) tmps (params.zip args'))=((params.toList.zip args'.toList).foldl (λtmps (x:Tmp×Value)=>tmps.setIfInBounds x.1 x.2) tmps):=zg8 _ _ _
    split at h
    .rename_i F2 h2 hasg
     split at h
     .rename_i Fa pa aa ba hl2
      split at h
      .rename_i e3 F3 h3 hbody
       split at h
       .rename_i Fb pb ab bb hl3
        refine wpIn_mono (hrun (some l) assign F1 H .normal F2 h2 hasg hoa n Z (some p.b) _ w hr (by show FR Z F1 (Array.foldl _ _ _);rw [e];exact hF1) (by rw [hm1];exact .nil) ⟨p,hp,rfl⟩) λex a1 w1 hq=> ?_
        obtain ⟨rfl,Z2,hF2,hM2,hp2⟩:=hq
        have hpl2:=hp2.ext _ _ hp
        obtain ⟨fn2,tmps2,D2,hb2,_,hoa2,hob2,hpost2⟩:=zeN hp2.rel hl2 hpl2 .busy none
        refine ⟨_,run_beginRound hb2 rfl, ?_⟩
        have hp3:=hp2.trans hpost2
        refine wpIn_mono (hrun (some l) body F2 _ e3 F3 h3 hbody hob n Z2 (some p.b) a1 _ hpost2.rel hF2 hM2 ⟨p,hpl2,rfl⟩) λex a3 w3 hq3=> ?_
        obtain ⟨rfl,Z3,_,_,hp4⟩:=hq3
        obtain ⟨j,w4,hj,hend,hv,hp5⟩:=zul (P:=P) hp4.rel hl3 (hp4.ext _ _ hpl2) h
        have hall:=hp3.trans (hp4.trans hp5)
        cases e3 with
        |normal=>simp only at hj;subst hj;exact ⟨v,w4,hend,Z3,v,rfl,hv,hall⟩
        |ret=>simp only at hj;subst hj;exact ⟨v,w4,hend,Z3,v,rfl,hv,hall⟩
        |exit id=>simp only at hj;subst hj;exact ⟨v,w4,hend,Z3,v,rfl,hv,hall⟩
       .cases h
      .cases h
     .cases h
    .cases h
 .cases h
theorem zhZ {fn:Func} (hn:fn.name= "internal/abi.NoEscape"):Extern.find fn=some Extern.AbiNoEscape.same:=by
 unfold Extern.find
 rw [hn]
 kernel_rfl
theorem zid {fn:Func} (hn:fn.name= "internal/abi.NoEscape") (ho:fn.origin= "" \/fn.origin= "internal/abi.NoEscape"):Extern.findNext fn=none:=by
 unfold Extern.findNext
 rw [hn]
 rcases ho with ho|ho<;>rw [ho]<;>kernel_rfl
theorem zm3 {g:FuncId} {args:List Value} {args':Array Value} (h:zbV P g args=some v) (ha:AR Z ⟨args⟩ args'):∃v',(∀w,(callFunc g args').run P w= .ok (.value v') w)/\VR Z v v':=by
 unfold zbV at h
 split at h
 .rename_i fn hf
  split at h
  .cases h
  .rename_i hb
   split at h
   .rename_i u
    cases hc:(fn.name== "internal/abi.NoEscape" &&(fn.origin== "" ||fn.origin== "internal/abi.NoEscape")) with
    |false=>rw [hc] at h;cases h
    |true=>
     rw [hc] at h
     simp only [cond_true,Option.some.injEq] at h
     subst h
     simp only [Bool.and_eq_true,Bool.or_eq_true,beq_iff_eq] at hc
     obtain ⟨u',hu,hv⟩:=ha.get (i:=0) (v:=u) (by simp)
     have hsz:args'.size=1:=by rw [<-ha.1];simp
     have hargs:args'= #[u']:=by
      apply Array.ext
      .simp [hsz]
      .intro i h1 h2
       have:i=0:=by omega
       subst this
       rw [Array.getElem?_eq_getElem h1] at hu
       simpa using hu
     refine ⟨u',λw=> ?_,hv⟩
     rw [run_callFunc_extern hf (by rw [hc.1];decide) (by simp [hb]) (zid hc.1 hc.2) (zhZ hc.1),hargs]
     rfl
   .cases h
 .cases h
theorem zgB {fn:Func} {n:String} (h:zjD fn n=true):fn.name=n/\(fn.origin= "" \/fn.origin=n):=by
 unfold zjD at h
 simpa [Bool.and_eq_true,Bool.or_eq_true] using h
theorem zhd {fn:Func} (hn:fn.name= "internal/bytealg.IndexByteString"):Extern.find fn=some Extern.BytealgIndexByte.indexByte:=by
 unfold Extern.find
 rw [hn]
 kernel_rfl
theorem zhe {fn:Func} (hn:fn.name= "internal/bytealg.IndexByteString") (ho:fn.origin= "" \/fn.origin= "internal/bytealg.IndexByteString"):Extern.findNext fn=none:=by
 unfold Extern.findNext
 rw [hn]
 rcases ho with ho|ho<;>rw [ho]<;>kernel_rfl
theorem zfQ {fn:Func} (hn:fn.name= "internal/bytealg.CountString"):Extern.find fn=some Extern.BytealgCount.count:=by
 unfold Extern.find
 rw [hn]
 kernel_rfl
theorem zfR {fn:Func} (hn:fn.name= "internal/bytealg.CountString") (ho:fn.origin= "" \/fn.origin= "internal/bytealg.CountString"):Extern.findNext fn=none:=by
 unfold Extern.findNext
 rw [hn]
 rcases ho with ho|ho<;>rw [ho]<;>kernel_rfl
theorem zgt {fn:Func} (hn:fn.name= "internal/bytealg.MakeNoZero"):Extern.find fn=some (Extern.BytealgMakeNoZero.makeNoZero fn.params fn.resultTypes):=by
 unfold Extern.find
 rw [hn]
 kernel_rfl
theorem zgI {fn:Func} (hn:fn.name= "internal/bytealg.MakeNoZero") (ho:fn.origin= "" \/fn.origin= "internal/bytealg.MakeNoZero"):Extern.findNext fn=none:=by
 unfold Extern.findNext
 rw [hn]
 rcases ho with ho|ho<;>rw [ho]<;>kernel_rfl
theorem zur {g:FuncId} {args:List Value} {args':Array Value} (hr:Rel Z H w) (h:zxo P g args H=some (v,H')) (ha:AR Z ⟨args⟩ args'):
  ∃Z' v' w',(callFunc g args').run P w= .ok (.value v') w'/\VR Z' v v'/\zaK Z H w Z' H' w':=by
 unfold zxo at h
 split at h
 .rename_i fn hf
  split at h
  .cases h
  .rename_i hb
   split at h
   .rename_i b c
    have hargs:args'= #[.string b,.int .u8 (.ofNat c)]:=AR.flats (args:= [.string b,.int .u8 (.ofNat c)]) rfl ha
    cases h1:zjD fn "internal/bytealg.IndexByteString" with
    |true=>
     rw [h1] at h
     simp only [cond_true,Option.some.injEq,Prod.mk.injEq] at h
     obtain ⟨rfl,rfl⟩:=h
     obtain ⟨hc1,hc2⟩:=zgB h1
     refine ⟨Z,_,w, ?_,.flat rfl,.refl hr⟩
     rw [run_callFunc_extern hf (by rw [hc1];decide) (by simp [hb]) (zhe hc1 hc2) (zhd hc1),hargs,Go.Lib.run_indexByteString]
     simp
    |false=>
     rw [h1] at h
     simp only [cond_false] at h
     cases h2:zjD fn "internal/bytealg.CountString" with
     |false=>rw [h2] at h;cases h
     |true=>
      rw [h2] at h
      simp only [cond_true,Option.some.injEq,Prod.mk.injEq] at h
      obtain ⟨rfl,rfl⟩:=h
      obtain ⟨hc1,hc2⟩:=zgB h2
      refine ⟨Z,_,w, ?_,.flat rfl,.refl hr⟩
      rw [run_callFunc_extern hf (by rw [hc1];decide) (by simp [hb]) (zfR hc1 hc2) (zfQ hc1),hargs,Go.Lib.run_countString]
      simp
   .rename_i n
    have hargs:args'= #[.int .i64 (.ofNat n)]:=AR.flats (args:= [.int .i64 (.ofNat n)]) rfl ha
    cases h1:(zjD fn "internal/bytealg.MakeNoZero" &&Nat.ble n 16777216) with
    |false=>rw [h1] at h;cases h
    |true=>
     rw [h1] at h
     simp only [cond_true] at h
     simp only [Bool.and_eq_true] at h1
     obtain ⟨hc1,hc2⟩:=zgB h1.1
     have hbig:=Nat.le_of_ble_eq_true h1.2
     split at h
     .rename_i t ht
      split at h
      .rename_i e hu
       split at h
       .rename_i i h2 hrow
        simp only [Option.some.injEq,Prod.mk.injEq] at h
        obtain ⟨rfl,rfl⟩:=h
        obtain ⟨cs,hrun,hle,_⟩:=Go.Lib.run_makeNoZero (P:=P) w fn.params t e hu n (by omega)
        obtain ⟨rfl,hp,_⟩:=zbW (w:=w.drew.drew) ((hr.drew _).drew _) hrow LR.nil cs
        have hres:fn.resultTypes= #[t]:=by rw [<-ht]
        refine ⟨_,.slice (some ⟨w.heap.size,0,none⟩) n cs.size,_, ?_, ?_,zaK.drew _ hp (Nat.le_add_right _ 2)⟩
        .rw [run_callFunc_extern hf (by rw [hc1];decide) (by simp [hb]) (zgI hc1 hc2) (zgt hc1),hargs,hres]
         have hrun':(Extern.BytealgMakeNoZero.makeNoZero fn.params #[t] #[.int .i64 (.ofNat n)]).run P w=_:=hrun
         rw [hrun']
         simp
        .refine VR.sliceU (p:=⟨w.heap.size,0,([]:List Value).length+cs.size,1⟩) (if_pos rfl) hle ?_
         show 0+cs.size*1<=([]:List Value).length+cs.size
         simp
       .cases h
      .cases h
     .cases h
   .cases h
 .cases h
theorem zwE {F:zab} {a:Act} {xs:Array Operand} (hx:∀x,x∈xs.toList->VR Z (zah F x) (a.eval x)):LR Z (xs.toList.map (zah F)) (xs.map a.eval).toList:=by
 refine ⟨by simp,λj v v' hv hv'=> ?_⟩
 simp only [List.getElem?_map,Option.map_eq_some_iff,Array.toList_map] at hv hv'
 obtain ⟨x,hx1,rfl⟩:=hv
 obtain ⟨x',hx2,rfl⟩:=hv'
 rw [hx1] at hx2;cases hx2
 exact hx x (List.mem_of_getElem? hx1)
theorem zhP {G:Msk} (hG:GOK P G) {run:Run} (hrun:zco P run):zcy P (zfa P G run):=by
 intro c F h v h' o ho hc hok n Z rd a w K Q hr hops hK
 rw [ho] at hops
 have hargs:∀x,x∈c.args.toList->VR Z (zah F x) (a.eval x):=λx hx=>hops x (by simp only [Op.operands,Call.operands];cases c.callee<;>simp_all)
 have hl:=zwE hargs
 have hab:∀f,o.about P w a.eval=some f->(FNC rd).fn f:=λ_ _=>trivial
 have hsem:o.semAt (FNC rd).round a.eval=execOp a.eval o:=Oper.semAt_eq _ _ _ (λd e=>by rw [ho] at e;cases e)
 have hex:execOp a.eval o=(do let d<-resolve a.eval c o.type;invoke d.target d.args):=by unfold execOp;rw [ho]
 unfold zfa at hc
 refine ⟨hab, ?_⟩
 rw [hsem,hex]
 cases hcal:c.callee with
 |builtin b=>
  rw [hcal] at hc
  simp only [za1] at hc
  obtain ⟨Z',v',w',hrn,hv,hp⟩:=zkq hr hc (LR.toA hl)
  simp only [resolve,hcal,Sem.run_bind,Sem.run_pure,Result.andThen_ok,invoke]
  refine Eq.mpr (congrArg (o.uponIn (FNC rd) n P a K Q) (?e:_=Result.ok (Next.value v') w')) (show o.uponIn (FNC rd) n P a K Q (Result.ok (Next.value v') w') from hK Z' v' w' hv hp)
  exact hrn
 |invoke r m=>rw [hcal] at hc;cases hc
 |value f=>
  rw [hcal] at hc
  have hfv:=hops f (by simp only [Op.operands,Call.operands,hcal];simp)
  simp only at hc
  split at hc
  .rename_i g first captured hgf
   rw [hgf] at hfv
   obtain ⟨fs',cs',hev,h1,h2⟩:=hfv.func_inv
   rw [za1] at hc
   have hAR:AR Z (⟨first.toList++(c.args.toList.map (zah F)++captured.toList)⟩:Array Value) (fs'++(c.args.map a.eval)++cs'):=by
    refine AR.ofL ?_
    have:=h1.toL.append (hl.append h2.toL)
    simpa using this
   have hcase:zgi P G run g (first.toList++(c.args.toList.map (zah F)++captured.toList)) h=some (v,h')\/zxo P g (first.toList++(c.args.toList.map (zah F)++captured.toList)) h=some (v,h'):=by
    unfold zhQ at hc
    split at hc
    .rename_i hq;rw [hq];exact .inl hc
    .exact .inr hc
   clear hc
   rcases hcase with hc|hx
   rotate_left
   .obtain ⟨Z',v',w',k1,hv,hp⟩:=zur hr hx hAR
    simp only [resolve,hcal,Sem.run_bind,hev,Deferred.ofValue,Sem.run_pure,Result.andThen_ok,invoke,k1]
    exact hK Z' v' w' hv hp
   unfold zgi at hc
   split at hc
   .rename_i u hu
    simp only [Option.some.injEq,Prod.mk.injEq] at hc
    obtain ⟨rfl,rfl⟩:=hc
    obtain ⟨v',k1,hv⟩:=zm3 hu hAR
    simp only [resolve,hcal,Sem.run_bind,hev,Deferred.ofValue,Sem.run_pure,Result.andThen_ok,invoke,k1]
    exact hK Z v' w hv (.refl hr)
   obtain ⟨k1,k2⟩:(∀w,(callFunc g (fs'++(c.args.map a.eval)++cs')).run P w= .ok (.enter g (fs'++(c.args.map a.eval)++cs')) w)/\CallsIn (FNC none) (n-1) P g (fs'++(c.args.map a.eval)++cs') w (Ret Z h w v h'):=by
    split at hc
    .rename_i u hnil hu
     simp only [Option.some.injEq,Prod.mk.injEq] at hc
     obtain ⟨rfl,rfl⟩:=hc
     have hz:(fs'++(c.args.map a.eval)++cs')= #[]:=Array.eq_empty_of_size_eq_zero (by rw [<-hAR.1];simp [hnil])
     obtain ⟨hfl,ho⟩:=hG.2.1 _ _ hu
     rw [hz]
     refine ⟨(ho 0 w hr.top.1).1,CallsIn.mono (ho (n-1) w hr.top.1).2 λe w' he=> ?_⟩
     obtain ⟨rfl,q1,q2,q3,q4,q5⟩:=he
     exact ⟨Z,_,rfl,.of_flatR hfl,.refl _,λ_ _=>rfl,hr.world q1,q3,q4,q5,q2,Nat.le_refl _,Nat.le_refl _,λ_ _ _=>rfl,λT N _ hN hμ=>⟨λb hb=>q1 b (by omega),hμ⟩⟩
    .split at hc
     .rename_i u hu
      cases hfa:(first.toList++(c.args.toList.map (zah F)++captured.toList)).all flat with
      |false=>rw [hfa] at hc;cases hc
      |true=>
       rw [hfa] at hc
       simp only [cond_true,Option.some.injEq,Prod.mk.injEq] at hc
       obtain ⟨rfl,rfl⟩:=hc
       obtain ⟨hfl,ho⟩:=hG.2.2.1 _ _ _ hu
       rw [AR.flats hfa hAR]
       refine ⟨(ho 0 w hr.top.1).1,CallsIn.mono (ho (n-1) w hr.top.1).2 λe w' he=> ?_⟩
       obtain ⟨rfl,q1,q2,q3,q4,q5⟩:=he
       exact ⟨Z,_,rfl,.of_flatR hfl,.refl _,λ_ _=>rfl,hr.world q1,q3,q4,q5,q2,Nat.le_refl _,Nat.le_refl _,λ_ _ _=>rfl,λT N _ hN hμ=>⟨λb hb=>q1 b (by omega),hμ⟩⟩
     .split at hc
      .rename_i f hs;exact zsG (hG.2.2.2.1 g f hs) hr hc hAR (n-1)
      .cases hsc:G.srtC g with
       |true=>rw [hsc] at hc;exact zqv hG hrun (hG.2.2.2.2 g hsc) hr hc hAR (n-1)
       |false=>rw [hsc] at hc;exact zrA hG hrun hc (n-1) hr hAR
   simp only [resolve,hcal,Sem.run_bind,hev,Deferred.ofValue,Sem.run_pure,Result.andThen_ok,invoke,k1]
   refine ⟨λh=>(by cases h),CallsIn.mono k2 λe w' he=> ?_⟩
   obtain ⟨Z',v',rfl,hv,hp⟩:=he
   exact hK Z' v' w' hv hp
  .rename_i l first _ hgf
   rw [hgf] at hfv
   obtain ⟨p,hp,hev,rfl,rfl⟩:=hfv.yield_inv
   rw [za1] at hc
   have hAR:AR Z (⟨(#[]:Array Value).toList++c.args.toList.map (zah F)⟩:Array Value) (#[]++(c.args.map a.eval)):=by
    refine AR.ofL ?_
    simpa using hl
   obtain ⟨f',tmps,assign,body,k1,k2⟩:=zrB hrun hc (n-1) hr hAR hp rd
   simp only [resolve,hcal,Sem.run_bind,hev,Deferred.ofValue,Sem.run_pure,Result.andThen_ok,invoke,k1]
   refine ⟨λh=>(by cases h),RoundIn.mono k2 λe w' he=> ?_⟩
   obtain ⟨Z',v',rfl,hv,hp⟩:=he
   exact hK Z' v' w' hv hp
  .cases hc
end
end
end Go.Ev

end

section

namespace Go.Ev
noncomputable section
open Go.RowKit
section
variable {P:Program} {Z:Nat->Option Loc} {H H':zaa} {w:World} {v:Value}
theorem zgG (hr:Rel Z H w) {l:Nat} {p:Loc} {st:LoopState} {pend:Option Code} {F:zab} {params:Array Tmp} {assign body:Code} (hl:H.get l=some (.loop st pend F params assign body)) (hp:Z l=some p) (hst:st≠ .busy):
  ∃w',(Instr.endLoop p.b).run P w= .ok pend w'/\zaK Z H w Z (H.write l none) w':=by
 obtain ⟨fn,tmps,D,hb,hF,h1,h2⟩:=hr.loops l st pend F params assign body p hl hp
 have hm:H.mate l=none:=by unfold zaa.mate;rw [hl]
 refine ⟨_,run_endLoop hb hst, ?_⟩
 have:=zaK.turn (w':=w.putObj p.b (.loop {state:= .exhausted,pending:=pend,fn,tmps,params,assign,body,defers:=D})) hr hl (by unfold zaa.ro;rw [hl]) none rfl rfl ⟨rfl,Nat.le_refl _⟩ (by simp)
  (λb hb=>World.putObj_heap_other (hb p hp)) (λ_ _ _ _ _ h=>by cases h) (λ_ _=>trivial)
 rw [hm] at this
 exact this
theorem FR.same {F F2:zab} {tmps:Array Value} (h:FR Z F tmps) (hs:F2.size=F.size) (ht:F2.t=F.t):FR Z F2 tmps:=
 ⟨hs.trans h.1,hs▸h.2.1,λt=>by have:=h.2.2 t;unfold zab.get at this⊢;rw [ht];exact this⟩
theorem zjR {G:Msk} (hG:GOK P G) {run:Run} (hrun:zco P run) {gf:FuncId} {first captured fs' cs':Array Value} {params:Array Tmp} {assign body:Code} {F F2 F':zab} {H1:zaa} {e:AEx} {h h':zaa}
  (hev:zeD P G run gf first captured params assign body F H1 F2=some (e,F',h')) (ha:zaB assign=true) (hb:zaB body=true) {Z Z1:Nat->Option Loc} {w w1:World} (hp:zaK Z h w Z1 H1 w1)
  {a':Act} (hF:FR Z1 F a'.tmps) (hs:F2.size=F.size) (htt:F2.t=F.t) (hM:MR Z1 F2.marks a'.defers) (h1:AR Z1 first fs') (h2:AR Z1 captured cs') (fn:FuncId) (D n n':Nat) (rd':Option Nat):
  (∀w,(callFunc gf (fs'++ #[.func (.yield w1.heap.size) #[] #[]]++cs')).run P w= .ok (.enter gf (fs'++ #[.func (.yield w1.heap.size) #[] #[]]++cs')) w)/\
  CallsIn (FNC rd') n' P gf (fs'++ #[.func (.yield w1.heap.size) #[] #[]]++cs') (w1.alloc (.loop {state:= .ready,pending:=none,fn,tmps:=a'.tmps,params,assign,body,defers:=D}))
   (rangePost (FNC rd') n P w1.heap.size (QOK Z h w e F' h') a'):=by
 unfold zeD at hev
 rw [zaO] at hev
 have hnew:zaK Z1 H1 w1 (λi=>if i=H1.next then some ⟨w1.heap.size,0,0,0⟩ else Z1 i) (H1.alloc (.loop .ready none F params assign body)) (w1.alloc (.loop {state:= .ready,pending:=none,fn,tmps:=a'.tmps,params,assign,body,defers:=D})):=
  zaK.new hp.rel (.loop .ready none F params assign body) _ ⟨w1.heap.size,0,0,0⟩ rfl λZ' hx=>⟨fn,a'.tmps,D,rfl,hF.mono hx,ha,hb⟩
 have hL:(λi=>if i=H1.next then some (⟨w1.heap.size,0,0,0⟩:Loc) else Z1 i) H1.next=some ⟨w1.heap.size,0,0,0⟩:=if_pos rfl
 generalize hμ2:(λi=>if i=H1.next then some (⟨w1.heap.size,0,0,0⟩:Loc) else Z1 i)=Z2 at hnew hL
 split at hev
 .rename_i v0 H3 hcall
  have hAR:AR Z2 (first++ #[.func (.yield H1.next) #[] #[]]++captured) (fs'++ #[.func (.yield w1.heap.size) #[] #[]]++cs'):=by
   refine AR.ofL ?_
   have hy:LR Z2 [Value.func (.yield H1.next) #[] #[]] [Value.func (.yield w1.heap.size) #[] #[]]:=⟨rfl,λj x x' hx hx'=>by
    cases j with
    |zero=>simp at hx hx';subst hx hx';exact .yield hL
    |succ j=>simp at hx⟩
   have:=((h1.toL.mono hnew.ext).append hy).append (h2.toL.mono hnew.ext)
   simpa using this
  obtain ⟨k1,k2⟩:=zdH hG hrun hcall n' hnew.rel hAR
  refine ⟨k1, ?_⟩
  refine CallsIn.mono (F:=FNC rd') (show CallsIn (FNC rd') n' P gf _ _ _ from k2) λen w3 he=> ?_
  obtain ⟨Z3,v3,rfl,_,hp3⟩:=he
  have hall:=hp.trans (hnew.trans hp3)
  have hL3:=hp3.ext _ _ hL
  have hx13:Ext Z1 Z3:=hnew.ext.trans hp3.ext
  have hF3:FR Z3 F2 a'.tmps:=(hF.mono hx13).same hs htt
  have hM3:=hM.mono hx13
  split at hev
  .rename_i hl
   simp only [Option.some.injEq,Prod.mk.injEq] at hev
   obtain ⟨rfl,rfl,rfl⟩:=hev
   obtain ⟨w4,hend,hp4⟩:=zgG (P:=P) hp3.rel hl hL3 (by simp)
   exact ⟨_,w4,hend,rfl,Z3,hF3,hM3,hall.trans hp4⟩
  .rename_i hl
   simp only [Option.some.injEq,Prod.mk.injEq] at hev
   obtain ⟨rfl,rfl,rfl⟩:=hev
   obtain ⟨w4,hend,hp4⟩:=zgG (P:=P) hp3.rel hl hL3 (by simp)
   exact ⟨_,w4,hend,wpIn_ret ⟨rfl,Z3,hF3,hM3,hall.trans hp4⟩⟩
  .rename_i id _ _ _ _ hl
   simp only [Option.some.injEq,Prod.mk.injEq] at hev
   obtain ⟨rfl,rfl,rfl⟩:=hev
   obtain ⟨w4,hend,hp4⟩:=zgG (P:=P) hp3.rel hl hL3 (by simp)
   exact ⟨_,w4,hend,wpIn_exit ⟨rfl,Z3,hF3,hM3,hall.trans hp4⟩⟩
  .cases hev
 .cases hev
theorem zsq {G:Msk} (hG:GOK P G) {run:Run} (hrun:zco P run) {rd:Option Nat} {g:Operand} {params:Array Tmp} {assign body:Code} {F F':zab} {h h':zaa} {e:AEx}
  (hev:zfe P G run rd (zah F g) params assign body F h=some (e,F',h')) (hg:zbr g=true) (ha:zaB assign=true) (hb:zaB body=true)
  {n:Nat} {rd':Option Nat} {a:Act} (hr:Rel Z h w) (hF:FR Z F a.tmps) (hM:MR Z F.marks a.defers) (hd:RD Z rd rd'):(Code.rangeFunc g params assign body).wpIn (FNC rd') n P (QOK Z h w e F' h') a w:=by
 have hgv:=zeF hr.top.2.1 hF hg
 unfold zfe at hev
 split at hev
 .rename_i gf first captured hgf
  rw [hgf] at hgv
  obtain ⟨fs',cs',hev',h1,h2⟩:=hgv.func_inv
  have hres:∀(l:Nat) (w:World),(resolve a.eval (rangeCall g l) 0).run P w= .ok {target:= .fn (.func gf) cs',args:=fs'++ #[.func (.yield l) #[] #[]]} w:=by
   intro l w
   have e:(#[Operand.const (.func (.yield l) #[] #[])]:Array Operand).map a.eval= #[.func (.yield l) #[] #[]]:=by simp;rfl
   show (Deferred.ofValue (a.eval g) ((#[Operand.const (.func (.yield l) #[] #[])]:Array Operand).map a.eval)).run P w=_
   rw [hev',e];rfl
  refine wpIn_rangeFunc λfn _=> ?_
  cases rd with
  |none=>
   cases rd' with
   |some l'=>exact hd.elim
   |none=>
    simp only at hev
    have hnew:zaK Z h w (λi=>if i=h.next then some ⟨w.heap.size,0,0,0⟩ else Z i) (h.alloc .deferred) (w.alloc (.deferred (some []))):=
     zaK.new hr .deferred _ ⟨w.heap.size,0,0,0⟩ rfl λZ' hx=>rfl
    have hL:(λi=>if i=h.next then some (⟨w.heap.size,0,0,0⟩:Loc) else Z i) h.next=some ⟨w.heap.size,0,0,0⟩:=if_pos rfl
    generalize hμ1:(λi=>if i=h.next then some (⟨w.heap.size,0,0,0⟩:Loc) else Z i)=Z1 at hnew hL
    obtain ⟨k1,k2⟩:=zjR hG hrun hev ha hb hnew (a':={a with defers:= [{target:= .collected w.heap.size,args:= #[]}]++a.defers}) (hF.mono hnew.ext) rfl rfl
     (.cons hL (hM.mono hnew.ext)) ⟨h1.1,λi x x' hx hx'=>(h1.2 i x x' hx hx').mono hnew.ext⟩ ⟨h2.1,λi x x' hx hx'=>(h2.2 i x x' hx hx').mono hnew.ext⟩ fn w.heap.size n (n-1) none
    rw [World.size_alloc] at k1 k2
    exact ⟨_,_,_,_,_,_,_,_,run_enterLoop_outer _ _ _ _ _,hres _ _,λ_ _=>trivial,k1 _,λh=>(by cases h),k2⟩
  |some l=>
   cases rd' with
   |none=>exact hd.elim
   |some l'=>
    obtain ⟨p,hp,hpl⟩:=hd
    subst hpl
    simp only at hev
    split at hev
    .rename_i st pend F0 ps0 as0 bd0 hl
     obtain ⟨fn0,tmps0,D0,hb0,_⟩:=hr.loops _ _ _ _ _ _ _ p hl hp
     obtain ⟨k1,k2⟩:=zjR hG hrun hev ha hb (.refl hr) (a':={a with defers:= []++a.defers}) hF rfl rfl hM h1 h2 fn D0 n (n-1) (some p.b)
     refine ⟨w.heap.size,[],w.alloc (.loop {state:= .ready,pending:=none,fn,tmps:=a.tmps,params,assign,body,defers:=D0}),_,_,_,_,_, ?_,hres _ _,λ_ _=>trivial,k1 _,λh=>(by cases h),k2⟩
     show (Instr.enterLoop fn a.tmps params assign body (some p.b)).run P w=_
     unfold Instr.enterLoop
     simp only [Sem.run_bind,run_getLoop hb0,run_newObj_alloc,Result.andThen,Sem.run_pure]
    .cases hev
 .cases hev
end
end
end Go.Ev

end

section

namespace Go.Ev
noncomputable section
open Go.RowKit
section
variable {P:Program} {Z:Nat->Option Loc} {H H':zaa} {w:World} {v:Value}
theorem zfN (p:Edge->Bool) (acc:List Nat) (i:Nat):∀(l:List Edge) (s:Nat),(l.foldl (λs e=>cond (p e) (s|||2^e.on|||acc.getD e.on 0) s) s).testBit i=true->
  s.testBit i=true\/∃e,e∈l/\p e=true/\(e.on=i\/(acc.getD e.on 0).testBit i=true)
 | [],s,h=> .inl h
 |e::l,s,h=>by
  rw [List.foldl_cons] at h
  rcases zfN p acc i l _ h with h| ⟨e',h1,h2,h3⟩
  .cases hp:p e with
   |false=>rw [hp] at h;exact .inl h
   |true=>
    rw [hp] at h
    simp only [cond_true,Nat.testBit_or,Bool.or_eq_true,Nat.testBit_two_pow,decide_eq_true_eq] at h
    rcases h with (h|h)|h
    .exact .inl h
    .exact .inr ⟨e,by simp,hp,.inl h⟩
    .exact .inr ⟨e,by simp,hp,.inr h⟩
  .exact .inr ⟨e',by simp [h1],h2,h3⟩
theorem zds:∀(l:List Oper) (acc:List Nat),∃r,zaX l acc=acc++r/\r.length=l.length/\
  ∀k o i,l[k]? =some o->((zaX l acc).getD (acc.length+k) 0).testBit i=true->∃e,e∈o.after.toList/\Region.binds .any e=true/\(e.on=i\/((zaX l acc).getD e.on 0).testBit i=true)
 | [],acc=>⟨[],by simp [zaX],rfl,λk o i h=>by simp at h⟩
 |o::l,acc=>by
  obtain ⟨r,h1,h2,h3⟩:=zds l (acc++ [zgH acc o])
  refine ⟨zgH acc o::r,by simp [zaX,h1],by simp [h2],λk o' i hk hb=> ?_⟩
  have hm:zaX (o::l) acc=zaX l (acc++ [zgH acc o]):=rfl
  cases k with
  |succ k=>
   rw [hm] at hb⊢
   refine h3 k o' i (by simpa using hk) ?_
   have:(acc++ [zgH acc o]).length+k=acc.length+(k+1):=by simp;omega
   rw [this];exact hb
  |zero=>
   simp only [List.getElem?_cons_zero,Option.some.injEq] at hk
   subst hk
   have hg:(zaX (o::l) acc).getD (acc.length+0) 0=zgH acc o:=by
    rw [hm,h1];simp
   rw [hg] at hb
   rcases zfN (Region.binds .any) acc i _ 0 (by unfold zgH at hb;exact hb) with h| ⟨e,he,hbn,h⟩
   .simp at h
   .refine ⟨e,he,hbn,h.imp id λh=> ?_⟩
    rw [hm,h1]
    by_cases hlt:e.on<acc.length
    .rw [List.getD_eq_getElem?_getD] at h⊢
     rw [List.append_assoc,List.getElem?_append_left hlt];exact h
    .rw [List.getD_eq_getElem?_getD,List.getElem?_eq_none (by omega)] at h;simp at h
def zbB (ops:Array Oper) (i:Nat):Option Tmp:=(ops[i]?).bind (·.dst)
def ziX (ops:Array Oper) (L:Array Bool):Prop:= ∀k o,L.getD k false=true->ops[k]? =some o->∀e,e∈o.after.toList->Region.binds .any e=true->L.getD e.on false=true
theorem zhS {ops:List Oper}:∀(l:List Oper) (k:Nat),zcG l k=true->∀j o e,l[j]? =some o->e∈o.after.toList->Region.binds .any e=true->e.on<k+j
 | [],k,_,j,o,e,hj,_,_=>by simp at hj
 |x::l,k,h,j,o,e,hj,he,hb=>by
  simp only [zcG,Bool.and_eq_true] at h
  cases j with
  |zero=>
   simp only [List.getElem?_cons_zero,Option.some.injEq] at hj
   subst hj
   have:=List.all_eq_true.1 h.1 e he
   rw [hb] at this
   have h2:e.on+1<=k:=by simpa using Nat.le_of_ble_eq_true this
   omega
  |succ j=>have:=zhS (ops:=ops) l (k+1) h.2 j o e (by simpa using hj) he hb;omega
theorem zdr {ops:Array Oper} {L:Array Bool} (hd:ziX ops L) (hed:zcG ops.toList 0=true):∀(k:Nat) (o:Oper) (i:Nat),ops[k]? =some o->
  (∀e,e∈o.after.toList->Region.binds .any e=true->L.getD e.on false=true)->((zaX ops.toList []).getD k 0).testBit i=true->L.getD i false=true:=by
 intro k
 induction k using Nat.strongRecOn with
 |_ k ih=>
  intro o i ho hL hb
  obtain ⟨r,_,_,h3⟩:=zds ops.toList []
  obtain ⟨e,he,hbn,h⟩:=h3 k o i (by simpa using ho) (by simpa using hb)
  have hon:=hL e he hbn
  rcases h with rfl|h
  .exact hon
  .have hlt:=zhS (ops:=ops.toList) ops.toList 0 hed k o e (by simpa using ho) he hbn
   have hk:k<ops.size:=(Array.getElem?_eq_some_iff.1 ho).1
   have hoe:ops[e.on]? =some ops[e.on]:=Array.getElem?_eq_getElem (by omega)
   exact ih e.on (by omega) _ i hoe (λe' h1 h2=>hd e.on _ hon hoe e' h1 h2) h
theorem zcP {ops:Array Oper} {L:Array Bool} {i:Nat} (h:i∈Region.ready .any ops L):∃o,ops[i]? =some o/\L.getD i true=false/\∀e,e∈o.after.toList->Region.binds .any e=true->L.getD e.on false=true:=by
 unfold Region.ready at h
 simp only [List.mem_filter,List.mem_range,Bool.and_eq_true,Bool.not_eq_true'] at h
 obtain ⟨hi,hl,ha⟩:=h
 refine ⟨ops[i],Array.getElem?_eq_getElem hi,hl,λe he hb=> ?_⟩
 rw [Array.getElem?_eq_getElem hi] at ha
 simp only [Option.map_some,Option.getD_some] at ha
 have:=Array.all_eq_true_iff_forall_mem.1 ha e (by simpa using he)
 rw [hb] at this
 simpa using this
theorem ze8 {ops:Array Oper} {L:Array Bool} (hed:zcG ops.toList 0=true) (hL:L.size=ops.size) (h:Region.ready .any ops L= []):∀i,i<ops.size->L.getD i false=true:=by
 intro i
 induction i using Nat.strongRecOn with
 |_ i ih=>
  intro hi
  cases hq:L.getD i false with
  |true=>rfl
  |false=>
   exfalso
   have hmem:i∈Region.ready .any ops L:=by
    unfold Region.ready
    simp only [List.mem_filter,List.mem_range,Bool.and_eq_true,Bool.not_eq_true']
    refine ⟨hi, ?_, ?_⟩
    .rw [Array.getD_eq_getD_getElem?,Array.getElem?_eq_getElem (by omega)] at hq⊢;simpa using hq
    .rw [Array.getElem?_eq_getElem hi]
     simp only [Option.map_some,Option.getD_some]
     refine Array.all_eq_true_iff_forall_mem.2 λe he=> ?_
     cases hb:Region.binds .any e with
     |false=>rfl
     |true=>
      have hlt:=zhS (ops:=ops.toList) ops.toList 0 hed i ops[i] e (by simp [hi]) (by simpa using he) hb
      simpa using ih e.on (by omega) (by omega)
   rw [h] at hmem;cases hmem
theorem zsU {o:Oper} {a:Act} {rd:Option Nat} {p:Prop} (h:o.wpIn (FNC rd) 0 P a w (λ_ _=>p) (λ_ _ _=>False)):p:=by
 have hroom:∀n,(FNC rd).room n:=λ_ _ h=>by cases h
 obtain ⟨_,h⟩:=h
 unfold Oper.uponIn at h
 split at h
 .exact h
 .exact h
 .exact h
 .obtain ⟨_,_,h⟩:=h
  obtain ⟨e,w',fr,hR,_⟩:=h [] (hroom _)
  cases e with
  |returned v=>exact hR
  |panicked c=>exact hR.elim
  |outgrown=>obtain ⟨_,_,hq⟩:=hR;exact hq.elim
 .obtain ⟨_,h⟩:=h
  obtain ⟨v,w',hR,_⟩:=h default [] (hroom _)
  exact hR
 .obtain ⟨_,_,h⟩:=h
  obtain ⟨e,w',hR,_⟩:=h default [] (hroom _)
  cases e with
  |returned v=>exact hR
  |panicked c=>exact hR.elim
  |outgrown=>obtain ⟨_,_,hq⟩:=hR;exact hq.elim
 .exact h.elim
 .exact h.elim
theorem zeR {call:Call->TypeId->zab->zaa->Option (Value×zaa)} (hc:zcy P call) {F:zab} {o:Oper} {a:Act}
  (h:opA call P F o.op o.type H=some (v,H')) (hok:zcx o.op=true) (hr:Rel Z H w) (hρ:∀x,x∈o.op.operands.toList->VR Z (zah F x) (a.eval x)):∃Z' v' w',VR Z' v v'/\zaK Z H w Z' H' w':=
 zsU (rd:=none) (zdb hc h hok hr hρ λZ' v' w' hv hp=>⟨Z',v',w',hv,hp⟩)
end
end
end Go.Ev

end

section

namespace Go.Ev
noncomputable section
open Go.RowKit
section
variable {P:Program} {call:Call->TypeId->zab->zaa->Option (Value×zaa)} {ops:Array Oper}
theorem zkW {F F':zab} {d:Option Tmp} {v:Value} (h:F.put d v=some F') (ht:F.size<=TOP):F'.size=F.size/\F'.marks=F.marks/\∀t,F'.get t=if d=some t then v else F.get t:=by
 cases d with
 |none=>simp only [zab.put,Option.some.injEq] at h;subst h;exact ⟨rfl,rfl,λt=>by simp⟩
 |some d=>
  simp only [zab.put] at h
  cases hlt:Nat.blt d F.size with
  |false=>rw [hlt] at h;cases h
  |true=>
   rw [hlt] at h
   have hlt':d+1<=F.size:=Nat.le_of_ble_eq_true hlt
   simp only [cond_true,Option.some.injEq] at h
   subst h
   refine ⟨rfl,rfl,λt=> ?_⟩
   rw [zab.get_eq]
   simp only [T.get_set40 (some v) F.t d t (Nat.le_trans (Nat.le_of_lt hlt') ht)]
   by_cases e:t=d
   .subst e;simp
   .have e':¬d=t:=λx=>e x.symm
    simp [e,e',zab.get_eq]
def ztV (P:Program) (call:Call->TypeId->zab->zaa->Option (Value×zaa)) (ops:Array Oper) (j:Nat) (F:zab) (h:zaa) (v:Value) (F1:zab) (h1:zaa):Prop:=
 ∃o,ops[j]? =some o/\F.put o.dst v=some F1/\
  ((za6 F ops o=true/\∃h2,opA call P F o.op o.type {h with wlow:=h.next}=some (v,h2)/\h.next<=h2.wlow/\h1={h2 with wlow:=h.wlow})\/
  (za6 F ops o=false/\v=undef/\h1=h))
def zmT (P:Program) (call:Call->TypeId->zab->zaa->Option (Value×zaa)) (ops:Array Oper) (Fs:Nat->zab) (hs:Nat->zaa) (vs:Nat->Value) (j:Nat):Prop:=
 ztV P call ops j (Fs j) (hs j) (vs j) (Fs (j+1)) (hs (j+1))
theorem zjP:∀(l:List Oper) (k:Nat) (F F':zab) (h h':zaa),(∀i o,l[i]? =some o->ops[k+i]? =some o)->zd5 call P ops l F h=some (F',h')->
  ∃Fs hs vs,Fs k=F/\hs k=h/\Fs (k+l.length)=F'/\hs (k+l.length)=h'/\∀j,k<=j->j<k+l.length->zmT P call ops Fs hs vs j
 | [],k,F,F',h,h',_,he=>by
  simp only [zd5,Option.some.injEq,Prod.mk.injEq] at he
  obtain ⟨rfl,rfl⟩:=he
  exact ⟨λ_=>F,λ_=>h,λ_=>undef,rfl,rfl,rfl,rfl,λj h1 h2=>by simp at h2;omega⟩
 |o::l,k,F,F',h,h',hl,he=>by
  have ho:ops[k]? =some o:=by simpa using hl 0 o rfl
  have hl':∀i o',l[i]? =some o'->ops[k+1+i]? =some o':=λi o' hi=>by
   have:=hl (i+1) o' (by simpa using hi)
   rwa [show k+1+i=k+(i+1) by omega]
  have key:∀(v:Value) (F1:zab) (h1:zaa),F.put o.dst v=some F1->zd5 call P ops l F1 h1=some (F',h')->
    ((za6 F ops o=true/\∃h2,opA call P F o.op o.type {h with wlow:=h.next}=some (v,h2)/\h.next<=h2.wlow/\h1={h2 with wlow:=h.wlow})\/(za6 F ops o=false/\v=undef/\h1=h))->
    ∃Fs hs vs,Fs k=F/\hs k=h/\Fs (k+(o::l).length)=F'/\hs (k+(o::l).length)=h'/\∀j,k<=j->j<k+(o::l).length->zmT P call ops Fs hs vs j:=by
   intro v F1 h1 hput hrest hst
   obtain ⟨Fs,hs,vs,e1,e2,e3,e4,hj⟩:=zjP l (k+1) F1 F' h1 h' hl' hrest
   refine ⟨λj=>if j=k then F else Fs j,λj=>if j=k then h else hs j,λj=>if j=k then v else vs j,if_pos rfl,if_pos rfl, ?_, ?_,λj h1' h2'=> ?_⟩
   .simp only [List.length_cons];rw [if_neg (by omega)];rw [<-e3];congr 1;omega
   .simp only [List.length_cons];rw [if_neg (by omega)];rw [<-e4];congr 1;omega
   .by_cases e:j=k
    .subst e
     show ztV P call ops j (if j=j then F else Fs j) (if j=j then h else hs j) (if j=j then v else vs j) (if j+1=j then F else Fs (j+1)) (if j+1=j then h else hs (j+1))
     rw [if_pos rfl,if_pos rfl,if_pos rfl,if_neg (Nat.succ_ne_self j),if_neg (Nat.succ_ne_self j),e1,e2]
     exact ⟨o,ho,hput,hst⟩
    .have hj':=hj j (by omega) (by simp only [List.length_cons] at h2';omega)
     have e':¬j+1=k:=by omega
     show ztV P call ops j (if j=k then F else Fs j) (if j=k then h else hs j) (if j=k then v else vs j) (if j+1=k then F else Fs (j+1)) (if j+1=k then h else hs (j+1))
     rw [if_neg e,if_neg e,if_neg e,if_neg e',if_neg e']
     exact hj'
  simp only [zd5] at he
  cases hf:za6 F ops o with
  |true=>
   rw [hf] at he
   simp only [cond_true] at he
   split at he
   .rename_i v h1 hop
    cases hq:Nat.ble h.next h1.wlow with
    |false=>rw [hq] at he;simp at he
    |true=>
     rw [hq] at he
     simp only [cond_true] at he
     rw [za8] at he
     split at he
     .rename_i F1 hput
      exact key v F1 _ hput he (.inl ⟨hf,h1,hop,Nat.le_of_ble_eq_true hq,rfl⟩)
     .cases he
   .cases he
  |false=>
   rw [hf] at he
   simp only [cond_false] at he
   split at he
   .rename_i F1 hput
    exact key undef F1 h hput he (.inr ⟨hf,rfl,rfl⟩)
   .cases he
theorem zqy (hc:zcy P call) (hok:∀o,o∈ops.toList->zcx o.op=true) {Fs:Nat->zab} {hs:Nat->zaa} {vs:Nat->Value} {j:Nat} (hst:zmT P call ops Fs hs vs j) {Z:Nat->Option Loc} {w:World} {a:Act}
  (hr:Rel Z (hs j) w) (hF:FR Z (Fs j) a.tmps):∃(Z':Nat->Option Loc) (w':World) (a':Act),Rel Z' (hs (j+1)) w'/\FR Z' (Fs (j+1)) a'.tmps/\(hs j).next<=(hs (j+1)).next/\(∀i,i<(hs j).next->(hs (j+1)).get i=(hs j).get i)/\(hs (j+1)).wlow=(hs j).wlow:=by
 obtain ⟨o,ho,hput,h⟩:=hst
 have hmem:o∈ops.toList:=by rw [Array.mem_toList_iff];exact Array.mem_of_getElem? ho
 rcases h with ⟨_,h1,hop,hq,e⟩| ⟨_,hv,e⟩
 .obtain ⟨Z',v',w',hv,hp⟩:=zeR hc hop (hok o hmem) (hr.wlow _) (λx hx=>zeF hr.top.2.1 hF (zaI (hok o hmem) x hx))
  obtain ⟨hF',_⟩:=FR.put (hF.mono hp.ext) hv hput
  refine ⟨Z',w',a.put o.dst v', ?_,hF', ?_, ?_, ?_⟩
  .rw [e];exact hp.rel.wlow _
  .rw [e];exact hp.nxt
  .intro i hi;rw [e];exact hp.old i (Nat.lt_of_lt_of_le hi hq) hi
  .rw [e]
 .rw [hv] at hput
  obtain ⟨hF',_⟩:=FR.put hF (.undef Z) hput
  exact ⟨Z,w,a.put o.dst undef,by rw [e];exact hr,hF',by rw [e];exact Nat.le_refl _,λi _=>by rw [e],by rw [e]⟩
theorem zlv (hc:zcy P call) (hok:∀o,o∈ops.toList->zcx o.op=true) {Fs:Nat->zab} {hs:Nat->zaa} {vs:Nat->Value} {T:Nat} (hst:∀j,j<T->zmT P call ops Fs hs vs j) {Z:Nat->Option Loc} {w:World} {a:Act}
  (hr:Rel Z (hs 0) w) (hF:FR Z (Fs 0) a.tmps):∀j,j<=T->(∃(Z':Nat->Option Loc) (w':World) (a':Act),Rel Z' (hs j) w'/\FR Z' (Fs j) a'.tmps)/\
   ∀i,i<=j->(hs i).next<=(hs j).next/\(∀k,k<(hs i).next->(hs j).get k=(hs i).get k)/\(hs j).wlow=(hs i).wlow:=by
 intro j
 induction j with
 |zero=>
  refine λ_=>⟨⟨Z,w,a,hr,hF⟩,λi hi=> ?_⟩
  have h0:i=0:=by omega
  subst h0;exact ⟨Nat.le_refl _,λ_ _=>rfl,rfl⟩
 |succ j ih=>
  intro hj
  obtain ⟨⟨Z1,w1,a1,hr1,hF1⟩,hall⟩:=ih (by omega)
  obtain ⟨Z',w',a',hr',hF',hn,hget,hw⟩:=zqy hc hok (hst j (by omega)) hr1 hF1
  refine ⟨⟨Z',w',a',hr',hF'⟩,λi hi=> ?_⟩
  by_cases e:i=j+1
  .subst e;exact ⟨Nat.le_refl _,λ_ _=>rfl,rfl⟩
  .obtain ⟨b1,b2,b3⟩:=hall i (by omega)
   exact ⟨Nat.le_trans b1 hn,λk hk=>(hget k (Nat.lt_of_lt_of_le hk b1)).trans (b2 k hk),hw.trans b3⟩
theorem zeP:∀(l:List Oper),zfJ (l.map (·.dst))=true->∀(i j:Nat) (d:Tmp),i<j->(l[i]?).bind (λo:Oper=>o.dst)=some d->(l[j]?).bind (λo:Oper=>o.dst)≠some d
 | [],_,i,j,d,_,hi=>by simp at hi
 |o::l,h,i,j,d,hij,hi=>by
  cases j with
  |zero=>omega
  |succ j=>
   have hl:zfJ (l.map (·.dst))=true:=by
    simp only [List.map_cons] at h
    cases hd:o.dst with
    |none=>rw [hd] at h;exact h
    |some d'=>rw [hd] at h;simp only [zfJ,Bool.and_eq_true] at h;exact h.2
   cases i with
   |succ i=>simpa using zeP l hl i j d (by omega) (by simpa using hi)
   |zero=>
    simp only [List.getElem?_cons_zero,Option.bind_some] at hi
    simp only [List.map_cons,hi,zfJ,Bool.and_eq_true,Bool.not_eq_true'] at h
    simp only [List.getElem?_cons_succ]
    intro hj
    have hmem:some d∈l.map (·.dst):=by
     cases hlj:l[j]? with
     |none=>rw [hlj] at hj;cases hj
     |some o'=>
      rw [hlj] at hj
      exact List.mem_map.2 ⟨o',List.mem_of_getElem? hlj,hj⟩
    have:(l.map (·.dst)).contains (some d)=true:=by simpa using hmem
    rw [this] at h;cases h.1
end
end
end Go.Ev

end

section

namespace Go.Ev
noncomputable section
open Go.RowKit
def cut (Z:Nat->Option Loc) (N:Nat):Nat->Option Loc:=λi=>if i<N then Z i else none
theorem zbc {Z:Nat->Option Loc} {N i:Nat} {p:Loc}:cut Z N i=some p↔i<N/\Z i=some p:=by
 unfold cut;split
 .simp_all
 .constructor
  .intro h;cases h
  .intro h;omega
theorem zee (Z:Nat->Option Loc) (N:Nat):Ext (cut Z N) Z:=λ_ _ h=>(zbc.1 h).2
theorem zrL (Z:Nat->Option Loc) {N M:Nat} (h:N<=M):Ext (cut Z N) (cut Z M):=λ_ _ hi=>by
 obtain ⟨a,b⟩:=zbc.1 hi;exact zbc.2 ⟨by omega,b⟩
theorem zdj.mono {Z Z':Nat->Option Loc} {w:World} {p:Loc} {cs:List Value} {e:TypeId} {esz:Nat} {ro:Bool} (h:zdj Z w p cs e esz ro) (hx:Ext Z Z'):zdj Z' w p cs e esz ro:=by
 obtain ⟨arr,fz,a,b,c,d,hv,f⟩:=h
 exact ⟨arr,fz,a,b,c,d,λj v hj=>let ⟨u,hu,hr⟩:=hv j v hj;⟨u,hu,hr.mono hx⟩,f⟩
theorem Rel.glue {α β:Nat->Option Loc} {Hk H1:zaa} {w w':World} {lo:Nat} (hA:Rel α Hk w) (hB:Rel β H1 w') (hx:∀i,i<lo->β i=α i) (hα:∀i,lo<=i->i<H1.next->α i=none)
  (hw:∀b,b<w.heap.size->w'.heap[b]? =w.heap[b]?) (hβ:∀i p,lo<=i->β i=some p->w.heap.size<=p.b) (hg:∀i,i<H1.next->Hk.get i=H1.get i) (hle:H1.next<=Hk.next):
  Rel (λi=>if lo<=i/\i<H1.next then β i else α i) Hk w':=by
 have ea:Ext α (λi=>if lo<=i/\i<H1.next then β i else α i):=λi p hi=>by
  show (if lo<=i/\i<H1.next then β i else α i)=some p
  by_cases h:lo<=i/\i<H1.next
  .rw [hα i h.1 h.2] at hi;cases hi
  .rw [if_neg h];exact hi
 have eb:Ext β (λi=>if lo<=i/\i<H1.next then β i else α i):=λi p hi=>by
  show (if lo<=i/\i<H1.next then β i else α i)=some p
  by_cases h:lo<=i/\i<H1.next
  .rw [if_pos h];exact hi
  .rw [if_neg h]
   by_cases h2:i<lo
   .rw [<-hx i h2];exact hi
   .have:H1.next<=i:=by omega
    rw [hB.fresh i this] at hi;cases hi
 have hA':=hA.world hw
 have htop:zvJ (λi=>if lo<=i/\i<H1.next then β i else α i) Hk w':=⟨hA'.top.1,hA.top.2.1.mono ea,λx m i q hi hr hq=>by
  by_cases h:lo<=i/\i<H1.next
  .simp only [if_pos h] at hq
   have h1:=hβ i q h.1 hq
   have h2:=hA.top.1.lt m
   omega
  .simp only [if_neg h] at hq
   exact hA.top.2.2 x m i q hi hr hq⟩
 refine ⟨λi hi=> ?_,hA.below,htop,hA.mlt,λi cs e esz m ro p hgi hp=> ?_,λi st pend F ps as_ bd p hgi hp=> ?_,λi p hgi hp=> ?_,λi j p q hij hgi hgj hp hq e=> ?_⟩
 .show (if lo<=i/\i<H1.next then β i else α i)=none
  rw [if_neg (by omega)];exact hA.fresh i hi
 .by_cases h:lo<=i/\i<H1.next
  .simp only [if_pos h] at hp
   exact (hB.cells i cs e esz m ro p ((hg i h.2).symm.trans hgi) hp).mono eb
  .simp only [if_neg h] at hp
   exact (hA'.cells i cs e esz m ro p hgi hp).mono ea
 .by_cases h:lo<=i/\i<H1.next
  .simp only [if_pos h] at hp
   obtain ⟨fn,tmps,D,a,b,c⟩:=hB.loops i st pend F ps as_ bd p ((hg i h.2).symm.trans hgi) hp
   exact ⟨fn,tmps,D,a,b.mono eb,c⟩
  .simp only [if_neg h] at hp
   obtain ⟨fn,tmps,D,a,b,c⟩:=hA'.loops i st pend F ps as_ bd p hgi hp
   exact ⟨fn,tmps,D,a,b.mono ea,c⟩
 .by_cases h:lo<=i/\i<H1.next
  .simp only [if_pos h] at hp
   exact hB.defs i p ((hg i h.2).symm.trans hgi) hp
  .simp only [if_neg h] at hp
   exact hA'.defs i p hgi hp
 .by_cases h:lo<=i/\i<H1.next
  .simp only [if_pos h] at hp
   by_cases k:lo<=j/\j<H1.next
   .simp only [if_pos k] at hq
    have e1:=hg i h.2
    have e2:=hg j k.2
    have:=hB.excl i j p q hij (by rw [<-e1];exact hgi) (by rw [<-e2];exact hgj) hp hq e
    rwa [<-zaa.ro_congr e1,<-zaa.ro_congr e2,<-zaa.mate_congr e1,<-zaa.mate_congr e2] at this
   .simp only [if_neg k] at hq
    have h1:=hβ i p h.1 hp
    have h2:=hA.live hgj hq
    omega
  .simp only [if_neg h] at hp
   by_cases k:lo<=j/\j<H1.next
   .simp only [if_pos k] at hq
    have h1:=hβ j q k.1 hq
    have h2:=hA.live hgi hp
    omega
   .simp only [if_neg k] at hq
    exact hA.excl i j p q hij hgi hgj hp hq e
section
variable {P:Program} {call:Call->TypeId->zab->zaa->Option (Value×zaa)} {ops:Array Oper}
theorem zaR {L:Array Bool} {i k:Nat} (hi:i<L.size):(L.setIfInBounds i true).getD k false=if k=i then true else L.getD k false:=by
 simp only [Array.getD_eq_getD_getElem?]
 by_cases e:k=i
 .subst e;simp [hi]
 .rw [if_neg e,Array.getElem?_setIfInBounds_ne (Ne.symm e)]
theorem zmk {a:Act} {d:Option Tmp} {v:Value} {t:Nat}:(a.put d v).tmps.getD t undef=if d=some t/\t<a.tmps.size then v else a.tmps.getD t undef:=by
 cases d with
 |none=>simp [Act.put]
 |some d=>
  simp only [Act.put,Array.getD_eq_getD_getElem?]
  by_cases e:d=t
  .subst e
   by_cases h:d<a.tmps.size
   .simp [h]
   .simp [h]
  .rw [Array.getElem?_setIfInBounds_ne e,if_neg (by simp [e])]
theorem zhv {a:Act} {d:Option Tmp} {v:Value}:(a.put d v).defers=a.defers/\(a.put d v).tmps.size=a.tmps.size:=by
 cases d<;>simp [Act.put]
end
end
end Go.Ev

end

section

namespace Go.Ev
noncomputable section
open Go.RowKit
section
variable {P:Program} {call:Call->TypeId->zab->zaa->Option (Value×zaa)} {ops:Array Oper}
theorem zbv {s:Sem Value} {H H1:zaa} {v:Value} (h:zaA P s H=some (v,H1)):H1=H/\∀H',zaA P s H'=some (v,H'):=by
 unfold zaA at h⊢
 cases hs:s.val? P with
 |none=>rw [hs] at h;cases h
 |some u=>
  rw [hs] at h
  simp only at h⊢
  cases hf:Ev.flat u with
  |false=>rw [hf] at h;cases h
  |true=>rw [hf] at h;simp only [cond_true,Option.some.injEq,Prod.mk.injEq] at h;obtain ⟨rfl,rfl⟩:=h;exact ⟨rfl,λ_=>rfl⟩
theorem ziS {x:Option Value} {H H1:zaa} {v:Value} (h:zdE x H=some (v,H1)):H1=H/\∀H',zdE x H'=some (v,H'):=by
 cases x with
 |none=>cases h
 |some u=>simp only [zdE,Option.some.injEq,Prod.mk.injEq] at h;obtain ⟨rfl,rfl⟩:=h;exact ⟨rfl,λ_=>rfl⟩
theorem zeB {b:Bool} {f:zaa->Option (Value×zaa)} {H H1:zaa} {v:Value} (h:cond b (f H) none=some (v,H1)) (hf:f H=some (v,H1)->H1=H/\∀H',f H'=some (v,H')):H1=H/\∀H',cond b (f H') none=some (v,H'):=by
 cases b with
 |false=>cases h
 |true=>exact hf h
theorem zdJ {o:Op} (ho:zak o=true) {F:zab} {t:TypeId} {H H1:zaa} {v:Value} (h:opA call P F o t H=some (v,H1)):H1=H/\∀H',opA call P F o t H'=some (v,H'):=by
 cases o<;>simp only [zak,Bool.false_eq_true] at ho
 case move x=>simp only [opA,zpO,Option.some.injEq,Prod.mk.injEq] at h⊢;obtain ⟨rfl,rfl⟩:=h;simp
 case assign x=>simp only [opA,zpO,Option.some.injEq,Prod.mk.injEq] at h⊢;obtain ⟨rfl,rfl⟩:=h;simp
 case pick c a b=>
  simp only [opA] at h⊢
  cases hc:zah F c with
  |bool t=>rw [hc] at h;simp only [znl,Option.some.injEq,Prod.mk.injEq] at h⊢;obtain ⟨rfl,rfl⟩:=h;simp
  |_=>rw [hc] at h;cases h
 case extract x ix=>
  simp only [opA] at h⊢
  cases hc:zah F x with
  |tuple vs=>rw [hc] at h;exact ziS h
  |_=>rw [hc] at h;cases h
 case field t x f=>
  simp only [opA] at h⊢
  unfold zjq at h⊢
  split at h
  .exact ziS h
  .cases h
 case fieldAddr s x f=>
  simp only [opA,zbz] at h⊢
  split at h
  .split at h
   .cases h
   .cases h
   .simp only [Option.some.injEq,Prod.mk.injEq] at h
    obtain ⟨rfl,rfl⟩:=h
    exact ⟨rfl,λ_=>rfl⟩
  .cases h
 case index t x ix=>
  simp only [opA] at h⊢
  unfold zgA at h⊢
  split at h
  .split at h
   .split at h
    .exact zeB (f:=λH=>zdE _ H) h ziS
    .cases h
   .cases h
  .exact zbv h
  .cases h
 case unOp op t x=>simp only [opA] at h⊢;exact zeB (f:=λH=>zaA P _ H) h zbv
 case binOp op t x y z=>
  simp only [opA] at h⊢
  unfold zgf at h⊢
  split at h
  .split at h
   .rename_i k a k' b _ _ v' hv
    simp only [Option.some.injEq,Prod.mk.injEq] at h
    obtain ⟨rfl,rfl⟩:=h
    exact ⟨rfl,λ_=>by simp_all⟩
   .rename_i hv
    obtain ⟨h1,h2⟩:=zbv h
    exact ⟨h1,λH'=>by simpa [hv] using h2 H'⟩
  .split at h
   .rename_i v' hv
    simp only [Option.some.injEq,Prod.mk.injEq] at h
    obtain ⟨rfl,rfl⟩:=h
    exact ⟨rfl,λ_=>by simp_all⟩
   .rename_i hv
    obtain ⟨h1,h2⟩:=zeB (f:=λH=>zaA P _ H) h zbv
    exact ⟨h1,λH'=>by simpa [hv] using h2 H'⟩
end
end
end Go.Ev

end

section

namespace Go.Ev
noncomputable section
open Go.RowKit
section
variable {P:Program} {call:Call->TypeId->zab->zaa->Option (Value×zaa)} {ops:Array Oper}
def zeu (P:Program) (call:Call->TypeId->zab->zaa->Option (Value×zaa)) (ops:Array Oper) (j:Nat) (F:zab) (h:zaa) (v:Value) (F1:zab) (h1:zaa):Prop:=
 ∃o,ops[j]? =some o/\F.put o.dst v=some F1/\
  ((za6 F ops o=true/\opA call P F o.op o.type h=some (v,h1))\/(za6 F ops o=false/\v=undef/\h1=h))
theorem zft:∀(l:List Oper) (k:Nat) (F F':zab) (h h':zaa),(∀i o,l[i]? =some o->ops[k+i]? =some o)->zbx call P ops l F h=some (F',h')->
  ∃(Fs:Nat->zab) (hs:Nat->zaa) (vs:Nat->Value),Fs k=F/\hs k=h/\Fs (k+l.length)=F'/\hs (k+l.length)=h'/\∀j,k<=j->j<k+l.length->zeu P call ops j (Fs j) (hs j) (vs j) (Fs (j+1)) (hs (j+1))
 | [],k,F,F',h,h',_,he=>by
  simp only [zbx,Option.some.injEq,Prod.mk.injEq] at he
  obtain ⟨rfl,rfl⟩:=he
  exact ⟨λ_=>F,λ_=>h,λ_=>undef,rfl,rfl,rfl,rfl,λj h1 h2=>by simp at h2;omega⟩
 |o::l,k,F,F',h,h',hl,he=>by
  have ho:ops[k]? =some o:=by simpa using hl 0 o rfl
  have hl':∀i o',l[i]? =some o'->ops[k+1+i]? =some o':=λi o' hi=>by
   have:=hl (i+1) o' (by simpa using hi)
   rwa [show k+1+i=k+(i+1) by omega]
  have key:∀(v:Value) (F1:zab) (h1:zaa),F.put o.dst v=some F1->zbx call P ops l F1 h1=some (F',h')->
    ((za6 F ops o=true/\opA call P F o.op o.type h=some (v,h1))\/(za6 F ops o=false/\v=undef/\h1=h))->
    ∃(Fs:Nat->zab) (hs:Nat->zaa) (vs:Nat->Value),Fs k=F/\hs k=h/\Fs (k+(o::l).length)=F'/\hs (k+(o::l).length)=h'/\∀j,k<=j->j<k+(o::l).length->zeu P call ops j (Fs j) (hs j) (vs j) (Fs (j+1)) (hs (j+1)):=by
   intro v F1 h1 hput hrest hst
   obtain ⟨Fs,hs,vs,e1,e2,e3,e4,hj⟩:=zft l (k+1) F1 F' h1 h' hl' hrest
   refine ⟨λj=>if j=k then F else Fs j,λj=>if j=k then h else hs j,λj=>if j=k then v else vs j,if_pos rfl,if_pos rfl, ?_, ?_,λj h1' h2'=> ?_⟩
   .simp only [List.length_cons];rw [if_neg (by omega)];rw [<-e3];congr 1;omega
   .simp only [List.length_cons];rw [if_neg (by omega)];rw [<-e4];congr 1;omega
   .by_cases e:j=k
    .subst e
     show zeu P call ops j (if j=j then F else Fs j) (if j=j then h else hs j) (if j=j then v else vs j) (if j+1=j then F else Fs (j+1)) (if j+1=j then h else hs (j+1))
     rw [if_pos rfl,if_pos rfl,if_pos rfl,if_neg (Nat.succ_ne_self j),if_neg (Nat.succ_ne_self j),e1,e2]
     exact ⟨o,ho,hput,hst⟩
    .have hj':=hj j (by omega) (by simp only [List.length_cons] at h2';omega)
     have e':¬j+1=k:=by omega
     show zeu P call ops j (if j=k then F else Fs j) (if j=k then h else hs j) (if j=k then v else vs j) (if j+1=k then F else Fs (j+1)) (if j+1=k then h else hs (j+1))
     rw [if_neg e,if_neg e,if_neg e,if_neg e',if_neg e']
     exact hj'
  simp only [zbx] at he
  cases hf:za6 F ops o with
  |true=>
   rw [hf] at he
   simp only [cond_true] at he
   split at he
   .rename_i v h1 hop
    rw [za8] at he
    split at he
    .rename_i F1 hput
     exact key v F1 _ hput he (.inl ⟨hf,hop⟩)
    .cases he
   .cases he
  |false=>
   rw [hf] at he
   simp only [cond_false] at he
   split at he
   .rename_i F1 hput
    exact key undef F1 h hput he (.inr ⟨hf,rfl,rfl⟩)
   .cases he
structure zbO (P:Program) (call:Call->TypeId->zab->zaa->Option (Value×zaa)) (ops:Array Oper) (Fs:Nat->zab) (hs:Nat->zaa) (vs:Nat->Value) (T:Nat) (Z0:Nat->Option Loc) (w0:World) (a0:Act):Prop where
 calls:zcy P call
 ok:∀o,o∈ops.toList->zcx o.op=true
 le:T<=ops.size
 step:∀j,j<T->zmT P call ops Fs hs vs j
 tail:∀j,T<=j->j<ops.size->zeu P call ops j (Fs j) (hs j) (vs j) (Fs (j+1)) (hs (j+1))
 rel:Rel Z0 (hs 0) w0
 fr:FR Z0 (Fs 0) a0.tmps
 ndst:∀i j d,i<j->zbB ops i=some d->zbB ops j≠some d
 dep:∀i j oi oj,i<j->ops[i]? =some oi->ops[j]? =some oj->oi.apart ops oj=true\/((zaX ops.toList []).getD j 0).testBit i=true
 grd:∀j oj g b,ops[j]? =some oj->oj.guard=some (g,b)->g<j/\((zaX ops.toList []).getD j 0).testBit g=true
 edges:zcG ops.toList 0=true
 forced:∀i j oi oj,T<=j->i<j->ops[i]? =some oi->ops[j]? =some oj->zak oj.op=false->zak oi.op=false->((zaX ops.toList []).getD j 0).testBit i=true
variable {Fs:Nat->zab} {hs:Nat->zaa} {vs:Nat->Value} {T:Nat} {Z0:Nat->Option Loc} {w0:World} {a0:Act}
theorem zbO.put (K:zbO P call ops Fs hs vs T Z0 w0 a0) (j:Nat) (hj:j<ops.size):∃o,ops[j]? =some o/\(Fs j).put o.dst (vs j)=some (Fs (j+1)):=by
 rcases Nat.lt_or_ge j T with h|h
 .obtain ⟨o,a,b,_⟩:=K.step j h;exact ⟨o,a,b⟩
 .obtain ⟨o,a,b,_⟩:=K.tail j h hj;exact ⟨o,a,b⟩
theorem zbO.free (K:zbO P call ops Fs hs vs T Z0 w0 a0) {j:Nat} (hj:j<ops.size) {o:Oper} (ho:ops[j]? =some o) (hfree:zak o.op=true):hs (j+1)=hs j/\
  ((za6 (Fs j) ops o=true/\∀H',opA call P (Fs j) o.op o.type H'=some (vs j,H'))\/(za6 (Fs j) ops o=false/\vs j=undef)):=by
 rcases Nat.lt_or_ge j T with h|h
 .obtain ⟨o',a,b,c⟩:=K.step j h
  rw [ho] at a;cases a
  rcases c with ⟨c1,h2,c2,c3,c4⟩| ⟨c1,c2,c3⟩
  .obtain ⟨e1,e2⟩:=zdJ hfree c2
   exact ⟨by rw [c4,e1],.inl ⟨c1,e2⟩⟩
  .exact ⟨c3,.inr ⟨c1,c2⟩⟩
 .obtain ⟨o',a,b,c⟩:=K.tail j h hj
  rw [ho] at a;cases a
  rcases c with ⟨c1,c2⟩| ⟨c1,c2,c3⟩
  .obtain ⟨e1,e2⟩:=zdJ hfree c2
   exact ⟨e1,.inl ⟨c1,e2⟩⟩
  .exact ⟨c3,.inr ⟨c1,c2⟩⟩
theorem zbO.facts (K:zbO P call ops Fs hs vs T Z0 w0 a0) (j:Nat) (hj:j<=T):(∃(Z':Nat->Option Loc) (w':World) (a':Act),Rel Z' (hs j) w'/\FR Z' (Fs j) a'.tmps)/\
      ∀i,i<=j->(hs i).next<=(hs j).next/\(∀k,k<(hs i).next->(hs j).get k=(hs i).get k)/\(hs j).wlow=(hs i).wlow:=
 zlv K.calls K.ok K.step K.rel K.fr j hj
theorem zbO.all (K:zbO P call ops Fs hs vs T Z0 w0 a0):∀d,T+d<=ops.size->(∃(Z':Nat->Option Loc) (w':World) (a':Act),Rel Z' (hs (T+d)) w'/\FR Z' (Fs (T+d)) a'.tmps)/\∀i,i<=T+d->(hs i).next<=(hs (T+d)).next
 |0,_=>⟨(K.facts T (Nat.le_refl _)).1,λi hi=>((K.facts T (Nat.le_refl _)).2 i hi).1⟩
 |d+1,hd=>by
  obtain ⟨⟨Z1,w1,a1,hr,hF⟩,hall⟩:=K.all d (by omega)
  obtain ⟨o,ho,hput,h⟩:=K.tail (T+d) (by omega) (by omega)
  have hmem:o∈ops.toList:=by rw [Array.mem_toList_iff];exact Array.mem_of_getElem? ho
  rcases h with ⟨_,hop⟩| ⟨_,hv,e⟩
  .obtain ⟨Z',v',w',hv,hp⟩:=zeR K.calls hop (K.ok o hmem) hr (λx hx=>zeF hr.top.2.1 hF (zaI (K.ok o hmem) x hx))
   obtain ⟨hF',_⟩:=FR.put (hF.mono hp.ext) hv hput
   refine ⟨⟨Z',w',a1.put o.dst v',hp.rel,hF'⟩,λi hi=> ?_⟩
   by_cases ei:i=T+(d+1)
   .subst ei;exact Nat.le_refl _
   .exact Nat.le_trans (hall i (by omega)) hp.nxt
  .rw [hv] at hput
   obtain ⟨hF',_⟩:=FR.put hF (.undef Z1) hput
   have e':hs (T+(d+1))=hs (T+d):=e
   refine ⟨⟨Z1,w1,a1.put o.dst undef,by rw [e'];exact hr,hF'⟩,λi hi=> ?_⟩
   by_cases ei:i=T+(d+1)
   .subst ei;exact Nat.le_refl _
   .rw [e'];exact hall i (by omega)
theorem zbO.nx (K:zbO P call ops Fs hs vs T Z0 w0 a0) {i j:Nat} (h:i<=j) (hj:j<=ops.size):(hs i).next<=(hs j).next:=by
 rcases Nat.lt_or_ge j T with h'|h'
 .exact ((K.facts j (by omega)).2 i h).1
 .obtain ⟨d,rfl⟩:∃d,j=T+d:=⟨j-T,by omega⟩
  exact (K.all d hj).2 i h
structure zet (P:Program) (call:Call->TypeId->zab->zaa->Option (Value×zaa)) (ops:Array Oper) (Fs:Nat->zab) (hs:Nat->zaa) (vs:Nat->Value) (T:Nat) (Z0:Nat->Option Loc) (w0:World) (a0:Act):Prop where
 calls:zcy P call
 ok:∀o,o∈ops.toList->zcx o.op=true
 le:T<=ops.size
 put:∀j,j<ops.size->∃o,ops[j]? =some o/\(Fs j).put o.dst (vs j)=some (Fs (j+1))
 free:∀{j:Nat},j<ops.size->∀{o:Oper},ops[j]? =some o->zak o.op=true->hs (j+1)=hs j/\
  ((za6 (Fs j) ops o=true/\∀H',opA call P (Fs j) o.op o.type H'=some (vs j,H'))\/(za6 (Fs j) ops o=false/\vs j=undef))
 nx:∀{i j:Nat},i<=j->j<=ops.size->(hs i).next<=(hs j).next
 tail:∀j,T<=j->j<ops.size->zeu P call ops j (Fs j) (hs j) (vs j) (Fs (j+1)) (hs (j+1))
 rel:Rel Z0 (hs 0) w0
 fr:FR Z0 (Fs 0) a0.tmps
 ndst:∀i j d,i<j->zbB ops i=some d->zbB ops j≠some d
 dep:∀i j oi oj,i<j->ops[i]? =some oi->ops[j]? =some oj->oi.apart ops oj=true\/((zaX ops.toList []).getD j 0).testBit i=true
 grd:∀j oj g b,ops[j]? =some oj->oj.guard=some (g,b)->g<j/\((zaX ops.toList []).getD j 0).testBit g=true
 edges:zcG ops.toList 0=true
 forced:∀i j oi oj,T<=j->i<j->ops[i]? =some oi->ops[j]? =some oj->zak oj.op=false->zak oi.op=false->((zaX ops.toList []).getD j 0).testBit i=true
theorem zbO.gen (K:zbO P call ops Fs hs vs T Z0 w0 a0):zet P call ops Fs hs vs T Z0 w0 a0:=
 ⟨K.calls,K.ok,K.le,K.put,λhj _ ho hf=>K.free hj ho hf,λh hj=>K.nx h hj,K.tail,K.rel,K.fr,K.ndst,K.dep,K.grd,K.edges,K.forced⟩
theorem zet.frame (K:zet P call ops Fs hs vs T Z0 w0 a0):∀j,j<=ops.size->(Fs j).size=(Fs 0).size/\(Fs j).marks=(Fs 0).marks/\
      (∀t,(∀i,i<j->zbB ops i≠some t)->(Fs j).get t=(Fs 0).get t)/\(∀i t,i<j->zbB ops i=some t->(Fs j).get t=vs i):=by
 intro j
 induction j with
 |zero=>exact λ_=>⟨rfl,rfl,λ_ _=>rfl,λi t hi=>by omega⟩
 |succ j ih=>
  intro hj
  obtain ⟨s1,m1,g1,g2⟩:=ih (by omega)
  obtain ⟨o,ho,hput⟩:=K.put j (by omega)
  obtain ⟨s2,m2,g3⟩:=zkW hput (by rw [s1];exact K.fr.2.1)
  have hdj:zbB ops j=o.dst:=by simp [zbB,ho]
  refine ⟨s2.trans s1,m2.trans m1,λt ht=> ?_,λi t hi ht=> ?_⟩
  .rw [g3,if_neg (by rw [<-hdj];exact ht j (by omega))]
   exact g1 t λi hi=>ht i (by omega)
  .rw [g3]
   by_cases e:i=j
   .subst e;rw [if_pos (by rw [<-hdj];exact ht)]
   .rw [if_neg (by rw [<-hdj];exact K.ndst i j t (by omega) ht)]
    exact g2 i t (by omega) ht
structure zcu (ops:Array Oper) (hs:Nat->zaa) (vs:Nat->Value) (Z0:Nat->Option Loc) (a0:Act) (L:Array Bool) (a:Act) (Z:Nat->Option Loc):Prop where
 only:∀i,i<(hs 0).next->Z i=Z0 i
 put:∀i d,i<ops.size->L.getD i false=true->zbB ops i=some d->VR (cut Z (hs (i+1)).next) (vs i) (a.tmps.getD d undef)
 unput:∀d,(∀i,i<ops.size->L.getD i false=true->zbB ops i≠some d)->a.tmps.getD d undef=a0.tmps.getD d undef
 size:a.tmps.size=a0.tmps.size
 defers:a.defers=a0.defers
theorem zcu.next (K:zet P call ops Fs hs vs T Z0 w0 a0) {L:Array Bool} {a:Act} {Z Z2:Nat->Option Loc} (S:zcu ops hs vs Z0 a0 L a Z) {j:Nat} (hj:j<ops.size) (hLs:j<L.size) {o:Oper} (ho:ops[j]? =some o)
  (ex:Ext Z Z2) (ho2:∀i,i<(hs 0).next->Z2 i=Z0 i) {v':Value} (hv:VR (cut Z2 (hs (j+1)).next) (vs j) v'):zcu ops hs vs Z0 a0 (L.setIfInBounds j true) (a.put o.dst v') Z2:=by
 have hdj:zbB ops j=o.dst:=by simp [zbB,ho]
 refine ⟨ho2,λi d hi hL hd=> ?_,λd hd=> ?_,by rw [zhv.2];exact S.size,by rw [zhv.1];exact S.defers⟩
 .rw [zmk]
  by_cases eij:i=j
  .subst eij
   have hod:o.dst=some d:=by rw [<-hdj];exact hd
   have hsz:d<a.tmps.size:=by
    rw [S.size]
    obtain ⟨s1,_⟩:=K.frame i (by omega)
    rw [<-K.fr.1,<-s1]
    obtain ⟨o',ho',hput⟩:=K.put i hi
    rw [ho] at ho';cases ho'
    rw [hod] at hput
    simp only [zab.put] at hput
    cases hlt:Nat.blt d (Fs i).size with
    |false=>rw [hlt] at hput;cases hput
    |true=>exact Nat.le_of_ble_eq_true hlt
   rw [if_pos ⟨hod,hsz⟩]
   exact hv
  .rw [zaR hLs,if_neg eij] at hL
   have hne:¬(o.dst=some d/\d<a.tmps.size):=λh=>by
    rw [<-hdj] at h
    rcases Nat.lt_or_gt_of_ne eij with h'|h'
    .exact K.ndst i j d h' hd h.1
    .exact K.ndst j i d h' h.1 hd
   rw [if_neg hne]
   refine (S.put i d hi hL hd).mono λx p hx=> ?_
   obtain ⟨b1,b2⟩:=zbc.1 hx
   exact zbc.2 ⟨b1,ex x p b2⟩
 .have hnj:¬(o.dst=some d/\d<a.tmps.size):=λh=>hd j hj (by rw [zaR hLs,if_pos rfl]) (by rw [hdj];exact h.1)
  rw [zmk,if_neg hnj]
  refine S.unput d λi hi hL=>hd i hi ?_
  rw [zaR hLs];split
  .rfl
  .exact hL
theorem zet.ext0 (K:zet P call ops Fs hs vs T Z0 w0 a0) {Z:Nat->Option Loc} (h:∀i,i<(hs 0).next->Z i=Z0 i) {j:Nat} (hj:j<=ops.size):Ext Z0 (cut Z (hs j).next):=λd p hp=>by
 have hd:d<(hs 0).next:=by
  rcases Nat.lt_or_ge d (hs 0).next with h|h
  .exact h
  .rw [K.rel.fresh d h] at hp;cases hp
 exact zbc.2 ⟨Nat.lt_of_lt_of_le hd (K.nx (Nat.zero_le j) hj),(h d hd).trans hp⟩
theorem zcu.look (K:zet P call ops Fs hs vs T Z0 w0 a0) {L:Array Bool} {a:Act} {Z:Nat->Option Loc} (S:zcu ops hs vs Z0 a0 L a Z) (hD:ziX ops L) {j:Nat} (hj:j<ops.size) (hLj:L.getD j false=false) {o:Oper} (ho:ops[j]? =some o)
  (haft:∀e,e∈o.after.toList->Region.binds .any e=true->L.getD e.on false=true):
  (∀x,x∈o.op.operands.toList->VR (cut Z (hs j).next) (zah (Fs j) x) (a.eval x))/\Region.wanted o (yielded ops a.tmps)=za6 (Fs j) ops o:=by
 have hbef:∀i,((zaX ops.toList []).getD j 0).testBit i=true->L.getD i false=true:=λi hb=>zdr hD K.edges j o i ho haft hb
 obtain ⟨_,_,g1,g2⟩:=K.frame j (by omega)
 have hmem:o∈ops.toList:=by rw [Array.mem_toList_iff];exact Array.mem_of_getElem? ho
 have ext0:=K.ext0 S.only (show j<=ops.size by omega)
 have hslot:∀i t,i<j->zbB ops i=some t->L.getD i false=true->VR (cut Z (hs j).next) ((Fs j).get t) (a.tmps.getD t undef):=λi t hi ht hL=>by
  rw [g2 i t hi ht]
  exact (S.put i t (by omega) hL ht).mono (zrL Z (K.nx (show i+1<=j by omega) (by omega)))
 refine ⟨λx hx=> ?_,zjp (Z:=cut Z (hs j).next) λg b d hg hd=> ?_⟩
 .have hokx:=zaI (K.ok o hmem) x hx
  cases x with
  |const v=>exact (zeF K.rel.top.2.1 K.fr hokx).mono ext0
  |global g=>exact (zeF K.rel.top.2.1 K.fr hokx).mono ext0
  |func f=>exact (zeF K.rel.top.2.1 K.fr hokx).mono ext0
  |tmp t=>
   have hlook:t∈o.looksAt ops:=List.mem_append_left _ (List.mem_filterMap.2 ⟨.tmp t,hx,rfl⟩)
   show VR _ ((Fs j).get t) (a.tmps.getD t undef)
   by_cases hex:∃i,i<j/\zbB ops i=some t
   .obtain ⟨i,hi,ht⟩:=hex
    cases hoi:ops[i]? with
    |none=>simp [zbB,hoi] at ht
    |some oi=>
     have hdi:oi.dst=some t:=by simpa [zbB,hoi] using ht
     rcases K.dep i j oi o hi hoi ho with h|h
     .exact absurd hlook ((Oper.apart_spec h).1 t hdi)
     .exact hslot i t hi ht (hbef i h)
   .have hno:∀i,i<j->zbB ops i≠some t:=λi hi ht=>hex ⟨i,hi,ht⟩
    rw [g1 t hno,S.unput t ?_]
    .exact (K.fr.2.2 t).mono ext0
    .intro i hi hL ht
     rcases Nat.lt_trichotomy i j with h|h|h
     .exact hno i h ht
     .subst h;rw [hLj] at hL;cases hL
     .cases hoi:ops[i]? with
      |none=>simp [zbB,hoi] at ht
      |some oi=>
       have hdi:oi.dst=some t:=by simpa [zbB,hoi] using ht
       rcases K.dep j i o oi h ho hoi with h'|h'
       .exact absurd hlook ((Oper.apart_spec h').2.2 t hdi)
       .have:=zdr hD K.edges i oi j hoi (λe he hb=>hD i oi hL hoi e he hb) h'
        rw [hLj] at this;cases this
 .obtain ⟨h1,h2⟩:=K.grd j o g b ho hg
  exact hslot g d h1 hd (hbef g h2)
end
end
end Go.Ev

end

section

namespace Go.Ev
noncomputable section
open Go.RowKit
theorem Rel.init {Z0 Z':Nat->Option Loc} {H0 H1:zaa} {w w':World} (h0:Rel Z0 H0 w) (h1:Rel Z' H1 w') (hle:H0.next<=H1.next) (hg:∀i,i<H0.next->H1.get i=H0.get i):Rel Z0 H1 w:=by
 have hlt:∀i p,Z0 i=some p->i<H0.next:=λi p hp=>by
  rcases Nat.lt_or_ge i H0.next with h|h
  .exact h
  .rw [h0.fresh i h] at hp;cases hp
 have htop:zvJ Z0 H1 w:=⟨h0.top.1,h0.top.2.1,λx m i q hi hr hq=>by
  have e:=hg i (hlt i q hq)
  exact h0.top.2.2 x m i q (by rw [<-e];exact hi) (by rw [<-zaa.ro_congr e];exact hr) hq⟩
 refine ⟨λi hi=>h0.fresh i (by omega),h1.below,htop,h1.mlt,λi cs e esz m ro p hgi hp=> ?_,λi st pend F ps as_ bd p hgi hp=> ?_,λi p hgi hp=> ?_,λi j p q hij hgi hgj hp hq e=> ?_⟩
 .exact h0.cells i cs e esz m ro p ((hg i (hlt i p hp)).symm.trans hgi) hp
 .exact h0.loops i st pend F ps as_ bd p ((hg i (hlt i p hp)).symm.trans hgi) hp
 .exact h0.defs i p ((hg i (hlt i p hp)).symm.trans hgi) hp
 .have e1:=hg i (hlt i p hp)
  have e2:=hg j (hlt j q hq)
  have:=h0.excl i j p q hij (by rw [<-e1];exact hgi) (by rw [<-e2];exact hgj) hp hq e
  rwa [<-zaa.ro_congr e1,<-zaa.ro_congr e2,<-zaa.mate_congr e1,<-zaa.mate_congr e2] at this
theorem Rel.bare (Z:Nat->Option Loc) {N:Nat} (w:World) (hl:LaidG w) (hm:zmS (cut Z N)):Rel (cut Z N) {t:= .leaf,next:=N,wlow:=N} w where
 fresh i hi:=by unfold cut;rw [if_neg (by show ¬i<N;exact Nat.not_lt.2 hi)]
 below i hi:=absurd rfl hi
 top:=⟨hl,hm,λ_ _ i _ hi=>absurd rfl hi⟩
 mlt:=trivial
 cells i cs e esz m ro p hg:=by simp [zaa.get,T.get_leaf] at hg
 loops i st pend F ps a b p hg:=by simp [zaa.get,T.get_leaf] at hg
 defs i p hg:=by simp [zaa.get,T.get_leaf] at hg
 excl i j p q _ hi:=absurd rfl hi
structure zlC (w w':World):Prop where
 still:∀b,b<w.heap.size->w'.heap[b]? =w.heap[b]?
 grown:w.heap.size<=w'.heap.size
 os:w'.os=w.os
 tape:w'.tape=w.tape
 output:Out w w'
theorem zaK.idle {Z:Nat->Option Loc} {H:zaa} {w w':World} (hr:Rel Z H w) (h:zlC w w'):zaK Z H w Z H w':=
 ⟨.refl _,λ_ _=>rfl,hr.world h.still,h.os,h.tape,h.output,h.grown,Nat.le_refl _,Nat.le_refl _,λ_ _ _=>rfl,λT N _ hN hμ=>⟨λb hb=>h.still b (by omega),hμ⟩⟩
structure zd0 (ops:Array Oper) (hs:Nat->zaa) (T:Nat) (Z0:Nat->Option Loc) (w0:World) (L:Array Bool) (w:World) (Z:Nat->Option Loc):Prop where
 rel:∀k,k<=T->Rel (cut Z (hs k).next) (hs k) w
 un:∀i,i<T->L.getD i false=false->∀d,(hs i).next<=d->d<(hs (i+1)).next->Z d=none
 top:∀d,(hs T).next<=d->Z d=none
 far:∀i o,T<=i->ops[i]? =some o->zak o.op=false->L.getD i false=false
 idle:zlC w0 w
 news:∀i p,(hs 0).next<=i->Z i=some p->w0.heap.size<=p.b
structure zbQ (ops:Array Oper) (hs:Nat->zaa) (T:Nat) (Z0:Nat->Option Loc) (w0:World) (L:Array Bool) (w:World) (Z:Nat->Option Loc) (j:Nat):Prop where
 ge:T<=j
 le:j<=ops.size
 listed:∀i o,ops[i]? =some o->zak o.op=false->(L.getD i false=true↔i<j)
 post:zaK Z0 (hs 0) w0 Z (hs j) w
section
variable {P:Program} {call:Call->TypeId->zab->zaa->Option (Value×zaa)} {ops:Array Oper}
variable {Fs:Nat->zab} {hs:Nat->zaa} {vs:Nat->Value} {T:Nat} {Z0:Nat->Option Loc} {w0:World} {a0:Act}
theorem zet.same (K:zet P call ops Fs hs vs T Z0 w0 a0) (j:Nat):∀d,j+d<=ops.size->(∀i o,j<=i->i<j+d->ops[i]? =some o->zak o.op=true)->hs (j+d)=hs j
 |0,_,_=>rfl
 |d+1,hd,h=>by
  have ho:ops[j+d]? =some ops[j+d]:=Array.getElem?_eq_getElem (by omega)
  have:=(K.free (by omega) ho (h (j+d) _ (by omega) (by omega) ho)).1
  exact this.trans (K.same j d (by omega) λi o h1 h2 h3=>h i o h1 (by omega) h3)
def St (ops:Array Oper) (hs:Nat->zaa) (vs:Nat->Value) (T:Nat) (Z0:Nat->Option Loc) (w0:World) (a0:Act) (L:Array Bool) (a:Act) (w:World):Prop:=
 ∃Z,zcu ops hs vs Z0 a0 L a Z/\(zd0 ops hs T Z0 w0 L w Z\/∃j,zbQ ops hs T Z0 w0 L w Z j)
theorem St.init (K:zbO P call ops Fs hs vs T Z0 w0 a0) {L:Array Bool} (hL:∀i,L.getD i false=false):St ops hs vs T Z0 w0 a0 L a0 w0:=by
 refine ⟨Z0,⟨λ_ _=>rfl,λi d _ h=>(by rw [hL] at h;cases h),λ_ _=>rfl,rfl,rfl⟩,.inl ⟨λk hk=> ?_,λi hi _ d h1 h2=>K.rel.fresh d (Nat.le_trans (K.nx (Nat.zero_le i) (Nat.le_trans (by omega) K.le)) h1),λd hd=>K.rel.fresh d (Nat.le_trans (K.nx (Nat.zero_le T) K.le) hd),λi o _ _ _=>hL i,⟨λ_ _=>rfl,Nat.le_refl _,rfl,rfl,.refl _⟩,λi p hi hp=>(by rw [K.rel.fresh i hi] at hp;cases hp)⟩⟩
 obtain ⟨⟨Z',w',a',hr,_⟩,hall⟩:=K.facts k hk
 obtain ⟨h1,h2,_⟩:=hall 0 (Nat.zero_le _)
 have e:cut Z0 (hs k).next=Z0:=by
  funext i
  unfold cut
  split
  .rfl
  .exact (K.rel.fresh i (by omega)).symm
 rw [e]
 exact K.rel.init hr h1 h2
theorem zd0.turn (K:zbO P call ops Fs hs vs T Z0 w0 a0) {L:Array Bool} {a:Act} {w:World} {Z:Nat->Option Loc} (S:zcu ops hs vs Z0 a0 L a Z) (I:zd0 ops hs T Z0 w0 L w Z)
  (hall:∀i o,i<T->ops[i]? =some o->zak o.op=false->L.getD i false=true):zbQ ops hs T Z0 w0 L w Z T:=by
 obtain ⟨hn,hget,hw⟩:=(K.facts T (Nat.le_refl _)).2 0 (Nat.zero_le _)
 have e:cut Z (hs T).next=Z:=by
  funext i
  unfold cut
  split
  .rfl
  .exact (I.top i (by omega)).symm
 have hr:=I.rel T (Nat.le_refl _)
 rw [e] at hr
 refine ⟨Nat.le_refl _,K.le,λi o ho hf=>⟨λh=> ?_,λh=>hall i o h ho hf⟩,λd p hp=> ?_,λi hi=>S.only i hi,hr,I.idle.os,I.idle.tape,I.idle.output,I.idle.grown,by rw [hw];exact Nat.le_refl _,hn,λi _ hi=>hget i hi,λS' N hS hN hμ=>⟨λb hb=>I.idle.still b (by omega),λi p hi hp=> ?_⟩⟩
 .rcases Nat.lt_or_ge i T with h'|h'
  .exact h'
  .rw [I.far i o h' ho hf] at h;cases h
 .exact (zbc.1 (K.gen.ext0 S.only K.le d p hp)).2
 .rcases Nat.lt_or_ge i (hs 0).next with h|h
  .rw [S.only i h] at hp;exact hμ i p hi hp
  .exact Nat.le_trans hN (I.news i p h hp)
theorem zd0.idles {L:Array Bool} {w w':World} {Z:Nat->Option Loc} (I:zd0 ops hs T Z0 w0 L w Z) (hi:zlC w w') {j:Nat} {o:Oper} (ho:ops[j]? =some o) (hf:zak o.op=true) (hLs:j<L.size):
  zd0 ops hs T Z0 w0 (L.setIfInBounds j true) w' Z:=by
 refine ⟨λk hk=>(I.rel k hk).world hi.still,λi h1 h2=>I.un i h1 ?_,I.top,λi oi h1 h2 h3=> ?_,⟨λb hb=>(hi.still b (Nat.lt_of_lt_of_le hb I.idle.grown)).trans (I.idle.still b hb),Nat.le_trans I.idle.grown hi.grown,hi.os.trans I.idle.os,hi.tape.trans I.idle.tape,hi.output.trans I.idle.output⟩,I.news⟩
 .rw [zaR hLs] at h2
  split at h2
  .cases h2
  .exact h2
 .rw [zaR hLs]
  split
  .rename_i e;subst e;rw [ho] at h2;cases h2;rw [hf] at h3;cases h3
  .exact I.far i oi h1 h2 h3
theorem zbQ.idles {L:Array Bool} {w w':World} {Z:Nat->Option Loc} {j':Nat} (I:zbQ ops hs T Z0 w0 L w Z j') (hi:zlC w w') {j:Nat} {o:Oper} (ho:ops[j]? =some o) (hf:zak o.op=true) (hLs:j<L.size):
  zbQ ops hs T Z0 w0 (L.setIfInBounds j true) w' Z j':=by
 refine ⟨I.ge,I.le,λi oi h2 h3=> ?_,I.post.trans (zaK.idle I.post.rel hi)⟩
 rw [zaR hLs,if_neg ?_]
 .exact I.listed i oi h2 h3
 .intro e;subst e;rw [ho] at h2;cases h2;rw [hf] at h3;cases h3
theorem St.free (K:zet P call ops Fs hs vs T Z0 w0 a0) {L:Array Bool} {a:Act} {w:World} (hS:St ops hs vs T Z0 w0 a0 L a w) (hD:ziX ops L) {j:Nat} (hj:j<ops.size) (hLj:L.getD j false=false) (hLs:j<L.size) {o:Oper} (ho:ops[j]? =some o)
  (haft:∀e,e∈o.after.toList->Region.binds .any e=true->L.getD e.on false=true) (hf:zak o.op=true) {rd:Option Nat} {n:Nat} {Q:Exit->Act->World->Prop} {C:Act->World->Prop}
  (hC:∀a' w',St ops hs vs T Z0 w0 a0 (L.setIfInBounds j true) a' w'->C a' w'):wpOpIn (FNC rd) n P ops Q j C a w:=by
 obtain ⟨Z,S,hph⟩:=hS
 obtain ⟨hρ,hfetch⟩:=S.look K hD hj hLj ho haft
 have hmem:o∈ops.toList:=by rw [Array.mem_toList_iff];exact Array.mem_of_getElem? ho
 have go:∀v' w',zlC w w'->VR (cut Z (hs (j+1)).next) (vs j) v'->C (a.put o.dst v') w':=λv' w' hi hv=>
  hC _ _ ⟨Z,S.next K hj hLs ho (.refl _) S.only hv,hph.imp (λI=>I.idles hi ho hf hLs) (λ⟨j',I⟩=>⟨j',I.idles hi ho hf hLs⟩)⟩
 obtain ⟨hnx,hst⟩:=K.free hj ho hf
 unfold wpOpIn
 simp only [ho]
 rw [hfetch]
 rcases hst with ⟨hft,hany⟩| ⟨hft,hv⟩
 .rw [hft,if_pos rfl]
  have hlaid:LaidG w:=by
   rcases hph with I| ⟨j',I⟩
   .exact (I.rel 0 (Nat.zero_le _)).top.1
   .exact I.post.rel.top.1
  have hbare:=Rel.bare Z (N:=(hs j).next) w hlaid (K.rel.top.2.1.mono (K.ext0 S.only (by omega)))
  refine zdb K.calls (hany _) (K.ok o hmem) hbare hρ λZ' v' w' hv hp=> ?_
  obtain ⟨q1,_⟩:=zaK.quiet hbare hp (Nat.le_refl _)
  refine go v' w' ⟨q1,hp.size,hp.os,hp.tape,hp.output⟩ (hv.mono λx p hx=> ?_)
  have hxl:x<(hs j).next:=by
   rcases Nat.lt_or_ge x (hs j).next with h|h
   .exact h
   .rw [hp.rel.fresh x h] at hx;cases hx
  rw [hp.only x hxl] at hx
  rw [hnx];exact hx
 .rw [hft,if_neg (by simp)]
  exact ⟨λ_ _=>trivial,go undef w ⟨λ_ _=>rfl,Nat.le_refl _,rfl,rfl,.refl _⟩ (by rw [hv];exact .undef _)⟩
theorem zd0.next (K:zbO P call ops Fs hs vs T Z0 w0 a0) {L:Array Bool} {a:Act} {w:World} {Z:Nat->Option Loc} (S:zcu ops hs vs Z0 a0 L a Z) (I:zd0 ops hs T Z0 w0 L w Z) {j:Nat} (hj:j<T) (hLj:L.getD j false=false) (hLs:j<L.size) {o:Oper} (ho:ops[j]? =some o)
  {Z':Nat->Option Loc} {h1:zaa} {w':World} {v':Value} (hp:zaK (cut Z (hs j).next) {hs j with wlow:=(hs j).next} w Z' h1 w') (hq:(hs j).next<=h1.wlow) (e:hs (j+1)={h1 with wlow:=(hs j).wlow}) (hv:VR Z' (vs j) v'):
  St ops hs vs T Z0 w0 a0 (L.setIfInBounds j true) (a.put o.dst v') w':=by
 have hTN:=K.le
 obtain ⟨q1,q2⟩:=zaK.quiet ((I.rel j (by omega)).wlow _) hp hq
 have hB:Rel Z' (hs (j+1)) w':=by rw [e];exact hp.rel.wlow _
 have honly:∀i,i<(hs j).next->Z' i=Z i:=λi hi=>by
  rw [hp.only i hi];unfold cut;rw [if_pos hi]
 have hun:∀i,(hs j).next<=i->i<(hs (j+1)).next->Z i=none:=I.un j hj hLj
 generalize hμ2:(λi=>if (hs j).next<=i/\i<(hs (j+1)).next then Z' i else Z i)=Z2
 have m2:∀i,Z2 i=if (hs j).next<=i/\i<(hs (j+1)).next then Z' i else Z i:=λi=>by rw [<-hμ2]
 have ex:Ext Z Z2:=λi p hi=>by
  rw [m2]
  by_cases h:(hs j).next<=i/\i<(hs (j+1)).next
  .rw [hun i h.1 h.2] at hi;cases hi
  .rw [if_neg h];exact hi
 have hjj:(hs j).next<=(hs (j+1)).next:=K.nx (Nat.le_succ j) (show j+1<=ops.size by omega)
 have h0j:(hs 0).next<=(hs j).next:=K.nx (Nat.zero_le j) (by omega)
 have hjT:(hs (j+1)).next<=(hs T).next:=K.nx (show j+1<=T by omega) K.le
 refine ⟨Z2,S.next K.gen (by omega) hLs ho ex (λi hi=>by rw [m2,if_neg (by omega)];exact S.only i hi) (hv.mono λx p hx=> ?_),.inl ⟨λk hk=> ?_,λi hi hL d h1 h2=> ?_,λd hd=> ?_,λi oi h1 h2 h3=> ?_,⟨λb hb=>(q1 b (Nat.lt_of_lt_of_le hb I.idle.grown)).trans (I.idle.still b hb),Nat.le_trans I.idle.grown hp.size,hp.os.trans I.idle.os,hp.tape.trans I.idle.tape,hp.output.trans I.idle.output⟩,λi p hi h=> ?_⟩⟩
 .have hxl:x<(hs (j+1)).next:=by
   rcases Nat.lt_or_ge x (hs (j+1)).next with h|h
   .exact h
   .rw [hB.fresh x h] at hx;cases hx
  refine zbc.2 ⟨hxl, ?_⟩
  rw [m2]
  by_cases h:(hs j).next<=x
  .rw [if_pos ⟨h,hxl⟩];exact hx
  .rw [if_neg (by omega),<-honly x (by omega)];exact hx
 .by_cases hkj:k<=j
  .have hnk:=K.nx hkj (by omega)
   have ec:cut Z2 (hs k).next=cut Z (hs k).next:=by
    funext i;unfold cut
    split
    .rw [m2,if_neg (by omega)]
    .rfl
   rw [ec]
   exact (I.rel k hk).world q1
  .have hnk:=K.nx (show j+1<=k by omega) (show k<=ops.size by omega)
   have hA:=I.rel k hk
   have:=Rel.glue (lo:=(hs j).next) hA hB (λi hi=>by rw [honly i hi];unfold cut;rw [if_pos (by omega)])
    (λi h1 h2=>by unfold cut;rw [if_pos (by omega)];exact hun i h1 h2) q1 q2 (λi hi=>((K.facts k hk).2 (j+1) (by omega)).2.1 i hi) hnk
   have ec:cut Z2 (hs k).next=(λi=>if (hs j).next<=i/\i<(hs (j+1)).next then Z' i else cut Z (hs k).next i):=by
    funext i;unfold cut
    by_cases h:(hs j).next<=i/\i<(hs (j+1)).next
    .rw [if_pos (by omega),m2,if_pos h,if_pos h]
    .rw [m2,if_neg h,if_neg h]
   rw [ec];exact this
 .rw [zaR hLs] at hL
  by_cases eij:i=j
  .rw [if_pos eij] at hL;cases hL
  .rw [if_neg eij] at hL
   rw [m2,if_neg ?_]
   .exact I.un i hi hL d h1 h2
   .rcases Nat.lt_or_ge i j with h|h
    .have:=K.nx (show i+1<=j by omega) (by omega);omega
    .have:=K.nx (show j+1<=i by omega) (by omega);omega
 .rw [m2,if_neg (by omega)];exact I.top d hd
 .rw [zaR hLs,if_neg (by omega)];exact I.far i oi h1 h2 h3
 .rw [m2] at h
  by_cases hh:(hs j).next<=i/\i<(hs (j+1)).next
  .rw [if_pos hh] at h
   exact Nat.le_trans I.idle.grown (q2 i p hh.1 h)
  .rw [if_neg hh] at h;exact I.news i p hi h
end
end
end Go.Ev

end

section

namespace Go.Ev
noncomputable section
open Go.RowKit
section
variable {P:Program} {call:Call->TypeId->zab->zaa->Option (Value×zaa)} {ops:Array Oper}
theorem zfc {L:Array Bool} {i fuel:Nat} (hi:i<L.size) (hL:L.getD i false=false) (hc:L.toList.count false<=fuel+1):(L.setIfInBounds i true).toList.count false<=fuel:=by
 have hli:L.toList[i]'(by simpa using hi)=false:=by
  rw [Array.getD_eq_getD_getElem?,Array.getElem?_eq_getElem hi] at hL;simpa using hL
 rw [Array.toList_setIfInBounds,List.count_set (by simpa using hi),hli]
 simp only [beq_self_eq_true,if_true,show (true==false)=false from rfl,Bool.false_eq_true,if_false]
 omega
theorem zgm {L:Array Bool} {i:Nat} (hi:i<L.size) (hL:L.getD i false=false):0<L.toList.count false:=by
 refine List.count_pos_iff.2 ?_
 rw [Array.getD_eq_getD_getElem?,Array.getElem?_eq_getElem hi] at hL
 simp only [Option.getD_some] at hL
 rw [<-hL];simp
theorem ziX.set {L:Array Bool} (hD:ziX ops L) {j:Nat} {o:Oper} (ho:ops[j]? =some o) (hLs:j<L.size) (haft:∀e,e∈o.after.toList->Region.binds .any e=true->L.getD e.on false=true):ziX ops (L.setIfInBounds j true):=by
 intro k o' hk hko e he hb
 rw [zaR hLs] at hk⊢
 split
 .rfl
 .by_cases ekj:k=j
  .subst ekj;rw [ho] at hko;cases hko;exact haft e he hb
  .rw [if_neg ekj] at hk;exact hD k o' hk hko e he hb
variable {Fs:Nat->zab} {hs:Nat->zaa} {vs:Nat->Value} {T:Nat} {Z0:Nat->Option Loc} {w0:World} {a0:Act}
theorem zd0.step (K:zbO P call ops Fs hs vs T Z0 w0 a0) {L:Array Bool} {a:Act} {w:World} {Z:Nat->Option Loc} (S:zcu ops hs vs Z0 a0 L a Z) (I:zd0 ops hs T Z0 w0 L w Z) (hD:ziX ops L) {j:Nat} (hj:j<T) (hLj:L.getD j false=false) (hLs:j<L.size) {o:Oper} (ho:ops[j]? =some o)
  (haft:∀e,e∈o.after.toList->Region.binds .any e=true->L.getD e.on false=true) {rd:Option Nat} {n:Nat} {Q:Exit->Act->World->Prop} {C:Act->World->Prop}
  (hC:∀a' w',St ops hs vs T Z0 w0 a0 (L.setIfInBounds j true) a' w'->C a' w'):wpOpIn (FNC rd) n P ops Q j C a w:=by
 have hTN:=K.le
 obtain ⟨hρ,hfetch⟩:=S.look K.gen hD (by omega) hLj ho haft
 have hmem:o∈ops.toList:=by rw [Array.mem_toList_iff];exact Array.mem_of_getElem? ho
 obtain ⟨o',ho',hput,hst⟩:=K.step j hj
 rw [ho] at ho';cases ho'
 unfold wpOpIn
 simp only [ho]
 rw [hfetch]
 rcases hst with ⟨hf,h1,hop,hq,e⟩| ⟨hf,hv,e⟩
 .rw [hf,if_pos rfl]
  exact zdb K.calls hop (K.ok o hmem) ((I.rel j (by omega)).wlow _) hρ λZ' v' w' hv hp=>hC _ _ (I.next K S hj hLj hLs ho hp hq e hv)
 .rw [hf,if_neg (by simp)]
  have hrj:=I.rel j (by omega)
  have htop:(hs j).next<=(hs j).next:=Nat.le_refl _
  exact ⟨λ_ _=>trivial,hC _ _ (I.next K S hj hLj hLs ho (v':=undef) (zaK.refl (hrj.wlow _)) htop (by rw [e]) (by rw [hv];exact .undef _))⟩
theorem zbQ.step2 (K:zet P call ops Fs hs vs T Z0 w0 a0) {L:Array Bool} {a:Act} {w:World} {Z:Nat->Option Loc} (S:zcu ops hs vs Z0 a0 L a Z) {j':Nat} (I:zbQ ops hs T Z0 w0 L w Z j') (hD:ziX ops L) {j:Nat} (hj:j<ops.size) (hLj:L.getD j false=false) (hLs:j<L.size) {o:Oper} (ho:ops[j]? =some o)
  (haft:∀e,e∈o.after.toList->Region.binds .any e=true->L.getD e.on false=true) (hnf:zak o.op=false) {rd:Option Nat} {n:Nat} {Q:Exit->Act->World->Prop} {C:Act->World->Prop}
  (hC:∀a' w' Z' j',zcu ops hs vs Z0 a0 (L.setIfInBounds j true) a' Z'->zbQ ops hs T Z0 w0 (L.setIfInBounds j true) w' Z' j'->C a' w'):wpOpIn (FNC rd) n P ops Q j C a w:=by
 obtain ⟨hρ,hfetch⟩:=S.look K hD hj hLj ho haft
 have hmem:o∈ops.toList:=by rw [Array.mem_toList_iff];exact Array.mem_of_getElem? ho
 have hge:j'<=j:=by
  rcases Nat.lt_or_ge j j' with h|h
  .have:=(I.listed j o ho hnf).2 h;rw [hLj] at this;cases this
  .exact h
 have hTj:T<=j:=Nat.le_trans I.ge hge
 have hdone:∀i oi,i<j->ops[i]? =some oi->zak oi.op=false->L.getD i false=true:=λi oi hi hoi hfi=>
  zdr hD K.edges j o i ho haft (K.forced i j oi o hTj hi hoi ho hnf hfi)
 have hsame:hs j=hs j':=by
  obtain ⟨d,rfl⟩:∃d,j=j'+d:=⟨j-j',by omega⟩
  refine K.same j' d (by omega) λi oi h1 h2 h3=> ?_
  cases hfi:zak oi.op with
  |true=>rfl
  |false=>have:=(I.listed i oi h3 hfi).1 (hdone i oi h2 h3 hfi);omega
 have hpost:zaK Z0 (hs 0) w0 Z (hs j) w:=by rw [hsame];exact I.post
 have h0j:=K.nx (Nat.zero_le j) (show j<=ops.size by omega)
 have hlist:∀i oi,ops[i]? =some oi->zak oi.op=false->((L.setIfInBounds j true).getD i false=true↔i<j+1):=λi oi hoi hfi=>by
  rw [zaR hLs]
  by_cases e:i=j
  .subst e;simp
  .rw [if_neg e,I.listed i oi hoi hfi]
   constructor
   .intro h;omega
   .intro h;exact (I.listed i oi hoi hfi).1 (hdone i oi (by omega) hoi hfi)
 obtain ⟨o',ho',hput,hst⟩:=K.tail j hTj hj
 rw [ho] at ho';cases ho'
 unfold wpOpIn
 simp only [ho]
 rw [hfetch]
 rcases hst with ⟨hf,hop⟩| ⟨hf,hv,e⟩
 .rw [hf,if_pos rfl]
  refine zdb K.calls hop (K.ok o hmem) hpost.rel (λx hx=>(hρ x hx).mono (zee Z _)) λZ' v' w' hv hp=> ?_
  refine hC _ _ Z' (j+1) (S.next K hj hLs ho hp.ext (λi hi=>(hp.only i (by omega)).trans (S.only i hi)) (hv.mono λx p hx=>zbc.2 ⟨?_,hx⟩)) ⟨Nat.le_succ_of_le hTj,hj,hlist,hpost.trans hp⟩
  rcases Nat.lt_or_ge x (hs (j+1)).next with h|h
  .exact h
  .rw [hp.rel.fresh x h] at hx;cases hx
 .rw [hf,if_neg (by simp)]
  exact ⟨λ_ _=>trivial,hC _ _ Z (j+1) (S.next K hj hLs ho (.refl _) S.only (by rw [hv];exact .undef _)) ⟨Nat.le_succ_of_le hTj,hj,hlist,by rw [e];exact hpost⟩⟩
theorem zbQ.step (K:zet P call ops Fs hs vs T Z0 w0 a0) {L:Array Bool} {a:Act} {w:World} {Z:Nat->Option Loc} (S:zcu ops hs vs Z0 a0 L a Z) {j':Nat} (I:zbQ ops hs T Z0 w0 L w Z j') (hD:ziX ops L) {j:Nat} (hj:j<ops.size) (hLj:L.getD j false=false) (hLs:j<L.size) {o:Oper} (ho:ops[j]? =some o)
  (haft:∀e,e∈o.after.toList->Region.binds .any e=true->L.getD e.on false=true) (hnf:zak o.op=false) {rd:Option Nat} {n:Nat} {Q:Exit->Act->World->Prop} {C:Act->World->Prop}
  (hC:∀a' w',St ops hs vs T Z0 w0 a0 (L.setIfInBounds j true) a' w'->C a' w'):wpOpIn (FNC rd) n P ops Q j C a w:=zbQ.step2 K S I hD hj hLj hLs ho haft hnf λa' w' Z' j' S' I'=>hC a' w' ⟨Z',S',.inr ⟨j',I'⟩⟩
theorem zvX (K:zbO P call ops Fs hs vs T Z0 w0 a0) (hM:MR Z0 (Fs 0).marks a0.defers)
  {rd:Option Nat} {n:Nat} {Q:Exit->Act->World->Prop} (hQ:∀(Z':Nat->Option Loc) (a':Act) (w':World),FR Z' (Fs ops.size) a'.tmps->MR Z' (Fs ops.size).marks a'.defers->zaK Z0 (hs 0) w0 Z' (hs ops.size) w'->Q .normal a' w'):
  ∀(fuel:Nat) (L:Array Bool) (a:Act) (w:World),L.size=ops.size->L.toList.count false<=fuel->ziX ops L->St ops hs vs T Z0 w0 a0 L a w->wpAnyIn (FNC rd) n P .any ops Q fuel L a w:=by
 have nil:∀(L:Array Bool) (a:Act) (w:World),L.size=ops.size->St ops hs vs T Z0 w0 a0 L a w->Region.ready .any ops L= []->Q .normal a w:=by
  intro L a w hLs ⟨Z,S,hph⟩ hnil
  have hall:=ze8 K.edges hLs hnil
  have hidx:∀i o,ops[i]? =some o->i<ops.size:=λi o h=>(Array.getElem?_eq_some_iff.1 h).1
  obtain ⟨j,I⟩:∃j,zbQ ops hs T Z0 w0 L w Z j:=by
   rcases hph with I|I
   .exact ⟨T,I.turn K S λi o _ ho _=>hall i (hidx i o ho)⟩
   .exact I
  have hsame:hs ops.size=hs j:=by
   have hle:=I.le
   obtain ⟨d,hd⟩:∃d,ops.size=j+d:=⟨ops.size-j,by omega⟩
   rw [hd]
   refine K.gen.same j d (by omega) λi oi h1 h2 h3=> ?_
   cases hfi:zak oi.op with
   |true=>rfl
   |false=>have:=(I.listed i oi h3 hfi).1 (hall i (hidx i oi h3));omega
  have hpost:zaK Z0 (hs 0) w0 Z (hs ops.size) w:=by rw [hsame];exact I.post
  obtain ⟨s1,m1,g1,g2⟩:=K.gen.frame ops.size (Nat.le_refl _)
  refine hQ Z a w ⟨?_, ?_,λt=> ?_⟩ (by rw [m1,S.defers];exact hM.mono hpost.ext) hpost
  .rw [s1,S.size];exact K.fr.1
  .rw [s1];exact K.fr.2.1
  .by_cases hex:∃i,i<ops.size/\zbB ops i=some t
   .obtain ⟨i,hi,ht⟩:=hex
    rw [g2 i t hi ht]
    exact (S.put i t hi (hall i hi) ht).mono (zee Z _)
   .rw [g1 t λi hi ht=>hex ⟨i,hi,ht⟩,S.unput t λi hi _ ht=>hex ⟨i,hi,ht⟩]
    exact (K.fr.2.2 t).mono hpost.ext
 intro fuel
 induction fuel with
 |zero=>
  intro L a w hLs hcnt hD hS
  have hnil:Region.ready .any ops L= []:=by
   cases hr:Region.ready .any ops L with
   |nil=>rfl
   |cons i r=>
    obtain ⟨o,ho,hLi,_⟩:=zcP (ops:=ops) (L:=L) (i:=i) (by rw [hr];simp)
    have hi:i<L.size:=by rw [hLs];exact (Array.getElem?_eq_some_iff.1 ho).1
    have:=zgm hi (by rw [Array.getD_eq_getD_getElem?,Array.getElem?_eq_getElem hi] at hLi⊢;simpa using hLi)
    omega
  exact ⟨hnil,nil L a w hLs hS hnil⟩
 |succ fuel ih=>
  intro L a w hLs hcnt hD hS
  refine ⟨nil L a w hLs hS,λi hi=> ?_⟩
  obtain ⟨o,ho,hLt,haft⟩:=zcP hi
  have hiN:i<ops.size:=(Array.getElem?_eq_some_iff.1 ho).1
  have hLi:L.getD i false=false:=by rw [Array.getD_eq_getD_getElem?,Array.getElem?_eq_getElem (by omega)] at hLt⊢;simpa using hLt
  have hC:∀a' w',St ops hs vs T Z0 w0 a0 (L.setIfInBounds i true) a' w'->wpAnyIn (FNC rd) n P .any ops Q fuel (L.setIfInBounds i true) a' w':=
   λa' w' hS'=>ih _ a' w' (by simpa using hLs) (zfc (by omega) hLi hcnt) (hD.set ho (by omega) haft) hS'
  cases hfree:zak o.op with
  |true=>exact hS.free K.gen hD hiN hLi (by omega) ho haft hfree hC
  |false=>
   obtain ⟨Z,S,hph⟩:=hS
   rcases hph with I| ⟨j,I⟩
   .by_cases hiT:i<T
    .exact I.step K S hD hiT hLi (by omega) ho haft hC
    .have I2:=I.turn K S λk ok hk hok hfk=>zdr hD K.edges i o k ho haft (K.forced k i ok o (by omega) (by omega) hok ho hfree hfk)
     exact I2.step K.gen S hD hiN hLi (by omega) ho haft hfree hC
   .exact I.step K.gen S hD hiN hLi (by omega) ho haft hfree hC
theorem zg6 (free:List Bool) (ms:List Nat):∀k,zbK free ms k<=k
 |0=>Nat.le_refl _
 |k+1=>by
  simp only [zbK]
  cases zdp free ms k with
  |true=>exact Nat.le_succ_of_le (zg6 free ms k)
  |false=>exact Nat.le_refl _
theorem zuk (hc:zcy P call) (hok:∀o,o∈ops.toList->zcx o.op=true) {T:Nat} (hTN:T<=ops.size) {F F':zab} {h h':zaa} (hev:zlV call P ops (zaX ops.toList []) T F h=some (F',h'))
  {Z:Nat->Option Loc} {a:Act} {w:World} (hr:Rel Z h w) (hF:FR Z F a.tmps) (hM:MR Z F.marks a.defers) {rd:Option Nat} {n:Nat} {Q:Exit->Act->World->Prop}
  (hQ:∀(Z':Nat->Option Loc) (a':Act) (w':World),FR Z' F' a'.tmps->MR Z' F'.marks a'.defers->zaK Z h w Z' h' w'->Q .normal a' w'):wpAnyIn (FNC rd) n P .any ops Q ops.size (Array.replicate ops.size false) a w:=by
 unfold zlV at hev
 cases hd:zgn ops (zaX ops.toList []) T with
 |false=>rw [hd] at hev;cases hev
 |true=>
  rw [hd] at hev
  simp only [cond_true] at hev
  split at hev
  .rename_i F1 h1 hpre
   obtain ⟨Fs1,hs1,vs1,e1,e2,e3,e4,hst⟩:=zjP (ops.toList.take T) 0 F F1 h h1 (λi o hi=>by
    rw [Nat.zero_add]
    rw [List.getElem?_take] at hi
    split at hi
    .simpa using hi
    .cases hi) hpre
   obtain ⟨Fs2,hs2,vs2,f1,f2,f3,f4,hst2⟩:=zft (ops.toList.drop T) T F1 F' h1 h' (λi o hi=>by
    rw [List.getElem?_drop] at hi
    simpa using hi) hev
   have hlen:(ops.toList.take T).length=T:=by simp [hTN]
   have hlen2:T+(ops.toList.drop T).length=ops.size:=by simp;omega
   rw [hlen] at e3 e4 hst
   rw [hlen2] at f3 f4 hst2
   rw [Nat.zero_add] at e3 e4
   simp only [zgn,Bool.and_eq_true] at hd
   obtain ⟨⟨⟨⟨hed,hdep⟩,hgrd⟩,hnd⟩,htl⟩:=hd
   have hml:(zaX ops.toList []).length=ops.size:=by
    obtain ⟨r,h1,h2,_⟩:=zds ops.toList []
    rw [h1];simpa using h2
   have zmem:∀(j:Nat) (o:Oper),ops[j]? =some o->(o,j)∈ops.toList.zipIdx:=λj o ho=>by
    rw [List.mem_zipIdx_iff_getElem?];simpa using ho
   have hfreeD:∀(j:Nat) (o:Oper),ops[j]? =some o->(zfE ops).getD j false=zak o.op:=λj o ho=>by
    have:ops.toList[j]? =some o:=by simpa using ho
    simp [zfE,List.getD_eq_getElem?_getD,this]
   generalize hFs:(λj=>if j<=T then Fs1 j else Fs2 j)=Fs
   generalize hhs:(λj=>if j<=T then hs1 j else hs2 j)=hs
   generalize hvs:(λj=>if j<T then vs1 j else vs2 j)=vs
   have aF:∀j,j<=T->Fs j=Fs1 j:=λj hj=>by rw [<-hFs];exact if_pos hj
   have aH:∀j,j<=T->hs j=hs1 j:=λj hj=>by rw [<-hhs];exact if_pos hj
   have bF:∀j,T<=j->Fs j=Fs2 j:=λj hj=>by
    rcases Nat.eq_or_lt_of_le hj with h|h
    .subst h;rw [aF _ (Nat.le_refl _),e3,f1]
    .rw [<-hFs];exact if_neg (by omega)
   have bH:∀j,T<=j->hs j=hs2 j:=λj hj=>by
    rcases Nat.eq_or_lt_of_le hj with h|h
    .subst h;rw [aH _ (Nat.le_refl _),e4,f2]
    .rw [<-hhs];exact if_neg (by omega)
   have aV:∀j,j<T->vs j=vs1 j:=λj hj=>by rw [<-hvs];exact if_pos hj
   have bV:∀j,T<=j->vs j=vs2 j:=λj hj=>by rw [<-hvs];exact if_neg (by omega)
   have z1:Fs 0=F:=(aF 0 (Nat.zero_le _)).trans e1
   have z2:hs 0=h:=(aH 0 (Nat.zero_le _)).trans e2
   have z3:Fs ops.size=F':=(bF _ hTN).trans f3
   have z4:hs ops.size=h':=(bH _ hTN).trans f4
   have K:zbO P call ops Fs hs vs T Z w a:=by
    refine ⟨hc,hok,hTN,λj hj=> ?_,λj hj hjN=> ?_,by rw [z2];exact hr,by rw [z1];exact hF,λi j d hij hi=> ?_,λi j oi oj hij hi hj=> ?_,λj oj g b hj hg=> ?_,hed,λi j oi oj hTj hij hi hj hfj hfi=> ?_⟩
    .have:=hst j (Nat.zero_le _) (by omega)
     unfold zmT at this⊢
     rw [aF j (by omega),aF (j+1) (by omega),aH j (by omega),aH (j+1) (by omega),aV j hj]
     exact this
    .have:=hst2 j hj hjN
     rw [bF j hj,bF (j+1) (by omega),bH j hj,bH (j+1) (by omega),bV j hj]
     exact this
    .have:=zeP ops.toList hnd i j d hij (by simpa [zbB] using hi)
     simpa [zbB] using this
    .have h1:=List.all_eq_true.1 hdep (oj,j) (zmem j oj hj)
     have h2:=List.all_eq_true.1 h1 (oi,i) (zmem i oi hi)
     simp only [Bool.or_eq_true,Bool.not_eq_true'] at h2
     rcases h2 with (h2|h2)|h2
     .have:=Nat.ble_eq_true_of_le hij
      rw [show Nat.blt i j=Nat.ble (i+1) j from rfl,this] at h2;cases h2
     .exact .inl h2
     .exact .inr h2
    .have h1:=List.all_eq_true.1 hgrd (oj,j) (zmem j oj hj)
     simp only [hg,Bool.and_eq_true] at h1
     exact ⟨Nat.le_of_ble_eq_true h1.1,h1.2⟩
    .have hjN:j<ops.size:=(Array.getElem?_eq_some_iff.1 hj).1
     have h1:=List.all_eq_true.1 htl j (by rw [List.mem_range,hml];exact hjN)
     simp only [Bool.or_eq_true,zdp] at h1
     rcases h1 with h1|h1|h1
     .have:j+1<=T:=Nat.le_of_ble_eq_true h1
      omega
     .rw [hfreeD j oj hj,hfj] at h1;cases h1
     .have h2:=List.all_eq_true.1 h1 i (List.mem_range.2 hij)
      simp only [Bool.or_eq_true] at h2
      rcases h2 with h2|h2
      .rw [hfreeD i oi hi,hfi] at h2;cases h2
      .exact h2
   have hrep:∀i,(Array.replicate ops.size false).getD i false=false:=λi=>by
    rw [Array.getD_eq_getD_getElem?,Array.getElem?_replicate];split<;>rfl
   exact zvX K (by rw [z1];exact hM) (by rw [z2,z3,z4];exact hQ) ops.size _ a w (by simp) (by simp) (λk o hk=>by rw [hrep] at hk;cases hk) (St.init K hrep)
  .cases hev
end
end
end Go.Ev

end
