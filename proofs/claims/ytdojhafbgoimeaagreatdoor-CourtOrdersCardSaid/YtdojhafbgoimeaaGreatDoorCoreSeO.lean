/- Part of the proof. -/
import Derived.Test.YtdojhafbgoimeaaGreatDoorCoreSeR

namespace Go.Ev
section
variable {P:Program} {base:Nat} {H0:zaa×Sig} {O:Nu} {σ:Sig} {S:SS} {F:zab} {H:zaa} {K:V->SS->Prop}
structure zaz (S S':SS):Prop where
 nx:S.nx<=S'.nx
 sz:S'.sz=S.sz
 ro:S'.ro=S.ro
 fl:S'.fl=S.fl
 wr:∀b,b∈S.wr->b∈S'.wr
 hp:∀b,b<S.nx->b∉S'.wr->S'.hp.get b=S.hp.get b
 rb:∀b,b<S.ro->b<S.nx->S'.hp.get b=S.hp.get b
theorem zaz.refl (S:SS):zaz S S:=⟨Nat.le_refl _,rfl,rfl,rfl,λ_ h=>h,λ_ _ _=>rfl,λ_ _ _=>rfl⟩
theorem zaz.trans {a b c:SS} (h:zaz a b) (k:zaz b c):zaz a c:=⟨Nat.le_trans h.nx k.nx,k.sz.trans h.sz,k.ro.trans h.ro,k.fl.trans h.fl,λx hx=>k.wr x (h.wr x hx),λx hx hn=>(k.hp x (Nat.lt_of_lt_of_le hx h.nx) hn).trans (h.hp x hx λhm=>hn (k.wr x hm)),λx hx hn=>(k.rb x (by rw [h.ro];exact hx) (Nat.lt_of_lt_of_le hn h.nx)).trans (h.rb x hx hn)⟩
theorem T.get_put {α:Type} (t:T α) (n m:Nat) (a:Option α):(t.put n a).get m=if m=n then a else t.get m:=T.get_setN a t n m
theorem zaz.alloc (S:SS) (k:SB):zaz S (S.alloc k):=⟨Nat.le_succ _,rfl,rfl,rfl,λ_ h=>h,λb hb _=>by show T.get (T.put S.hp S.nx (some k)) b=_;rw [T.get_put,if_neg (by omega)],λb _ hb=>by show T.get (T.put S.hp S.nx (some k)) b=_;rw [T.get_put,if_neg (by omega)]⟩
theorem zaz.write (S:SS) (b:Nat) (k:Option SB) (hro:S.ro<=b):zaz S (S.write b k):=⟨Nat.le_refl _,rfl,rfl,rfl,λ_ h=>List.mem_cons_of_mem _ h,λb' _ hn=>by
 show T.get (T.put S.hp b k) b'=_
 rw [T.get_put,if_neg (λe=>hn (by show b'∈b::S.wr;rw [e];exact List.mem_cons_self))],λb' hb _=>by
 show T.get (T.put S.hp b k) b'=_
 rw [T.get_put,if_neg (by omega)]⟩
theorem zaz.push (S:SS) (b:Nat) (k:SB) (hro:S.ro<=b):zaz S ((S.write b none).alloc k):=(zaz.write S b none hro).trans (zaz.alloc _ k)
def XNn (n:Nat) (O O':Nu):Prop:= ∀b:Bid,b.id<n->O' b=O b
theorem XNn.refl {n:Nat} (O:Nu):XNn n O O:=λ_ _=>rfl
theorem XNn.trans {n m:Nat} {a b c:Nu} (h:XNn n a b) (k:XNn m b c) (hm:n<=m):XNn n a c:=λi hi=>(k i (Nat.lt_of_lt_of_le hi hm)).trans (h i hi)
theorem XNn.mono {n m:Nat} {a b:Nu} (h:XNn m a b) (hm:n<=m):XNn n a b:=λi hi=>h i (Nat.lt_of_lt_of_le hi hm)
theorem XNn.xn {P:Program} {base:Nat} {H0:zaa×Sig} {O O':Nu} {σ:Sig} {S:SS} {F:zab} {H:zaa} (hr:SR P base H0 O σ S F H) (h:XNn S.nx O O'):XN O O':=λb c hb=>by
 rcases Nat.lt_or_ge b.id S.nx with hlt|hge
 .rw [h b hlt];exact hb
 .rw [hr.dom b hge] at hb;cases hb
theorem zgl (n:Nat) (O:Nu) (c:Nat×Nat):XNn n O (λb=>if b=n then some c else O b):=λb hb=>if_neg (λe=>by subst e;exact Nat.lt_irrefl _ hb)
def OpR (P:Program) (base:Nat) (H0:zaa×Sig) (O:Nu) (σ:Sig) (S:SS) (F:zab) (r:Option (Value×zaa)) (K:V->SS->Prop):Prop:=
 ∃v' h',r=some (v',h')/\∃v S' O' σ',K v S'/\SR P base H0 O' σ' S' F h'/\zao P σ' O' v v'/\XNn S.nx O O'/\XS σ σ'/\S'.fr=S.fr/\zaz S S'
theorem OpR.pure (hr:SR P base H0 O σ S F H) {v:V} {v':Value} (hv:zao P σ O v v') (hk:K v S):OpR P base H0 O σ S F (some (v',H)) K:=
 ⟨v',H,rfl,v,S,O,σ,hk,hr,hv,.refl _,.refl _,rfl,.refl _⟩
theorem zs0 {v:Value} {u:V} (h:zu0 v=some u):zao P σ O u v:=by
 unfold zu0 at h
 split at h
 .rename_i cs
  cases hf:Ev.flat (.agg cs) with
  |false=>rw [hf] at h;cases h
  |true=>
   rw [hf] at h
   simp only [cond_true,Option.some.injEq] at h
   subst h
   have:=zaT.vals (P:=P) (σ:=σ) (O:=O) (l:=cs.toList) (by simpa [Ev.flat] using hf)
   exact zao.agg this.1 this.2
 .rename_i hna
  cases hf:Ev.flat v with
  |false=>
   rw [hf] at h
   simp only [cond_false] at h
   split at h
   .rename_i vs
    cases hz:Nat.beq vs.size 0 with
    |false=>rw [hz] at h;cases h
    |true=>
     rw [hz] at h
     simp only [cond_true,Option.some.injEq] at h
     subst h
     have:=Array.eq_empty_of_size_eq_zero (Nat.eq_of_beq_eq_true hz)
     subst this
     exact .undef
   .cases h
  |true=>
   rw [hf] at h
   simp only [cond_true,Option.some.injEq] at h
   subst h
   refine .val ?_
   cases v with
   |agg cs=>exact absurd rfl (hna cs)
   |_=>exact hf
theorem zrC (hr:SR P base H0 O σ S F H) {x:Operand} {v:V} (h:zt9 S x=some v):zao P σ O v (zag F x):=by
 cases x with
 |tmp t=>exact hr.fr t v h
 |const c=>exact zs0 h
 |func f=>simp only [zt9,Option.some.injEq] at h;subst h;exact zao.fn (fs':= []) (cs':= []) rfl (λj v v' h _=>by simp at h) rfl (λj v v' h _=>by simp at h)
 |global g=>cases h
theorem zav (hr:SR P base H0 O σ S F H) {x:Operand} {Kx:V->Prop} (h:zbm S x Kx):∃v,Kx v/\zao P σ O v (zag F x):=by
 unfold zbm at h
 split at h
 .rename_i v hv;exact ⟨v,h,zrC hr hv⟩
 .exact h.elim
theorem zfx (hr:SR P base H0 O σ S F H):∀{xs:List Operand} {Kx:List V->Prop} (_:zjw S xs Kx),∃vs,Kx vs/\zaT P σ O vs (xs.map (zag F))
 | [],_,h=>⟨[],h,.nil⟩
 |x::xs,Kx,h=>by
  obtain ⟨v,h1,hv⟩:=zav hr (show zbm S x (λv=>zjw S xs λl=>Kx (v::l)) from h)
  obtain ⟨vs,h2,hvs⟩:=zfx hr h1
  exact ⟨v::vs,h2,.cons hv hvs⟩
theorem zeV (hr:SR P base H0 O σ S F H):∀{xs:List (Nat×Operand)} {Kx:List (Nat×V)->Prop} (_:zgx S xs Kx),∃vs,Kx vs/\vs.map (·.1)=xs.map (·.1)/\zaT P σ O (vs.map (·.2)) (xs.map λx=>zag F x.2)
 | [],_,h=>⟨[],h,rfl,.nil⟩
 |x::xs,Kx,h=>by
  obtain ⟨v,h1,hv⟩:=zav hr (show zbm S x.2 (λv=>zgx S xs λl=>Kx ((x.1,v)::l)) from h)
  obtain ⟨vs,h2,he,hvs⟩:=zeV hr h1
  exact ⟨(x.1,v)::vs,h2,by simp [he],.cons hv hvs⟩
def zwC (P:Program) (σ:Sig) (O:Nu):Option V->Option Value->Prop
 |none,none=>True
 |some v,some v'=>zao P σ O v v'
 |_,_=>False
theorem zis (hr:SR P base H0 O σ S F H) {x:Option Operand} {Kx:Option V->Prop} (h:zrG S x Kx):∃v,Kx v/\zwC P σ O v (x.map (zag F)):=by
 cases x with
 |none=>exact ⟨none,h,trivial⟩
 |some x=>obtain ⟨v,h1,h2⟩:=zav hr h;exact ⟨some v,h1,h2⟩
theorem zaR {v:V} {v':Value} {k:IntKind} {n:Int} (h:zcR v=some (k,n)) (hv:zao P σ O v v'):v'= .int k n:=by
 cases hv<;>simp only [zcR,reduceCtorEq,Option.some.injEq,Prod.mk.injEq] at h
 case int=>obtain ⟨rfl,rfl⟩:=h;rfl
 case val hf=>cases v'<;>simp_all
 case undef=>cases h
theorem zd2 {v:V} {v':Value} {n:Int} {m:NL} (h:zrA v=some (n,m)) (hv:zao P σ O v v'):(∃k,v'= .int k n)/\m.v=n.toNat:=by
 cases hv<;>simp only [zrA,reduceCtorEq,Option.some.injEq,Prod.mk.injEq] at h
 case int=>obtain ⟨rfl,rfl⟩:=h;exact ⟨⟨_,rfl⟩,rfl⟩
 case val hf=>
  cases v'<;>simp only [reduceCtorEq,Option.some.injEq,Prod.mk.injEq] at h
  obtain ⟨rfl,rfl⟩:=h;exact ⟨⟨_,rfl⟩,rfl⟩
 case undef=>cases h
theorem zdm {v:V} {v':Value} {p:Prop} (h:zeH v=some p) (hv:zao P σ O v v'):v'= .bool (dec p):=by
 cases hv<;>simp only [zeH,reduceCtorEq,Option.some.injEq] at h
 case prop=>subst h;rfl
 case val hf=>
  cases v'<;>simp only [reduceCtorEq,Option.some.injEq] at h
  subst h
  rw [zbN];rfl
 case undef=>cases h
theorem zds {v:V} {v':Value} {s:List UInt8} (h:zgD v=some s) (hv:zao P σ O v v'):v'= .string ⟨⟨s⟩⟩:=by
 cases hv<;>simp only [zgD,reduceCtorEq,Option.some.injEq] at h
 case str=>subst h;rfl
 case val hf=>
  cases v'<;>simp only [reduceCtorEq,Option.some.injEq] at h
  subst h;rfl
 case undef=>cases h
theorem NL.v_mulK (a:NL) (s:Nat):(a.mulK s).v=a.v*s:=by cases a<;>rfl
theorem NL.v_add (a b:NL):(a.add b).v=a.v+b.v:=by
 cases a<;>cases b<;>simp only [NL.add,NL.v]
 rename_i a b
 cases h:Nat.beq a 0 with
 |true=>have:=Nat.eq_of_beq_eq_true h;subst this;simp [NL.v]
 |false=>rfl
theorem NL.v_sub (a b:NL):(a.sub b).v=a.v-b.v:=by
 cases a<;>cases b<;>simp only [NL.sub,NL.v]
 rename_i a b
 cases h:Nat.beq b 0 with
 |true=>have:=Nat.eq_of_beq_eq_true h;subst this;simp [NL.v]
 |false=>rfl
theorem zem {k:IntKind} {n:Int} (h:inR k n):k.wrap n=n:=by
 cases k<;>simp only [inR] at h<;>simp [IntKind.wrap,IntKind.bits,IntKind.signed]<;>(try split)<;>omega
theorem zoZ {k:IntKind} {n:Nat} (h:inR k n):n<2^k.bits:=by
 cases k<;>simp only [inR] at h<;>simp [IntKind.bits]<;>omega
theorem zwf {k:IntKind} {m n:Nat} (h:inR k n) (hm:m<=n):inR k m:=by
 cases k<;>simp only [inR] at h⊢ <;>omega
theorem zsB {k:IntKind} {a b:Int} (h1:0<=a) (h2:0<=b) (h3:inR k a) (h4:inR k b):k.wrap (BitVec.ofInt k.bits a&&&BitVec.ofInt k.bits b).toNat=zhp a b:=by
 obtain ⟨m,rfl⟩:∃m:Nat,a=m:=⟨a.toNat,by omega⟩
 obtain ⟨n,rfl⟩:∃n:Nat,b=n:=⟨b.toNat,by omega⟩
 rw [BitVec.toNat_and,BitVec.ofInt_natCast,BitVec.ofInt_natCast,BitVec.toNat_ofNat,BitVec.toNat_ofNat,Nat.mod_eq_of_lt (zoZ h3),Nat.mod_eq_of_lt (zoZ h4)]
 exact zem (zwf h3 Nat.and_le_left)
theorem zp3 {op:BinOp} {k:IntKind} {a b:Int} {t:TypeId} {ox oy:Operand} {Kv:V->Prop} (h:zoS op k a b Kv) (H:zaa):∃v v',zg1 P op t ox oy (.int k a) (.int k b) H=some (v',H)/\Kv v/\zao P σ O v v':=by
 have e:(k==k)=true:=by simp
 have fl:∀(k:IntKind) (n:Int),Ev.flat (.int k n)=true:=λ_ _=>rfl
 cases op<;>simp only [zoS] at h<;>simp only [zg1,e,cond_true,zml]
 case add=>
  unfold ztv at h
  split at h
  .exact ⟨_,_,rfl,h,by rw [zfF,show Int.add a b=a+b from rfl];exact .int⟩
  .exact ⟨_,_,rfl,h.2,by rw [zfF,show Int.add a b=a+b from rfl,zem h.1];exact .int⟩
 case sub=>exact ⟨_,_,rfl,h.2,by rw [zfF,show Int.sub a b=a-b from rfl,zem h.1];exact .int⟩
 case mul=>exact ⟨_,_,rfl,h.2,by rw [zfF,show Int.mul a b=a*b from rfl,zem h.1];exact .int⟩
 case quo=>
  have hv:(binOp .quo t (.int k a) (.int k b)).val? P=some (.int k (a.tdiv b)):=by
   simp only [binOp,ne_eq,not_true_eq_false,if_false,Op.intDiv,if_neg h.1,zem h.2.1];rfl
  refine ⟨_,_, ?_,h.2.2,.int⟩
  simp only [zaB,hv,fl,cond_true]
 case rem=>
  have hv:(binOp .rem t (.int k a) (.int k b)).val? P=some (.int k (a.tmod b)):=by
   simp only [binOp,ne_eq,not_true_eq_false,if_false,Op.intDiv,if_neg h.1];rfl
  refine ⟨_,_, ?_,h.2,.int⟩
  simp only [zaB,hv,fl,cond_true]
 case and=>
  obtain ⟨h1,h2,h3,h4,h5⟩:=h
  have hv:(binOp .and t (.int k a) (.int k b)).val? P=some (.int k (zhp a b)):=by
   have e:binOp .and t (.int k a) (.int k b)=pure (.int k (k.wrap (BitVec.ofInt k.bits a&&&BitVec.ofInt k.bits b).toNat)):=by simp [binOp,Op.intBits]
   rw [e,zsB h1 h2 h3 h4];rfl
  refine ⟨_,_, ?_,h5,.int⟩
  simp only [zaB,hv,fl,cond_true]
 case shr=>
  obtain ⟨h0,h⟩:=h
  have hv:(binOp .shr t (.int k a) (.int k b)).val? P=some (.int k (zsM k a b)):=by
   have e:binOp .shr t (.int k a) (.int k b)=pure (.int k (zsM k a b)):=by
    simp only [binOp,Op.shift]
    rw [if_neg (by omega)];rfl
   rw [e];rfl
  refine ⟨_,_, ?_,h,.int⟩
  simp only [zaB,hv,fl,cond_true]
 case eql=>exact ⟨_,_,rfl,h,by rw [<-zbN (p:=a=b) (b:=eqI a b) (by rw [zqS];simp)];exact .prop⟩
 case neq=>exact ⟨_,_,rfl,h,by rw [<-zbN (p:= ¬a=b) (b:=Bool.not (eqI a b)) (by rw [zqS];simp)];exact .prop⟩
 case lss=>exact ⟨_,_,rfl,h,by rw [<-zbN (p:=a<b) (b:=ltI a b) (by rw [zjY];simp)];exact .prop⟩
 case leq=>exact ⟨_,_,rfl,h,by rw [<-zbN (p:=a<=b) (b:=Bool.not (ltI b a)) (by rw [zjY];simp)];exact .prop⟩
 case gtr=>exact ⟨_,_,rfl,h,by rw [<-zbN (p:=b<a) (b:=ltI b a) (by rw [zjY];simp)];exact .prop⟩
 case geq=>exact ⟨_,_,rfl,h,by rw [<-zbN (p:=b<=a) (b:=Bool.not (ltI a b)) (by rw [zjY];simp)];exact .prop⟩
theorem zfC {a b:List UInt8}:((⟨⟨a⟩⟩:ByteArray).toList==(⟨⟨b⟩⟩:ByteArray).toList)=true↔a=b:=by
 rw [ByteArray.toList_eq,ByteArray.toList_eq];simp
theorem zet (a b:List UInt8):Op.bytesLess (⟨⟨a⟩⟩:ByteArray).toList (⟨⟨b⟩⟩:ByteArray).toList=true↔sLt a b:=by
 rw [ByteArray.toList_eq,ByteArray.toList_eq];exact ⟨λh=>⟨h⟩,λh=>h.out⟩
theorem zpr (a b:List UInt8):((⟨⟨a⟩⟩:ByteArray)++(⟨⟨b⟩⟩:ByteArray))=⟨⟨a++b⟩⟩:=by
 apply ByteArray.ext
 simp
theorem zpk {op:BinOp} {a b:List UInt8} {t:TypeId} {ox oy:Operand} {Kv:V->Prop} (h:zo2 op a b Kv) (H:zaa):∃v v',zg1 P op t ox oy (.string ⟨⟨a⟩⟩) (.string ⟨⟨b⟩⟩) H=some (v',H)/\Kv v/\zao P σ O v v':=by
 have nk:zdW P t (.string ⟨⟨a⟩⟩) (.string ⟨⟨b⟩⟩)=none:=by unfold zdW;split<;>simp_all
 have na:zeD P op t (.string ⟨⟨a⟩⟩) (.string ⟨⟨b⟩⟩)=none:=by unfold zeD;rw [nk]
 have fl:∀(s:ByteArray),Ev.flat (.string s)=true:=λ_=>rfl
 have fb:∀(s:Bool),Ev.flat (.bool s)=true:=λ_=>rfl
 cases op<;>simp only [zo2] at h<;>simp only [zg1,na,fl,Bool.and_self,cond_true,zaB,zad]
 case add=>
  have hv:(binOp .add t (.string ⟨⟨a⟩⟩) (.string ⟨⟨b⟩⟩)).val? P=some (.string ⟨⟨a++b⟩⟩):=by
   simp only [binOp,Op.stringOp,zpr]
   rw [if_neg]
   .rfl
   .have h1:(⟨⟨a⟩⟩:ByteArray).size=a.length:=rfl
    have h2:(⟨⟨b⟩⟩:ByteArray).size=b.length:=rfl
    have hm:IntKind.i64.max=9223372036854775807:=by decide
    rw [h1,h2,hm];omega
  refine ⟨_,_, ?_,h.2,.str⟩
  have:(eqGuard .add t ox oy (.string ⟨⟨a⟩⟩) (.string ⟨⟨b⟩⟩)).val? P=some ():=rfl
  rw [this];simp only [Option.bind_some,hv,fl,cond_true]
 case eql=>
  have hv:(binOp .eql t (.string ⟨⟨a⟩⟩) (.string ⟨⟨b⟩⟩)).val? P=some (.bool (dec (a=b))):=by
   simp only [binOp,Op.stringOp];rw [zbN zfC];rfl
  refine ⟨_,_, ?_,h,.prop⟩
  have:(eqGuard .eql t ox oy (.string ⟨⟨a⟩⟩) (.string ⟨⟨b⟩⟩)).val? P=some ():=rfl
  rw [this];simp only [Option.bind_some,hv,fb,cond_true]
 case neq=>
  have hv:(binOp .neq t (.string ⟨⟨a⟩⟩) (.string ⟨⟨b⟩⟩)).val? P=some (.bool (dec (¬a=b))):=by
   simp only [binOp,Op.stringOp]
   rw [zbN (b:= !((⟨⟨a⟩⟩:ByteArray).toList==(⟨⟨b⟩⟩:ByteArray).toList))]
   .rfl
   .rw [Bool.not_eq_true',<-Bool.not_eq_true,zfC]
  refine ⟨_,_, ?_,h,.prop⟩
  have:(eqGuard .neq t ox oy (.string ⟨⟨a⟩⟩) (.string ⟨⟨b⟩⟩)).val? P=some ():=rfl
  rw [this];simp only [Option.bind_some,hv,fb,cond_true]
 case lss=>
  have hv:(binOp .lss t (.string ⟨⟨a⟩⟩) (.string ⟨⟨b⟩⟩)).val? P=some (.bool (dec (sLt a b))):=by
   simp only [binOp,Op.stringOp];rw [zbN (zet a b)];rfl
  refine ⟨_,_, ?_,h,.prop⟩
  have:(eqGuard .lss t ox oy (.string ⟨⟨a⟩⟩) (.string ⟨⟨b⟩⟩)).val? P=some ():=rfl
  rw [this];simp only [Option.bind_some,hv,fb,cond_true]
 case leq=>
  have hv:(binOp .leq t (.string ⟨⟨a⟩⟩) (.string ⟨⟨b⟩⟩)).val? P=some (.bool (dec (sLt a b\/a=b))):=by
   simp only [binOp,Op.stringOp]
   rw [zbN (p:=sLt a b\/a=b) (b:=(Op.bytesLess (⟨⟨a⟩⟩:ByteArray).toList (⟨⟨b⟩⟩:ByteArray).toList|| (⟨⟨a⟩⟩:ByteArray).toList==(⟨⟨b⟩⟩:ByteArray).toList)) (by rw [Bool.or_eq_true,zet,zfC])];rfl
  refine ⟨_,_, ?_,h,.prop⟩
  have:(eqGuard .leq t ox oy (.string ⟨⟨a⟩⟩) (.string ⟨⟨b⟩⟩)).val? P=some ():=rfl
  rw [this];simp only [Option.bind_some,hv,fb,cond_true]
 case gtr=>
  have hv:(binOp .gtr t (.string ⟨⟨a⟩⟩) (.string ⟨⟨b⟩⟩)).val? P=some (.bool (dec (¬(sLt a b\/a=b)))):=by
   simp only [binOp,Op.stringOp]
   rw [zbN (p:= ¬(sLt a b\/a=b)) (b:= !(Op.bytesLess (⟨⟨a⟩⟩:ByteArray).toList (⟨⟨b⟩⟩:ByteArray).toList|| (⟨⟨a⟩⟩:ByteArray).toList==(⟨⟨b⟩⟩:ByteArray).toList)) (by rw [Bool.not_eq_true',<-Bool.not_eq_true,Bool.or_eq_true,zet,zfC])];rfl
  refine ⟨_,_, ?_,h,.prop⟩
  have:(eqGuard .gtr t ox oy (.string ⟨⟨a⟩⟩) (.string ⟨⟨b⟩⟩)).val? P=some ():=rfl
  rw [this];simp only [Option.bind_some,hv,fb,cond_true]
 case geq=>
  have hv:(binOp .geq t (.string ⟨⟨a⟩⟩) (.string ⟨⟨b⟩⟩)).val? P=some (.bool (dec (¬sLt a b))):=by
   simp only [binOp,Op.stringOp]
   rw [zbN (p:= ¬sLt a b) (b:= !(Op.bytesLess (⟨⟨a⟩⟩:ByteArray).toList (⟨⟨b⟩⟩:ByteArray).toList)) (by rw [Bool.not_eq_true',<-Bool.not_eq_true,zet])];rfl
  refine ⟨_,_, ?_,h,.prop⟩
  have:(eqGuard .geq t ox oy (.string ⟨⟨a⟩⟩) (.string ⟨⟨b⟩⟩)).val? P=some ():=rfl
  rw [this];simp only [Option.bind_some,hv,fb,cond_true]
theorem zn0 {op:BinOp} {a b:Prop} {t:TypeId} {ox oy:Operand} {Kv:V->Prop} (ht:zbW P t=true) (h:zlh op a b Kv) (H:zaa):∃v v',zg1 P op t ox oy (.bool (dec a)) (.bool (dec b)) H=some (v',H)/\Kv v/\zao P σ O v v':=by
 have hu:P.underlying t=some .bool:=by unfold zbW at ht;split at ht<;>simp_all
 have nk:zdW P t (.bool (dec a)) (.bool (dec b))=none:=by unfold zdW;split<;>simp_all
 have na:zeD P op t (.bool (dec a)) (.bool (dec b))=none:=by unfold zeD;rw [nk]
 have fb:∀(s:Bool),Ev.flat (.bool s)=true:=λ_=>rfl
 have heq:(Op.equal t (.bool (dec a)) (.bool (dec b))).val? P=some (dec a==dec b):=by
  have hq:∀d,(Op.equalIn (d+1) t (.bool (dec a)) (.bool (dec b))).val? P=some (dec a==dec b):=λd=>by
   unfold Op.equalIn
   rw [zad]
   have:(Go.underlying t).val? P=some .bool:=by
    unfold Go.underlying
    rw [zad]
    have:(Go.program).val? P=some P:=rfl
    rw [this]
    simp only [Option.bind_some,hu];rfl
   rw [this];rfl
  exact hq 9999
 have hd:(dec a==dec b)=true↔(a↔b):=by
  by_cases h1:a<;>by_cases h2:b<;>simp [zcd,zbA,h1,h2]
 cases op<;>simp only [zlh] at h<;>simp only [zg1,na,fb,Bool.and_self,cond_true,zaB,zad]
 case eql=>
  have hv:(binOp .eql t (.bool (dec a)) (.bool (dec b))).val? P=some (.bool (dec (a↔b))):=by
   simp only [binOp];rw [zad,heq,zbN hd];rfl
  refine ⟨_,_, ?_,h,.prop⟩
  have:(eqGuard .eql t ox oy (.bool (dec a)) (.bool (dec b))).val? P=some ():=rfl
  rw [this];simp only [Option.bind_some,hv,fb,cond_true]
 case neq=>
  have hv:(binOp .neq t (.bool (dec a)) (.bool (dec b))).val? P=some (.bool (dec (¬(a↔b)))):=by
   simp only [binOp]
   rw [zad,heq]
   rw [zbN (p:= ¬(a↔b)) (b:= !(dec a==dec b)) (by rw [Bool.not_eq_true',<-Bool.not_eq_true,hd])]
   rfl
  refine ⟨_,_, ?_,h,.prop⟩
  have:(eqGuard .neq t ox oy (.bool (dec a)) (.bool (dec b))).val? P=some ():=rfl
  rw [this];simp only [Option.bind_some,hv,fb,cond_true]
end
end Go.Ev
