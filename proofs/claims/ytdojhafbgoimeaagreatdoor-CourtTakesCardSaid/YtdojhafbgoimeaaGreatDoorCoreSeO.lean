/- Part of the proof. -/
import Derived.Test.YtdojhafbgoimeaaGreatDoorCoreSeR

namespace Go.Ev
section
variable {P:Program} {base:Nat} {H0:zaa×Sig} {O:Nu} {J:Sig} {S:SS} {F:zab} {H:zaa} {K:V->SS->Prop}
structure zaz (S S':SS):Prop where
 nx:S.nx<=S'.nx
 sz:S'.sz=S.sz
 ro:S'.ro=S.ro
 fl:S'.fl=S.fl
 wr:∀b,b∈S.wr->b∈S'.wr
 hp:∀b,b<S.nx->b∉S'.wr->S'.hp.get b=S.hp.get b
 rb:∀b,b<S.ro->b<S.nx->S'.hp.get b=S.hp.get b
theorem zaz.refl (S:SS):zaz S S:=⟨Nat.le_refl _,rfl,rfl,rfl,λ_ h=>h,λ_ _ _=>rfl,λ_ _ _=>rfl⟩
theorem zaz.trans {a b c:SS} (h:zaz a b) (k:zaz b c):zaz a c:=⟨Nat.le_trans h.nx k.nx,k.sz.trans h.sz,k.ro.trans h.ro,k.fl.trans h.fl,λx hx=>k.wr x (h.wr x hx),λx hx hn=>(k.hp x (Nat.lt_of_lt_of_le hx h.nx) hn).trans (h.hp x hx λhm=>hn (k.wr x hm)),λx hx hn=>(k.rb x (by rw [h.ro];exact hx) (Nat.lt_of_lt_of_le hn h.nx)).trans (h.rb x hx hn)⟩
theorem T.get_put {α:Type} (t:T α) (n m:Nat) (a:Option α):(t.put n a).get m=if m=n then a else t.get m:=T.get_setN a t n m
theorem zaz.alloc (S:SS) (k:SB):zaz S (S.alloc k):=⟨Nat.le_succ _,rfl,rfl,rfl,λ_ h=>h,λb hb _=>by show T.get (T.put S.hp S.nx (some k)) b=_;rw [T.get_put,if_neg (by omega)],λb _ hb=>by show T.get (T.put S.hp S.nx (some k)) b=_;rw [T.get_put,if_neg (by omega)]⟩
theorem zaz.write (S:SS) (b:Nat) (k:Option SB) (hro:S.ro<=b):zaz S (S.write b k):=⟨Nat.le_refl _,rfl,rfl,rfl,λ_ h=>List.mem_cons_of_mem _ h,λb' _ hn=>by
 show T.get (T.put S.hp b k) b'=_
 rw [T.get_put,if_neg (λe=>hn (by show b'∈b::S.wr;rw [e];exact List.mem_cons_self))],λb' hb _=>by
 show T.get (T.put S.hp b k) b'=_
 rw [T.get_put,if_neg (by omega)]⟩
theorem zaz.push (S:SS) (b:Nat) (k:SB) (hro:S.ro<=b):zaz S ((S.write b none).alloc k):=(zaz.write S b none hro).trans (zaz.alloc _ k)
def XNn (n:Nat) (O O':Nu):Prop:= ∀b:Bid,b.id<n->O' b=O b
theorem XNn.refl {n:Nat} (O:Nu):XNn n O O:=λ_ _=>rfl
theorem XNn.trans {n m:Nat} {a b c:Nu} (h:XNn n a b) (k:XNn m b c) (hm:n<=m):XNn n a c:=λi hi=>(k i (Nat.lt_of_lt_of_le hi hm)).trans (h i hi)
theorem XNn.mono {n m:Nat} {a b:Nu} (h:XNn m a b) (hm:n<=m):XNn n a b:=λi hi=>h i (Nat.lt_of_lt_of_le hi hm)
theorem XNn.xn {P:Program} {base:Nat} {H0:zaa×Sig} {O O':Nu} {J:Sig} {S:SS} {F:zab} {H:zaa} (hr:SR P base H0 O J S F H) (h:XNn S.nx O O'):XN O O':=λb c hb=>by
 rcases Nat.lt_or_ge b.id S.nx with hlt|hge
 .rw [h b hlt];exact hb
 .rw [hr.dom b hge] at hb;cases hb
theorem zfy (n:Nat) (O:Nu) (c:Nat×Nat):XNn n O (λb=>if b=n then some c else O b):=λb hb=>if_neg (λe=>by subst e;exact Nat.lt_irrefl _ hb)
def OpR (P:Program) (base:Nat) (H0:zaa×Sig) (O:Nu) (J:Sig) (S:SS) (F:zab) (r:Option (Value×zaa)) (K:V->SS->Prop):Prop:=
 ∃v' h',r=some (v',h')/\∃v S' O' J',K v S'/\SR P base H0 O' J' S' F h'/\zam P J' O' v v'/\XNn S.nx O O'/\XS J J'/\S'.fr=S.fr/\zaz S S'
theorem OpR.pure (hr:SR P base H0 O J S F H) {v:V} {v':Value} (hv:zam P J O v v') (hk:K v S):OpR P base H0 O J S F (some (v',H)) K:=
 ⟨v',H,rfl,v,S,O,J,hk,hr,hv,.refl _,.refl _,rfl,.refl _⟩
theorem zsP {v:Value} {u:V} (h:zvC v=some u):zam P J O u v:=by
 unfold zvC at h
 split at h
 .rename_i cs
  cases hf:Ev.flat (.agg cs) with
  |false=>rw [hf] at h;cases h
  |true=>
   rw [hf] at h
   simp only [cond_true,Option.some.injEq] at h
   subst h
   have:=zaN.vals (P:=P) (J:=J) (O:=O) (l:=cs.toList) (by simpa [Ev.flat] using hf)
   exact zam.agg this.1 this.2
 .rename_i hna
  cases hf:Ev.flat v with
  |false=>
   rw [hf] at h
   simp only [cond_false] at h
   split at h
   .rename_i vs
    cases hz:Nat.beq vs.size 0 with
    |false=>rw [hz] at h;cases h
    |true=>
     rw [hz] at h
     simp only [cond_true,Option.some.injEq] at h
     subst h
     have:=Array.eq_empty_of_size_eq_zero (Nat.eq_of_beq_eq_true hz)
     subst this
     exact .undef
   .cases h
  |true=>
   rw [hf] at h
   simp only [cond_true,Option.some.injEq] at h
   subst h
   refine .val ?_
   cases v with
   |agg cs=>exact absurd rfl (hna cs)
   |_=>exact hf
theorem zrU (hr:SR P base H0 O J S F H) {x:Operand} {v:V} (h:zuq S x=some v):zam P J O v (zah F x):=by
 cases x with
 |tmp t=>exact hr.fr t v h
 |const c=>exact zsP h
 |func f=>simp only [zuq,Option.some.injEq] at h;subst h;exact zam.fn (fs':= []) (cs':= []) rfl (λj v v' h _=>by simp at h) rfl (λj v v' h _=>by simp at h)
 |global g=>cases h
theorem zau (hr:SR P base H0 O J S F H) {x:Operand} {Kx:V->Prop} (h:zbj S x Kx):∃v,Kx v/\zam P J O v (zah F x):=by
 unfold zbj at h
 split at h
 .rename_i v hv;exact ⟨v,h,zrU hr hv⟩
 .exact h.elim
theorem ze3 (hr:SR P base H0 O J S F H):∀{xs:List Operand} {Kx:List V->Prop} (_:zkf S xs Kx),∃vs,Kx vs/\zaN P J O vs (xs.map (zah F))
 | [],_,h=>⟨[],h,.nil⟩
 |x::xs,Kx,h=>by
  obtain ⟨v,h1,hv⟩:=zau hr (show zbj S x (λv=>zkf S xs λl=>Kx (v::l)) from h)
  obtain ⟨vs,h2,hvs⟩:=ze3 hr h1
  exact ⟨v::vs,h2,.cons hv hvs⟩
theorem zer (hr:SR P base H0 O J S F H):∀{xs:List (Nat×Operand)} {Kx:List (Nat×V)->Prop} (_:zf7 S xs Kx),∃vs,Kx vs/\vs.map (·.1)=xs.map (·.1)/\zaN P J O (vs.map (·.2)) (xs.map λx=>zah F x.2)
 | [],_,h=>⟨[],h,rfl,.nil⟩
 |x::xs,Kx,h=>by
  obtain ⟨v,h1,hv⟩:=zau hr (show zbj S x.2 (λv=>zf7 S xs λl=>Kx ((x.1,v)::l)) from h)
  obtain ⟨vs,h2,he,hvs⟩:=zer hr h1
  exact ⟨(x.1,v)::vs,h2,by simp [he],.cons hv hvs⟩
def zsX (P:Program) (J:Sig) (O:Nu):Option V->Option Value->Prop
 |none,none=>True
 |some v,some v'=>zam P J O v v'
 |_,_=>False
theorem ziU (hr:SR P base H0 O J S F H) {x:Option Operand} {Kx:Option V->Prop} (h:zsS S x Kx):∃v,Kx v/\zsX P J O v (x.map (zah F)):=by
 cases x with
 |none=>exact ⟨none,h,trivial⟩
 |some x=>obtain ⟨v,h1,h2⟩:=zau hr h;exact ⟨some v,h1,h2⟩
theorem zaL {v:V} {v':Value} {k:IntKind} {n:Int} (h:zcv v=some (k,n)) (hv:zam P J O v v'):v'= .int k n:=by
 cases hv<;>simp only [zcv,reduceCtorEq,Option.some.injEq,Prod.mk.injEq] at h
 case int=>obtain ⟨rfl,rfl⟩:=h;rfl
 case val hf=>cases v'<;>simp_all
 case undef=>cases h
theorem zdu {v:V} {v':Value} {n:Int} {m:NL} (h:zsj v=some (n,m)) (hv:zam P J O v v'):(∃k,v'= .int k n)/\m.v=n.toNat:=by
 cases hv<;>simp only [zsj,reduceCtorEq,Option.some.injEq,Prod.mk.injEq] at h
 case int=>obtain ⟨rfl,rfl⟩:=h;exact ⟨⟨_,rfl⟩,rfl⟩
 case val hf=>
  cases v'<;>simp only [reduceCtorEq,Option.some.injEq,Prod.mk.injEq] at h
  obtain ⟨rfl,rfl⟩:=h;exact ⟨⟨_,rfl⟩,rfl⟩
 case undef=>cases h
theorem zcQ {v:V} {v':Value} {p:Prop} (h:zd6 v=some p) (hv:zam P J O v v'):v'= .bool (dec p):=by
 cases hv<;>simp only [zd6,reduceCtorEq,Option.some.injEq] at h
 case prop=>subst h;rfl
 case val hf=>
  cases v'<;>simp only [reduceCtorEq,Option.some.injEq] at h
  subst h
  rw [zby];rfl
 case undef=>cases h
theorem zc6 {v:V} {v':Value} {s:List UInt8} (h:zgT v=some s) (hv:zam P J O v v'):v'= .string ⟨⟨s⟩⟩:=by
 cases hv<;>simp only [zgT,reduceCtorEq,Option.some.injEq] at h
 case str=>subst h;rfl
 case val hf=>
  cases v'<;>simp only [reduceCtorEq,Option.some.injEq] at h
  subst h;rfl
 case undef=>cases h
theorem NL.v_mulK (a:NL) (s:Nat):(a.mulK s).v=a.v*s:=by cases a<;>rfl
theorem NL.v_add (a b:NL):(a.add b).v=a.v+b.v:=by
 cases a<;>cases b<;>simp only [NL.add,NL.v]
 rename_i a b
 cases h:Nat.beq a 0 with
 |true=>have:=Nat.eq_of_beq_eq_true h;subst this;simp [NL.v]
 |false=>rfl
theorem NL.v_sub (a b:NL):(a.sub b).v=a.v-b.v:=by
 cases a<;>cases b<;>simp only [NL.sub,NL.v]
 rename_i a b
 cases h:Nat.beq b 0 with
 |true=>have:=Nat.eq_of_beq_eq_true h;subst this;simp [NL.v]
 |false=>rfl
theorem zdU {k:IntKind} {n:Int} (h:inR k n):k.wrap n=n:=by
 cases k<;>simp only [inR] at h<;>simp [IntKind.wrap,IntKind.bits,IntKind.signed]<;>(try split)<;>omega
theorem zps {k:IntKind} {n:Nat} (h:inR k n):n<2^k.bits:=by
 cases k<;>simp only [inR] at h<;>simp [IntKind.bits]<;>omega
theorem zwr {k:IntKind} {m n:Nat} (h:inR k n) (hm:m<=n):inR k m:=by
 cases k<;>simp only [inR] at h⊢ <;>omega
theorem zrl {k:IntKind} {a b:Int} (h1:0<=a) (h2:0<=b) (h3:inR k a) (h4:inR k b):k.wrap (BitVec.ofInt k.bits a&&&BitVec.ofInt k.bits b).toNat=zae a b:=by
 obtain ⟨m,rfl⟩:∃m:Nat,a=m:=⟨a.toNat,by omega⟩
 obtain ⟨n,rfl⟩:∃n:Nat,b=n:=⟨b.toNat,by omega⟩
 rw [BitVec.toNat_and,BitVec.ofInt_natCast,BitVec.ofInt_natCast,BitVec.toNat_ofNat,BitVec.toNat_ofNat,Nat.mod_eq_of_lt (zps h3),Nat.mod_eq_of_lt (zps h4)]
 exact zdU (zwr h3 Nat.and_le_left)
theorem zqL {op:BinOp} {k:IntKind} {a b:Int} {t:TypeId} {ox oy:Operand} {Kv:V->Prop} (h:zqK op k a b Kv) (H:zaa):∃v v',zgf P op t ox oy (.int k a) (.int k b) H=some (v',H)/\Kv v/\zam P J O v v':=by
 have e:(k==k)=true:=by simp
 have fl:∀(k:IntKind) (n:Int),Ev.flat (.int k n)=true:=λ_ _=>rfl
 cases op<;>simp only [zqK] at h<;>simp only [zgf,e,cond_true,zl7]
 case add=>
  unfold ztG at h
  split at h
  .exact ⟨_,_,rfl,h,by rw [ze4,show Int.add a b=a+b from rfl];exact .int⟩
  .exact ⟨_,_,rfl,h.2,by rw [ze4,show Int.add a b=a+b from rfl,zdU h.1];exact .int⟩
 case sub=>exact ⟨_,_,rfl,h.2,by rw [ze4,show Int.sub a b=a-b from rfl,zdU h.1];exact .int⟩
 case mul=>exact ⟨_,_,rfl,h.2,by rw [ze4,show Int.mul a b=a*b from rfl,zdU h.1];exact .int⟩
 case quo=>
  have hv:(binOp .quo t (.int k a) (.int k b)).val? P=some (.int k (a.tdiv b)):=by
   simp only [binOp,ne_eq,not_true_eq_false,if_false,Op.intDiv,if_neg h.1,zdU h.2.1];rfl
  refine ⟨_,_, ?_,h.2.2,.int⟩
  simp only [zaA,hv,fl,cond_true]
 case rem=>
  have hv:(binOp .rem t (.int k a) (.int k b)).val? P=some (.int k (a.tmod b)):=by
   simp only [binOp,ne_eq,not_true_eq_false,if_false,Op.intDiv,if_neg h.1];rfl
  refine ⟨_,_, ?_,h.2,.int⟩
  simp only [zaA,hv,fl,cond_true]
 case and=>
  have e0:binOp .and t (.int k a) (.int k b)=pure (.int k (k.wrap (BitVec.ofInt k.bits a&&&BitVec.ofInt k.bits b).toNat)):=by simp [binOp,Op.intBits]
  unfold ztH at h
  split at h
  .have hv:(binOp .and t (.int .i64 a) (.int .i64 b)).val? P=some (.int .i64 (zzn a b)):=by rw [e0];rfl
   refine ⟨_,_, ?_,h,.int⟩
   simp only [zaA,hv,fl,cond_true]
  obtain ⟨h1,h2,h3,h4,h5⟩:=h
  have hv:(binOp .and t (.int k a) (.int k b)).val? P=some (.int k (zae a b)):=by
   have e:binOp .and t (.int k a) (.int k b)=pure (.int k (k.wrap (BitVec.ofInt k.bits a&&&BitVec.ofInt k.bits b).toNat)):=by simp [binOp,Op.intBits]
   rw [e,zrl h1 h2 h3 h4];rfl
  refine ⟨_,_, ?_,h5,.int⟩
  simp only [zaA,hv,fl,cond_true]
 case shr=>
  obtain ⟨h0,h⟩:=h
  have hv:(binOp .shr t (.int k a) (.int k b)).val? P=some (.int k (zbI k a b)):=by
   have e:binOp .shr t (.int k a) (.int k b)=pure (.int k (zbI k a b)):=by
    simp only [binOp,Op.shift]
    rw [if_neg (by omega)];rfl
   rw [e];rfl
  refine ⟨_,_, ?_,h,.int⟩
  simp only [zaA,hv,fl,cond_true]
 case eql=>exact ⟨_,_,rfl,h,by rw [<-zby (p:=a=b) (b:=eqI a b) (by rw [zoP];simp)];exact .prop⟩
 case neq=>exact ⟨_,_,rfl,h,by rw [<-zby (p:= ¬a=b) (b:=Bool.not (eqI a b)) (by rw [zoP];simp)];exact .prop⟩
 case lss=>exact ⟨_,_,rfl,h,by rw [<-zby (p:=a<b) (b:=ltI a b) (by rw [zjH];simp)];exact .prop⟩
 case leq=>exact ⟨_,_,rfl,h,by rw [<-zby (p:=a<=b) (b:=Bool.not (ltI b a)) (by rw [zjH];simp)];exact .prop⟩
 case gtr=>exact ⟨_,_,rfl,h,by rw [<-zby (p:=b<a) (b:=ltI b a) (by rw [zjH];simp)];exact .prop⟩
 case geq=>exact ⟨_,_,rfl,h,by rw [<-zby (p:=b<=a) (b:=Bool.not (ltI a b)) (by rw [zjH];simp)];exact .prop⟩
theorem zez {a b:List UInt8}:((⟨⟨a⟩⟩:ByteArray).toList==(⟨⟨b⟩⟩:ByteArray).toList)=true↔a=b:=by
 rw [ByteArray.toList_eq,ByteArray.toList_eq];simp
theorem zdG (a b:List UInt8):Op.bytesLess (⟨⟨a⟩⟩:ByteArray).toList (⟨⟨b⟩⟩:ByteArray).toList=true↔sLt a b:=by
 rw [ByteArray.toList_eq,ByteArray.toList_eq];exact ⟨λh=>⟨h⟩,λh=>h.out⟩
theorem zn4 (a b:List UInt8):((⟨⟨a⟩⟩:ByteArray)++(⟨⟨b⟩⟩:ByteArray))=⟨⟨a++b⟩⟩:=by
 apply ByteArray.ext
 simp
theorem zqV {op:BinOp} {a b:List UInt8} {t:TypeId} {ox oy:Operand} {Kv:V->Prop} (h:zqU op a b Kv) (H:zaa):∃v v',zgf P op t ox oy (.string ⟨⟨a⟩⟩) (.string ⟨⟨b⟩⟩) H=some (v',H)/\Kv v/\zam P J O v v':=by
 have nk:zdt P t (.string ⟨⟨a⟩⟩) (.string ⟨⟨b⟩⟩)=none:=by unfold zdt;split<;>simp_all
 have na:zd3 P op t (.string ⟨⟨a⟩⟩) (.string ⟨⟨b⟩⟩)=none:=by unfold zd3;rw [nk]
 have fl:∀(s:ByteArray),Ev.flat (.string s)=true:=λ_=>rfl
 have fb:∀(s:Bool),Ev.flat (.bool s)=true:=λ_=>rfl
 cases op<;>simp only [zqU] at h<;>simp only [zgf,na,fl,Bool.and_self,cond_true,zaA,zac]
 case add=>
  have hv:(binOp .add t (.string ⟨⟨a⟩⟩) (.string ⟨⟨b⟩⟩)).val? P=some (.string ⟨⟨a++b⟩⟩):=by
   simp only [binOp,Op.stringOp,zn4]
   rw [if_neg]
   .rfl
   .have h1:(⟨⟨a⟩⟩:ByteArray).size=a.length:=rfl
    have h2:(⟨⟨b⟩⟩:ByteArray).size=b.length:=rfl
    have hm:IntKind.i64.max=9223372036854775807:=by decide
    rw [h1,h2,hm];omega
  refine ⟨_,_, ?_,h.2,.str⟩
  have:(eqGuard .add t ox oy (.string ⟨⟨a⟩⟩) (.string ⟨⟨b⟩⟩)).val? P=some ():=rfl
  rw [this];simp only [Option.bind_some,hv,fl,cond_true]
 case eql=>
  have hv:(binOp .eql t (.string ⟨⟨a⟩⟩) (.string ⟨⟨b⟩⟩)).val? P=some (.bool (dec (a=b))):=by
   simp only [binOp,Op.stringOp];rw [zby zez];rfl
  refine ⟨_,_, ?_,h,.prop⟩
  have:(eqGuard .eql t ox oy (.string ⟨⟨a⟩⟩) (.string ⟨⟨b⟩⟩)).val? P=some ():=rfl
  rw [this];simp only [Option.bind_some,hv,fb,cond_true]
 case neq=>
  have hv:(binOp .neq t (.string ⟨⟨a⟩⟩) (.string ⟨⟨b⟩⟩)).val? P=some (.bool (dec (¬a=b))):=by
   simp only [binOp,Op.stringOp]
   rw [zby (b:= !((⟨⟨a⟩⟩:ByteArray).toList==(⟨⟨b⟩⟩:ByteArray).toList))]
   .rfl
   .rw [Bool.not_eq_true',<-Bool.not_eq_true,zez]
  refine ⟨_,_, ?_,h,.prop⟩
  have:(eqGuard .neq t ox oy (.string ⟨⟨a⟩⟩) (.string ⟨⟨b⟩⟩)).val? P=some ():=rfl
  rw [this];simp only [Option.bind_some,hv,fb,cond_true]
 case lss=>
  have hv:(binOp .lss t (.string ⟨⟨a⟩⟩) (.string ⟨⟨b⟩⟩)).val? P=some (.bool (dec (sLt a b))):=by
   simp only [binOp,Op.stringOp];rw [zby (zdG a b)];rfl
  refine ⟨_,_, ?_,h,.prop⟩
  have:(eqGuard .lss t ox oy (.string ⟨⟨a⟩⟩) (.string ⟨⟨b⟩⟩)).val? P=some ():=rfl
  rw [this];simp only [Option.bind_some,hv,fb,cond_true]
 case leq=>
  have hv:(binOp .leq t (.string ⟨⟨a⟩⟩) (.string ⟨⟨b⟩⟩)).val? P=some (.bool (dec (sLt a b\/a=b))):=by
   simp only [binOp,Op.stringOp]
   rw [zby (p:=sLt a b\/a=b) (b:=(Op.bytesLess (⟨⟨a⟩⟩:ByteArray).toList (⟨⟨b⟩⟩:ByteArray).toList|| (⟨⟨a⟩⟩:ByteArray).toList==(⟨⟨b⟩⟩:ByteArray).toList)) (by rw [Bool.or_eq_true,zdG,zez])];rfl
  refine ⟨_,_, ?_,h,.prop⟩
  have:(eqGuard .leq t ox oy (.string ⟨⟨a⟩⟩) (.string ⟨⟨b⟩⟩)).val? P=some ():=rfl
  rw [this];simp only [Option.bind_some,hv,fb,cond_true]
 case gtr=>
  have hv:(binOp .gtr t (.string ⟨⟨a⟩⟩) (.string ⟨⟨b⟩⟩)).val? P=some (.bool (dec (¬(sLt a b\/a=b)))):=by
   simp only [binOp,Op.stringOp]
   rw [zby (p:= ¬(sLt a b\/a=b)) (b:= !(Op.bytesLess (⟨⟨a⟩⟩:ByteArray).toList (⟨⟨b⟩⟩:ByteArray).toList|| (⟨⟨a⟩⟩:ByteArray).toList==(⟨⟨b⟩⟩:ByteArray).toList)) (by rw [Bool.not_eq_true',<-Bool.not_eq_true,Bool.or_eq_true,zdG,zez])];rfl
  refine ⟨_,_, ?_,h,.prop⟩
  have:(eqGuard .gtr t ox oy (.string ⟨⟨a⟩⟩) (.string ⟨⟨b⟩⟩)).val? P=some ():=rfl
  rw [this];simp only [Option.bind_some,hv,fb,cond_true]
 case geq=>
  have hv:(binOp .geq t (.string ⟨⟨a⟩⟩) (.string ⟨⟨b⟩⟩)).val? P=some (.bool (dec (¬sLt a b))):=by
   simp only [binOp,Op.stringOp]
   rw [zby (p:= ¬sLt a b) (b:= !(Op.bytesLess (⟨⟨a⟩⟩:ByteArray).toList (⟨⟨b⟩⟩:ByteArray).toList)) (by rw [Bool.not_eq_true',<-Bool.not_eq_true,zdG])];rfl
  refine ⟨_,_, ?_,h,.prop⟩
  have:(eqGuard .geq t ox oy (.string ⟨⟨a⟩⟩) (.string ⟨⟨b⟩⟩)).val? P=some ():=rfl
  rw [this];simp only [Option.bind_some,hv,fb,cond_true]
theorem znq {op:BinOp} {a b:Prop} {t:TypeId} {ox oy:Operand} {Kv:V->Prop} (ht:zbH P t=true) (h:zk8 op a b Kv) (H:zaa):∃v v',zgf P op t ox oy (.bool (dec a)) (.bool (dec b)) H=some (v',H)/\Kv v/\zam P J O v v':=by
 have hu:P.underlying t=some .bool:=by unfold zbH at ht;split at ht<;>simp_all
 have nk:zdt P t (.bool (dec a)) (.bool (dec b))=none:=by unfold zdt;split<;>simp_all
 have na:zd3 P op t (.bool (dec a)) (.bool (dec b))=none:=by unfold zd3;rw [nk]
 have fb:∀(s:Bool),Ev.flat (.bool s)=true:=λ_=>rfl
 have heq:(Op.equal t (.bool (dec a)) (.bool (dec b))).val? P=some (dec a==dec b):=by
  have hq:∀d,(Op.equalIn (d+1) t (.bool (dec a)) (.bool (dec b))).val? P=some (dec a==dec b):=λd=>by
   unfold Op.equalIn
   rw [zac]
   have:(Go.underlying t).val? P=some .bool:=by
    unfold Go.underlying
    rw [zac]
    have:(Go.program).val? P=some P:=rfl
    rw [this]
    simp only [Option.bind_some,hu];rfl
   rw [this];rfl
  exact hq 9999
 have hd:(dec a==dec b)=true↔(a↔b):=by
  by_cases h1:a<;>by_cases h2:b<;>simp [zb1,zbp,h1,h2]
 cases op<;>simp only [zk8] at h<;>simp only [zgf,na,fb,Bool.and_self,cond_true,zaA,zac]
 case eql=>
  have hv:(binOp .eql t (.bool (dec a)) (.bool (dec b))).val? P=some (.bool (dec (a↔b))):=by
   simp only [binOp];rw [zac,heq,zby hd];rfl
  refine ⟨_,_, ?_,h,.prop⟩
  have:(eqGuard .eql t ox oy (.bool (dec a)) (.bool (dec b))).val? P=some ():=rfl
  rw [this];simp only [Option.bind_some,hv,fb,cond_true]
 case neq=>
  have hv:(binOp .neq t (.bool (dec a)) (.bool (dec b))).val? P=some (.bool (dec (¬(a↔b)))):=by
   simp only [binOp]
   rw [zac,heq]
   rw [zby (p:= ¬(a↔b)) (b:= !(dec a==dec b)) (by rw [Bool.not_eq_true',<-Bool.not_eq_true,hd])]
   rfl
  refine ⟨_,_, ?_,h,.prop⟩
  have:(eqGuard .neq t ox oy (.bool (dec a)) (.bool (dec b))).val? P=some ():=rfl
  rw [this];simp only [Option.bind_some,hv,fb,cond_true]
end
end Go.Ev
