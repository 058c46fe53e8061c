/- Part of the proof. -/
import Derived.Test.YtdojhafbgoimeaaGreatDoorCoreSeP

namespace Go.Ev
section
variable {P:Program} {base:Nat} {H0:zaa×Sig} {O:Nu} {J:Sig} {S:SS} {F:zab} {H:zaa} {K:V->SS->Prop} {Kv:V->Prop}
theorem zan.sliceInv {t e:TypeId} {d:D} {cs:List Value} (h:zan P J t d cs) (hu:P.underlying t=some (.slice e)):
  (d= .nil/\cs= [.slice none 0 0])\/∃l i o c sz cs',d= .list l/\cs= [.slice (some ⟨i,o,none⟩) l.length c]/\zaj P e=some sz/\(∃zz,J i=some (cs',zz)/\(zz=sz\/(zz=0/\c<UNK/\o+c*sz<=cs'.length)))/\o+l.length*sz<=cs'.length/\(c=UNK\/(l.length<=c/\c<UNK))/\
   ∀(j:Nat) (d:D),l[j]? =some d->zan P J e d ((cs'.drop (o+j*sz)).take sz):=by
 cases h with
 |int h _=>rw [hu] at h;cases h
 |bool h _=>rw [hu] at h;cases h
 |str h _=>rw [hu] at h;cases h
 |sct h _ _ _ _=>rw [hu] at h;cases h
 |nilf h _=>rw [hu] at h;cases h
 |fn h _ _ _ _ _ _ _=>rw [hu] at h;cases h
 |arr h _ _ _ _=>rw [hu] at h;cases h
 |nil _ _=>exact .inl ⟨rfl,rfl⟩
 |list h _ hz hi hl hc hzz he=>
  rw [hu] at h;cases h
  exact .inr ⟨_,_,_,_,_,_,rfl,rfl,hz,⟨_,hi,hzz⟩,hl,hc,he⟩
theorem zan.sctInv {t:TypeId} {fs:Array Field} {d:D} {cs:List Value} (h:zan P J t d cs) (hu:P.underlying t=some (.struct fs)):
  ∃(ds:List D) (css:List (List Value)),d= .sct ds/\cs=css.flatten/\css.length=fs.size/\ds.length=fs.size/\∀(j:Nat) (f:Field) (d:D) (c:List Value),fs[j]? =some f->ds[j]? =some d->css[j]? =some c->zan P J f.type d c:=by
 cases h with
 |int h _=>rw [hu] at h;cases h
 |bool h _=>rw [hu] at h;cases h
 |str h _=>rw [hu] at h;cases h
 |nil h _=>rw [hu] at h;cases h
 |list h _ _ _ _ _ _ _=>rw [hu] at h;cases h
 |nilf h _=>rw [hu] at h;cases h
 |fn h _ _ _ _ _ _ _=>rw [hu] at h;cases h
 |arr h _ _ _ _=>rw [hu] at h;cases h
 |sct h h1 h2 hs hf=>rw [hu] at h;cases h;exact ⟨_,_,rfl,rfl,h1,h2,hf⟩
def zgk:List TypeId->List D->List V
 |t::ts,d::ds=> .dpt t d::zgk ts ds
 |_,_=> []
theorem zjd:∀(ts:List TypeId) (ds:List D),ds.length=ts.length->(zgk ts ds).length=ts.length
 | [],[],_=>rfl
 | [],_::_,h=>by simp at h
 |_::_,[],h=>by simp at h
 |t::ts,d::ds,h=>by simp only [zgk,List.length_cons];rw [zjd ts ds (by simpa using h)]
theorem zjc:∀(ts:List TypeId) (ds:List D) (j:Nat) (v:V),(zgk ts ds)[j]? =some v->∃t d,ts[j]? =some t/\ds[j]? =some d/\v= .dpt t d
 | [],_,j,v,h=>by simp [zgk] at h
 |_::_,[],j,v,h=>by simp [zgk] at h
 |t::ts,d::ds,0,v,h=>by simp only [zgk,List.getElem?_cons_zero,Option.some.injEq] at h;exact ⟨t,d,rfl,rfl,h.symm⟩
 |t::ts,d::ds,j+1,v,h=>by simpa using zjc ts ds j v (by simpa [zgk] using h)
theorem zam.fndInv {t0:TypeId} {d:D} {v:Value} (h:zam P J O (.fnd t0 d) v):(d= .nil/\v= .nilFunc)\/∃(g:FuncId) (ts:List TypeId) (ds:List D) (cs:List Value),d= .fn g ts ds/\v= .func (.func g) ⟨[]⟩ ⟨cs⟩/\ds.length=ts.length/\zaN P J (λ_=>none) (zgk ts ds) cs:=by
 cases h with
 |fndN=>exact .inl ⟨rfl,rfl⟩
 |fnd h1 h2 hp hi hz hf=>
  refine .inr ⟨_,_,_,_,rfl,rfl,h1,by rw [zjd _ _ h1,h2],λj u u' hu hu'=> ?_⟩
  obtain ⟨t,d,a,b,rfl⟩:=zjc _ _ _ _ hu
  have hj:=(List.getElem?_eq_some_iff.1 a).1
  rw [hp j _ hu']
  obtain ⟨i1,i2,i3⟩:=hi j hj
  exact .dpt i1 (hz j t a) i2 i3 (hf j t d a b)
theorem zpY:∀(l:List Field) (cl:List (List Value)) (o:Nat),zfK P l o=true->cl.length=l.length->(∀(j:Nat) (g:Field) (c:List Value),l[j]? =some g->cl[j]? =some c->zaj P g.type=some c.length)->∀(j:Nat) (g:Field),l[j]? =some g->o+(cl.take j).flatten.length=g.offset
 | [],_,_,_,_,_,_,_,h=>by simp at h
 |g0::l,[],_,_,hlen,_,_,_,_=>by simp at hlen
 |g0::l,c::cl,o,ho,hlen,hsz,j,g,hj=>by
  simp only [zfK,Bool.and_eq_true] at ho
  obtain ⟨ho1,ho2⟩:=ho
  have ho1:=Nat.eq_of_beq_eq_true ho1
  have hs0:=hsz 0 g0 c rfl rfl
  rw [hs0] at ho2
  cases j with
  |zero=>simp only [List.getElem?_cons_zero,Option.some.injEq] at hj;subst hj;simp [ho1]
  |succ j=>
   have:=zpY l cl (o+c.length) ho2 (by simpa using hlen) (λj g c h1 h2=>hsz (j+1) g c (by simpa using h1) (by simpa using h2)) j g (by simpa using hj)
   rw [List.take_succ_cons,List.flatten_cons,List.length_append];omega
theorem zan.field {t:TypeId} {fs:Array Field} {d:D} {cs:List Value} (h:zan P J t d cs) (hu:P.underlying t=some (.struct fs)) (ho:zfK P fs.toList 0=true) {f:Nat} {fd:Field} (hf:fs[f]? =some fd) {n:Nat} (hn:zaj P fd.type=some n):
  fd.offset+n<=cs.length/\zan P J fd.type (d.fld f) ((cs.drop fd.offset).take n):=by
 obtain ⟨ds,css,rfl,rfl,h1,h2,hr⟩:=h.sctInv hu
 have hlt:f<fs.size:=(Array.getElem?_eq_some_iff.1 hf).1
 have hfl:f<css.length:=by omega
 have hR:=hr f fd (ds[f]'(by omega)) (css[f]) hf (List.getElem?_eq_getElem (by omega)) (List.getElem?_eq_getElem hfl)
 have hcl:(css[f]).length=n:=by have:=hR.size;rw [hn] at this;exact (Option.some.inj this).symm
 have hoff:=zpY fs.toList css 0 ho (by simpa using h1) (λj g c hg hc=>(hr j g (ds[j]'(by have:=(List.getElem?_eq_some_iff.1 hc).1;omega)) c (by simpa using hg) (List.getElem?_eq_getElem _) hc).size) f fd (by simpa using hf)
 have hsplit:css.flatten=(css.take f).flatten++(css[f]++(css.drop (f+1)).flatten):=by
  have:css=css.take f++(css[f]::css.drop (f+1)):=by rw [<-List.drop_eq_getElem_cons hfl,List.take_append_drop]
  conv=>lhs;rw [this]
  rw [List.flatten_append,List.flatten_cons]
 have e:(D.sct ds).fld f=ds[f]'(by omega):=by simp [D.fld,zad,show f<ds.length by omega]
 have hoff':fd.offset=(css.take f).flatten.length:=by omega
 refine ⟨by rw [hsplit];simp only [List.length_append];omega, ?_⟩
 rw [e,hsplit,hoff',List.drop_left,<-hcl,List.take_left]
 exact hR
theorem zrs {op:BinOp} {t:TypeId} {x y:Operand} {a b v:Value} {H H1:zaa} (h:zgf P op t x y a b H=some (v,H1)):H1=H/\∀H',zgf P op t x y a b H'=some (v,H'):=by
  unfold zgf at h⊢
  split at h
  .split at h
   .rename_i k a k' b v' hv
    simp only [Option.some.injEq,Prod.mk.injEq] at h
    obtain ⟨rfl,rfl⟩:=h
    exact ⟨rfl,λ_=>by simp_all⟩
   .rename_i hv
    obtain ⟨h1,h2⟩:=zbv h
    exact ⟨h1,λH'=>by simpa [hv] using h2 H'⟩
  .split at h
   .rename_i v' hv
    simp only [Option.some.injEq,Prod.mk.injEq] at h
    obtain ⟨rfl,rfl⟩:=h
    exact ⟨rfl,λ_=>by simp_all⟩
   .rename_i hv
    obtain ⟨h1,h2⟩:=zeB (f:=λH=>zaA P _ H) h zbv
    exact ⟨h1,λH'=>by simpa [hv] using h2 H'⟩
def VOK (P:Program) (J:Sig) (O:Nu) (H:zaa) (r:Option (Value×zaa)) (Kv:V->Prop):Prop:= ∃v v',r=some (v',H)/\Kv v/\zam P J O v v'
theorem zqR {op:BinOp} {t:TypeId} {ox oy:Operand} {x y:V} {x' y':Value} (h:ztK P op t x y Kv) (hx:zam P J O x x') (hy:zam P J O y y'):VOK P J O H (zgf P op t ox oy x' y' H) Kv:=h.out.elim
theorem zqD {op:BinOp} {t:TypeId} {ox oy:Operand} {x y:V} {x' y':Value} (h:zqC P op t ox oy x y Kv) (hx:zam P J O x x') (hy:zam P J O y y') (H:zaa):VOK P J O H (zgf P op t ox oy x' y' H) Kv:=by
 have slow:∀x y,zam P J O x x'->zam P J O y y'->zk7 P op t x y Kv->VOK P J O H (zgf P op t ox oy x' y' H) Kv:=by
  intro x y hx hy h
  unfold zk7 at h
  split at h
  .rename_i k a k' b ha hb
   cases hk:(k==k') with
   |false=>
    rw [hk] at h
    rw [zaL ha hx,zaL hb hy]
    have h:zqS op k a b Kv:=h
    unfold zqS at h
    split at h
    .obtain ⟨h0,h⟩:=h
     have hv:(binOp .shr t (.int k a) (.int k' b)).val? P=some (.int k (zbI k a b)):=by
      have e:binOp .shr t (.int k a) (.int k' b)=pure (.int k (zbI k a b)):=by
       simp only [binOp,Op.shift]
       rw [if_neg (by omega)];rfl
      rw [e];rfl
     refine ⟨_,.int k (zbI k a b), ?_,h,.int⟩
     have fl:Ev.flat (.int k (zbI k a b))=true:=rfl
     simp only [zgf,hk,cond_false,zaA,hv,fl,cond_true]
    .exact h.elim
   |true=>
    have:=eq_of_beq hk
    subst this
    rw [hk] at h
    rw [zaL ha hx,zaL hb hy]
    obtain ⟨v,v',h1,h2,h3⟩:=zqL (P:=P) (J:=J) (O:=O) (t:=t) (ox:=ox) (oy:=oy) h H
    exact ⟨v,v',h1,h2,h3⟩
  .split at h
   .rename_i a b ha hb
    rw [zc6 ha hx,zc6 hb hy]
    obtain ⟨v,v',h1,h2,h3⟩:=zqV (P:=P) (J:=J) (O:=O) (t:=t) (ox:=ox) (oy:=oy) h H
    exact ⟨v,v',h1,h2,h3⟩
   .split at h
    .rename_i a b ha hb
     cases hb':zbH P t with
     |false=>rw [hb'] at h;exact h.elim
     |true=>
      rw [hb'] at h
      rw [zcQ ha hx,zcQ hb hy]
      obtain ⟨v,v',h1,h2,h3⟩:=znq (P:=P) (J:=J) (O:=O) (t:=t) (ox:=ox) (oy:=oy) hb' h H
      exact ⟨v,v',h1,h2,h3⟩
    .split at h
     .cases hs:zai P t with
      |false=>rw [hs] at h;exact h.elim
      |true=>
       rw [hs] at h
       obtain ⟨e,hu⟩:∃e,P.underlying t=some (.slice e):=by unfold zai at hs;split at hs<;>simp_all
       have hy0:y'= .slice none 0 0:=by cases hy with|val _=>rfl
       subst hy0
       have fl0:Ev.flat (.slice none 0 0)=true:=rfl
       have fb:∀(s:Bool),Ev.flat (.bool s)=true:=λ_=>rfl
       -- nil against nil
       have nn:∀(o:BinOp),(o= .eql\/o= .neq)->zgf P o t ox oy (.slice none 0 0) (.slice none 0 0) H=some (.bool (match o with| .eql=>true|_=>false),H):=by
        intro o ho
        have nk:zdt P t (.slice none 0 0) (.slice none 0 0)=none:=by unfold zdt;split<;>simp_all
        have na:zd3 P o t (.slice none 0 0) (.slice none 0 0)=none:=by unfold zd3;rw [nk]
        have hq:∀d,(Op.equalIn (d+1) t (.slice none 0 0) (.slice none 0 0)).val? P=some true:=λd=>by
         unfold Op.equalIn
         rw [zac]
         have:(Go.underlying t).val? P=some (.slice e):=by
          unfold Go.underlying
          rw [zac]
          have:(Go.program).val? P=some P:=rfl
          rw [this]
          simp only [Option.bind_some,hu];rfl
         rw [this];rfl
        have hq:=hq 9999
        have hq:(Op.equal t (.slice none 0 0) (.slice none 0 0)).val? P=some true:=hq
        rcases ho with rfl|rfl
        .simp only [zgf,na,fl0,Bool.and_self,cond_true,zaA]
         rw [zac]
         have:(eqGuard .eql t ox oy (.slice none 0 0) (.slice none 0 0)).val? P=some ():=rfl
         rw [this]
         simp only [Option.bind_some,binOp]
         rw [zac,hq]
         rfl
        .simp only [zgf,na,fl0,Bool.and_self,cond_true,zaA]
         rw [zac]
         have:(eqGuard .neq t ox oy (.slice none 0 0) (.slice none 0 0)).val? P=some ():=rfl
         rw [this]
         simp only [Option.bind_some,binOp]
         rw [zac,hq]
         rfl
       have sn:∀(o:BinOp) ad l c,(o= .eql\/o= .neq)->zgf P o t ox oy (.slice (some ad) l c) (.slice none 0 0) H=some (.bool (match o with| .eql=>false|_=>true),H):=by
        intro o ad l c ho
        have nk:zdt P t (.slice (some ad) l c) (.slice none 0 0)=some false:=by simp only [zdt,hu]
        rcases ho with rfl|rfl<;>simp only [zgf,zd3,nk]<;>rfl
       simp only [cond_true] at h
       unfold ztJ at h
       split at h
       .rename_i d
        cases hx with
        |dat ht hrd=>
         rcases hrd.sliceInv ht with ⟨rfl,hcs⟩| ⟨l,i,o,c,sz,cs',rfl,hcs,_⟩
         .cases hcs;exact ⟨_,_,nn .eql (.inl rfl),h,by rw [show (true:Bool)=dec D.nil.isNil from (zb1 trivial).symm];exact .prop⟩
         .cases hcs;exact ⟨_,_,sn .eql _ _ _ (.inl rfl),h,by rw [show (false:Bool)=dec (D.list l).isNil from (zbp (λh=>h)).symm];exact .prop⟩
       .rename_i d
        cases hx with
        |dat ht hrd=>
         rcases hrd.sliceInv ht with ⟨rfl,hcs⟩| ⟨l,i,o,c,sz,cs',rfl,hcs,_⟩
         .cases hcs;exact ⟨_,_,nn .neq (.inr rfl),h,by rw [show (false:Bool)=dec (¬D.nil.isNil) from (zbp (λh=>h trivial)).symm];exact .prop⟩
         .cases hcs;exact ⟨_,_,sn .neq _ _ _ (.inr rfl),h,by rw [show (true:Bool)=dec (¬(D.list l).isNil) from (zb1 (λh=>h)).symm];exact .prop⟩
       .cases hx with
        |slcU _=>exact ⟨_,_,sn .eql _ _ _ (.inl rfl),h,.val rfl⟩
        |slc _ _ _ _=>exact ⟨_,_,sn .eql _ _ _ (.inl rfl),h,.val rfl⟩
       .cases hx with
        |slcU _=>exact ⟨_,_,sn .neq _ _ _ (.inr rfl),h,.val rfl⟩
        |slc _ _ _ _=>exact ⟨_,_,sn .neq _ _ _ (.inr rfl),h,.val rfl⟩
       .exact h.elim
     .exact zqR h hx hy
 unfold zqC at h
 split at h
 .rename_i a b
  split at h
  .rename_i v h1 hb
   cases hc:(zaD v&&zaD a&&zaD b) with
   |false=>rw [hc] at h;exact h.elim
   |true=>
    rw [hc] at h
    simp only [cond_true,zfh] at h
    simp only [Bool.and_eq_true] at hc
    have ea:x'=a:=by cases hx with|val _=>rfl|undef=>rfl
    have eb:y'=b:=by cases hy with|val _=>rfl|undef=>rfl
    subst ea eb
    exact ⟨_,v,(zrs hb).2 H,h,.val hc.1.1⟩
  .exact h.elim
 .exact slow _ _ hx hy h
theorem zsL {op:UnOp} {x:V} {x':Value} (h:zvs op x Kv) (hx:zam P J O x x') (H:zaa):VOK P J O H (unA P op x' H) Kv:=by
 have fb:∀(s:Bool),Ev.flat (.bool s)=true:=λ_=>rfl
 have fi:∀k (n:Int),Ev.flat (.int k n)=true:=λ_ _=>rfl
 unfold zvs at h
 split at h
 .rename_i b
  cases hx with
  |val _=>exact ⟨_,.bool (!b),rfl,h,.val rfl⟩
 .rename_i p
  cases hx with
  |prop=>
   refine ⟨_,.bool (!dec p),rfl,h, ?_⟩
   rw [<-zby (p:= ¬p) (b:= !dec p)]
   .exact .prop
   .by_cases hp:p<;>simp [zb1,zbp,hp]
 .split at h
  .rename_i k n hi
   rw [zaL hi hx]
   refine ⟨_,.int k (-n), ?_,h.2,.int⟩
   have hv:(Op.unary .neg (.int k n)).val? P=some (.int k (-n)):=by
    have:Op.unary .neg (.int k n)=Op.intArith .sub k 0 n:=rfl
    rw [this]
    show some (Value.int k (k.wrap (0-n)))=_
    rw [show (0:Int)-n= -n by omega,zdU h.1]
   simp only [unA,fi,cond_true,zaA,hv]
  .exact h.elim
 .exact h.elim
theorem znt {s d:TypeId} {x:V} {x':Value} (h:zle P s d x Kv) (hx:zam P J O x x') (H:zaa):VOK P J O H (zed P s d x' H) Kv:=by
 have und:∀t e,P.underlying t=some e->(Go.underlying t).val? P=some e:=λt e hu=>by
  unfold Go.underlying
  rw [zac]
  have:(Go.program).val? P=some P:=rfl
  rw [this]
  simp only [Option.bind_some,hu];rfl
 unfold zle at h
 split at h
 .rename_i es k hs hd
  have hv:∀kk n,(convert s d (.int kk n)).val? P=some (.int k (k.wrap n)):=λkk n=>by
   unfold convert
   rw [zac,und _ _ hs]
   simp only [Option.bind_some]
   rw [zac,und _ _ hd]
   simp only [Option.bind_some]
   rfl
  have hc:∀kk n,zed P s d (.int kk n) H=some (.int k (k.wrap n),H):=λkk n=>by
   have fi:∀k (n:Int),Ev.flat (.int k n)=true:=λ_ _=>rfl
   simp only [zed,fi,cond_true,zaA,hv]
  split at h
  .cases hx with
   |val _=>rw [zgw] at h;exact ⟨_,_,hc _ _,h,.val rfl⟩
  .cases hx with
   |int=>exact ⟨_,_,hc _ _,h,.int⟩
  .exact h.elim
 .rename_i hs hd
  split at h
  .rename_i w hw
   rw [zc6 hw hx]
   have hv:(convert s d (.string ⟨⟨w⟩⟩)).val? P=some (.string ⟨⟨w⟩⟩):=by
    unfold convert
    rw [zac,und _ _ hs]
    simp only [Option.bind_some]
    rw [zac,und _ _ hd]
    simp only [Option.bind_some]
    rfl
   have fi:∀s,Ev.flat (.string s)=true:=λ_=>rfl
   exact ⟨_,_,by simp only [zed,fi,cond_true,zaA,hv],h,.str⟩
  .exact h.elim
 .exact h.elim
theorem znC {c a b:V} {c' a' b':Value} (h:zln c a b Kv) (hc:zam P J O c c') (ha:zam P J O a a') (hb:zam P J O b b') (H:zaa):VOK P J O H (znl c' a' b' H) Kv:=by
 unfold zln at h
 split at h
 .rename_i t
  cases hc with
  |val _=>cases t with
   |true=>exact ⟨_,_,rfl,h,ha⟩
   |false=>exact ⟨_,_,rfl,h,hb⟩
 .rename_i p
  cases hc with
  |prop=>
   split at h
   .rename_i x y hx hy
    rw [zcQ hx ha,zcQ hy hb]
    refine ⟨_,.bool (cond (dec p) (dec x) (dec y)), ?_,h, ?_⟩
    .simp only [znl];cases dec p<;>rfl
    .rw [<-zby (p:=(p/\x)\/(¬p/\y)) (b:=cond (dec p) (dec x) (dec y))]
     .exact .prop
     .by_cases hp:p<;>by_cases hx:x<;>by_cases hy:y<;>simp [zb1,zbp,hp,hx,hy]
   .exact h.elim
 .exact h.elim
theorem zgY {s:TypeId} {x:V} {x':Value} {f:Nat} (h:zdA P s x f Kv) (hx:zam P J O x x') (H:zaa):VOK P J O H (zbz P s x' f H) Kv:=by
 unfold zdA at h
 split at h
 .rename_i b o fd hf
  cases hx with
  |ptr hν=>
   cases hs:zaj P fd.type with
   |none=>simp only [hs] at h
   |some n=>
    cases n with
    |zero=>simp only [hs] at h
    |succ n=>
     simp only [hs] at h
     refine ⟨_,.pointer (some ⟨_,o+fd.offset,none⟩), ?_,h,.ptr hν⟩
     simp only [zbz,hf,hs]
 .rename_i b n0 fd hf
  cases hx with
  |ept hν=>
   obtain ⟨fs,hu,hff⟩:=zeH hf
   cases hs:zaj P fd.type with
   |none=>simp only [hs] at h
   |some n=>
    cases n with
    |zero=>simp only [hs] at h
    |succ n=>
     simp only [hs] at h
     refine ⟨_,.pointer (some ⟨_,_+fd.offset,none⟩), ?_,h,.epf hν hu hff⟩
     simp only [zbz,hf,hs]
 .rename_i t d fd hf
  cases hx with
  |dpt hi hs h0 hl hrd=>
  rename_i i o sz z cs
  split at h
  .rename_i fs n hu hsz
   cases hc:(Nat.beq t s&&zfK P fs.toList 0) with
   |false=>rw [hc] at h;exact h.elim
   |true=>
    rw [hc] at h
    simp only [Bool.and_eq_true] at hc
    have ht:=Nat.eq_of_beq_eq_true hc.1
    subst ht
    have hff:fs[f]? =some fd:=by unfold zgs at hf;rw [hu] at hf;exact hf
    obtain ⟨q1,q2⟩:=hrd.field hu hc.2 hff hsz
    have hlen:((cs.drop o).take sz).length=sz:=by rw [List.length_take,List.length_drop];omega
    rw [hlen] at q1
    rw [List.drop_take,List.drop_drop,List.take_take,Nat.min_eq_left (by omega)] at q2
    refine ⟨_,.pointer (some ⟨i,o+fd.offset,none⟩), ?_,h,.dpt hi hsz (Nat.succ_pos n) (by omega) q2⟩
    simp only [zbz,hf,hsz]
  .exact h.elim
 .exact h.elim
theorem zli {t:TypeId} {x:V} {x':Value} {f:Nat} (h:zmF P t x f Kv) (hx:zam P J O x x') (H:zaa):VOK P J O H (zjq P t x' f H) Kv:=h.out.elim
theorem ziE {x:V} {x':Value} {ix:Nat} (h:zfq x ix Kv) (hx:zam P J O x x') (H:zaa):VOK P J O H (zeG x' ix H) Kv:=by
 unfold zfq at h
 split at h
 .rename_i vs
  cases hx with
  |tup h1 h2=>
   rename_i cs'
   split at h
   .rename_i v hv
    obtain ⟨v',hv',hvr⟩:=zaN.get (P:=P) (J:=J) (O:=O) ⟨h1,h2⟩ hv
    refine ⟨v,v', ?_,h,hvr⟩
    simp only [zeG,zdE]
    have:(⟨cs'⟩:Array Value)[ix]? =some v':=by simpa using hv'
    rw [this]
   .exact h.elim
 .exact h.elim
theorem zhg {x:V} {x':Value} (h:zeq x Kv) (hx:zam P J O x x') (H:zaa):VOK P J O H (zeO x' H) Kv:=by
 unfold zeq at h
 split at h
 .cases hx with|ptr hν=>exact ⟨_,_,rfl,h,.ptr hν⟩
 .cases hx with|ept hν=>exact ⟨_,_,rfl,h,.ept hν⟩
 .cases hx with|dpt a b c d e=>exact ⟨_,_,rfl,h,.dpt a b c d e⟩
 .cases hx with|fn a b c d=>exact ⟨_,_,rfl,h,.fn a b c d⟩
 .rename_i t0 d
  obtain ⟨hf,h⟩:=h
  rcases hx.fndInv with ⟨rfl,_⟩| ⟨g,ts,ds,cs,rfl,rfl,_,_⟩
  .exact hf.elim
  .exact ⟨_,_,rfl,h,hx⟩
 .exact h.elim
theorem znB {t:TypeId} {cs:List V} {ix:V} {x' ix':Value} (h:zqQ P t cs ix Kv) (hx:zam P J O (.agg cs) x') (hi:zam P J O ix ix') (H:zaa):VOK P J O H (zgA P t x' ix' H) Kv:=h.out.elim
theorem zlk {t:TypeId} {x ix:V} {x' ix':Value} (h:ziH P t x ix Kv) (hx:zam P J O x x') (hi:zam P J O ix ix') (H:zaa):VOK P J O H (zgA P t x' ix' H) Kv:=by
 unfold ziH at h
 split at h
 .exact znB h hx hi H
 split at h
 .rename_i i n s hn hs hu
  obtain ⟨⟨k,rfl⟩,hnv⟩:=zdu hn hi
  rw [zc6 hs hx]
  obtain ⟨h0,h1,h⟩:=h
  have hv:(Instr.index t (.string ⟨⟨s⟩⟩) (.int k i)).val? P=some (.int .u8 (zap s n.v)):=by
   unfold Instr.index
   rw [zac]
   have e1:(asIntOf (.int k i)).val? P=some (k,i):=rfl
   rw [e1]
   simp only [Option.bind_some]
   rw [zac]
   have:(Go.underlying t).val? P=some .string:=by
    unfold Go.underlying
    rw [zac]
    have:(Go.program).val? P=some P:=rfl
    rw [this]
    simp only [Option.bind_some,hu];rfl
   rw [this]
   simp only [Option.bind_some,if_pos h0]
   have hb:(⟨⟨s⟩⟩:ByteArray)[i.toNat]? =some (s[i.toNat]'(by omega)):=by
    have:i.toNat<(⟨⟨s⟩⟩:ByteArray).size:=by show i.toNat<s.length;omega
    rw [getElem?_pos (⟨⟨s⟩⟩:ByteArray) i.toNat this];rfl
   rw [hb]
   have:zap s n.v=(s[i.toNat]'(by omega)).toNat:=by
    rw [hnv];unfold zap;rw [List.getElem?_eq_getElem (by omega)];rfl
   rw [this];rfl
  have fi:∀k (n:Int),Ev.flat (.int k n)=true:=λ_ _=>rfl
  exact ⟨_,_,by simp only [zgA,zaA,hv,fi,cond_true],h,.int⟩
 .exact h.elim
end
end Go.Ev
