/- Part of the proof. -/
import Derived.Test.YtdojhafbgoimeaaGreatDoorCoreSe

namespace Go.Ev
noncomputable section
def dec (p:Prop):Bool:= @decide p (Classical.propDecidable p)
theorem zb1 {p:Prop} (h:p):dec p=true:=by unfold dec;simp [h]
theorem zbp {p:Prop} (h:¬p):dec p=false:=by unfold dec;simp [h]
theorem zby {p:Prop} {b:Bool} (h:b=true↔p):dec p=b:=by
 cases b with
 |true=>exact zb1 (h.1 rfl)
 |false=>exact zbp λhp=>by have:=h.2 hp;cases this
abbrev Sig:=Nat->Option (List Value×Nat)
def XS (J J':Sig):Prop:= ∀i c,J i=some c->J' i=some c
def znP (J:Sig):Prop:= ∀x∈(default:zdV).l,J x.g=some (x.cs,0)
theorem znP.mono {J J':Sig} (h:znP J) (hx:XS J J'):znP J':=λx m=>hx _ _ (h x m)
theorem XS.refl (J:Sig):XS J J:=λ_ _ h=>h
theorem XS.trans {a b c:Sig} (h:XS a b) (k:XS b c):XS a c:=λi x hx=>k i x (h i x hx)
inductive Bid where
 |top (b:Nat)
 |sub (v j:Nat)
def Bid.id:Bid->Nat
 | .top b=>b
 | .sub v _=>v
instance:Coe Nat Bid:=⟨Bid.top⟩
instance:DecidableEq Bid:=λ_ _=>Classical.propDecidable _
theorem Bid.top_inj {a b:Nat} (h:Bid.top a=Bid.top b):a=b:=by cases h;rfl
theorem Bid.top_ne {a b:Nat} (h:a≠b):Bid.top a≠Bid.top b:=λe=>h (Bid.top_inj e)
abbrev Nu:=Bid->Option (Nat×Nat)
def XN (O O':Nu):Prop:= ∀i c,O i=some c->O' i=some c
theorem XN.refl (O:Nu):XN O O:=λ_ _ h=>h
theorem XN.trans {a b c:Nu} (h:XN a b) (k:XN b c):XN a c:=λi x hx=>k i x (h i x hx)
inductive zan (P:Program) (J:Sig):TypeId->D->List Value->Prop
 |int {t:TypeId} {k:IntKind} {n:Int} (h:P.underlying t=some (.int k)) (hs:zaj P t=some 1):zan P J t (.int n) [.int k n]
 |bool {t:TypeId} {p:Prop} (h:P.underlying t=some .bool) (hs:zaj P t=some 1):zan P J t (.bool p) [.bool (dec p)]
 |str {t:TypeId} {s:List UInt8} (h:P.underlying t=some .string) (hs:zaj P t=some 1):zan P J t (.str s) [.string ⟨⟨s⟩⟩]
 |nil {t e:TypeId} (h:P.underlying t=some (.slice e)) (hs:zaj P t=some 1):zan P J t .nil [.slice none 0 0]
 |list {t e:TypeId} {l:List D} {i o c sz zz:Nat} {cs:List Value} (h:P.underlying t=some (.slice e)) (hs:zaj P t=some 1) (hz:zaj P e=some sz) (hi:J i=some (cs,zz))
   (hl:o+l.length*sz<=cs.length) (hc:c=UNK\/(l.length<=c/\c<UNK)) (hzz:zz=sz\/(zz=0/\c<UNK/\o+c*sz<=cs.length)) (he:∀(j:Nat) (d:D),l[j]? =some d->zan P J e d ((cs.drop (o+j*sz)).take sz)):
   zan P J t (.list l) [.slice (some ⟨i,o,none⟩) l.length c]
 |sct {t:TypeId} {fs:Array Field} {ds:List D} {css:List (List Value)} (h:P.underlying t=some (.struct fs)) (h1:css.length=fs.size) (h2:ds.length=fs.size) (hs:zaj P t=some css.flatten.length)
   (hf:∀(j:Nat) (f:Field) (d:D) (c:List Value),fs[j]? =some f->ds[j]? =some d->css[j]? =some c->zan P J f.type d c):zan P J t (.sct ds) css.flatten
 |arr {t e:TypeId} {n:Nat} {ds:List D} {css:List (List Value)} (h:P.underlying t=some (.array n e)) (h1:css.length=n) (h2:ds.length=n) (hs:zaj P t=some css.flatten.length)
   (hf:∀(j:Nat) (d:D) (c:List Value),ds[j]? =some d->css[j]? =some c->zan P J e d c):zan P J t (.sct ds) css.flatten
 |nilf {t:TypeId} {a b c} (h:P.underlying t=some (.func a b c)) (hs:zaj P t=some 1):zan P J t .nil [.nilFunc]
 |fn {t:TypeId} {a b c} {g:FuncId} {ts:List TypeId} {ds:List D} {cs:List Value} {ii oo ss zz:Nat->Nat} {bb:Nat->List Value} (h:P.underlying t=some (.func a b c)) (hs:zaj P t=some 1) (h1:ds.length=ts.length) (h2:cs.length=ts.length)
   (hp:∀(j:Nat) (v:Value),cs[j]? =some v->v= .pointer (some ⟨ii j,oo j,none⟩)) (hi:∀j,j<ts.length->J (ii j)=some (bb j,zz j)/\0<ss j/\oo j+ss j<=(bb j).length) (hz:∀(j:Nat) (tj:TypeId),ts[j]? =some tj->zaj P tj=some (ss j))
   (hf:∀(j:Nat) (tj:TypeId) (d:D),ts[j]? =some tj->ds[j]? =some d->zan P J tj d (((bb j).drop (oo j)).take (ss j))):zan P J t (.fn g ts ds) [.func (.func g) ⟨[]⟩ ⟨cs⟩]
section
variable {P:Program} {J J':Sig} {O O':Nu}
theorem zan.mono {t:TypeId} {d:D} {cs:List Value} (h:zan P J t d cs) (hx:XS J J'):zan P J' t d cs:=by
 induction h with
 |int h hs=>exact .int h hs
 |bool h hs=>exact .bool h hs
 |str h hs=>exact .str h hs
 |nil h hs=>exact .nil h hs
 |list h hs hz hi hl hc hzz _ ih=>exact .list h hs hz (hx _ _ hi) hl hc hzz ih
 |sct h h1 h2 hs _ ih=>exact .sct h h1 h2 hs ih
 |arr h h1 h2 hs _ ih=>exact .arr h h1 h2 hs ih
 |nilf h hs=>exact .nilf h hs
 |fn h hs h1 h2 hp hi hz _ ih=>exact .fn h hs h1 h2 hp (λj hj=>⟨hx _ _ (hi j hj).1,(hi j hj).2⟩) hz ih
theorem zan.size {t:TypeId} {d:D} {cs:List Value} (h:zan P J t d cs):zaj P t=some cs.length:=by
 cases h<;>first|assumption|simpa
theorem zan.one {t:TypeId} {d:D} {cs:List Value} (h:zan P J t d cs):cs.all zar=true:=by
 induction h with
 |sct h h1 h2 hs hf ih=>
  rename_i t fs ds css
  simp only [List.all_flatten,List.all_eq_true]
  intro c hc
  obtain ⟨j,hj⟩:=List.mem_iff_getElem?.1 hc
  have hlt:j<css.length:=(List.getElem?_eq_some_iff.1 hj).1
  have:=ih j (fs[j]'(by omega)) (ds[j]'(by omega)) c (Array.getElem?_eq_getElem (by omega)) (List.getElem?_eq_getElem (by omega)) hj
  exact List.all_eq_true.1 this
 |arr h h1 h2 hs hf ih=>
  rename_i t e n ds css
  simp only [List.all_flatten,List.all_eq_true]
  intro c hc
  obtain ⟨j,hj⟩:=List.mem_iff_getElem?.1 hc
  have hlt:j<css.length:=(List.getElem?_eq_some_iff.1 hj).1
  have:=ih j (ds[j]'(by omega)) c (List.getElem?_eq_getElem (by omega)) hj
  exact List.all_eq_true.1 this
 |_=>rfl
inductive zam (P:Program) (J:Sig) (O:Nu):V->Value->Prop
 |val {v:Value} (h:zaD v=true):zam P J O (.val v) v
 |undef:zam P J O (.val undef) undef
 |int {k:IntKind} {n:Int}:zam P J O (.int k n) (.int k n)
 |prop {p:Prop}:zam P J O (.prop p) (.bool (dec p))
 |str {s:List UInt8}:zam P J O (.str s) (.string ⟨⟨s⟩⟩)
 |agg {cs:List V} {cs':List Value} (h1:cs.length=cs'.length) (h2:∀(j:Nat) (v:V) (v':Value),cs[j]? =some v->cs'[j]? =some v'->zam P J O v v'):zam P J O (.agg cs) (.agg ⟨cs'⟩)
 |tup {cs:List V} {cs':List Value} (h1:cs.length=cs'.length) (h2:∀(j:Nat) (v:V) (v':Value),cs[j]? =some v->cs'[j]? =some v'->zam P J O v v'):zam P J O (.tup cs) (.tuple ⟨cs'⟩)
 |ptr {b o i z:Nat} (h:O b=some (i,z)):zam P J O (.ptr b o) (.pointer (some ⟨i,o,none⟩))
 |ept {b i z:Nat} {n:NL} (h:O b=some (i,z)):zam P J O (.ept b n) (.pointer (some ⟨i,n.v*z,none⟩))
 |epf {b i z:Nat} {n:NL} {e:TypeId} {f:Nat} {fs:Array Field} {fd:Field} (h:O b=some (i,z)) (hu:P.underlying e=some (.struct fs)) (hf:fs[f]? =some fd):zam P J O (.epf b n e f) (.pointer (some ⟨i,n.v*z+fd.offset,none⟩))
 |slcU {b i z:Nat} {o n:NL} (h:O b=some (i,z)):zam P J O (.slc b o n none) (.slice (some ⟨i,o.v*z,none⟩) n.v UNK)
 |osl {b v q z c:Nat} {i n:NL} (h:O (.sub v i.v)=some (q,z)) (hc:c=UNK\/(c=n.v/\c<UNK)):zam P J O (.osl b v i n) (.slice (some ⟨q,0,none⟩) n.v c)
 |oel {b v q z:Nat} {i n:NL} (h:O (.sub v i.v)=some (q,z)):zam P J O (.oel b v i n) (.pointer (some ⟨q,n.v*z,none⟩))
 |yld {b i z:Nat} (h:O b=some (i,z)):zam P J O (.yld b) (.func (.yield i) #[] #[])
 |slc {b i z off:Nat} {o n c:NL} (h:O b=some (i,z)) (hc:c.v<UNK) (hn:n.v<=c.v) (ho:off=o.v*z\/(c.v=0/\off<=o.v*z)):zam P J O (.slc b o n (some c)) (.slice (some ⟨i,off,none⟩) n.v c.v)
 |dat {t e:TypeId} {d:D} {v:Value} (ht:P.underlying t=some (.slice e)) (h:zan P J t d [v]):zam P J O (.dat t d) v
 |dpt {t:TypeId} {d:D} {i o sz z:Nat} {cs:List Value} (hi:J i=some (cs,z)) (hs:zaj P t=some sz) (h0:0<sz) (hl:o+sz<=cs.length) (h:zan P J t d ((cs.drop o).take sz)):zam P J O (.dpt t d) (.pointer (some ⟨i,o,none⟩))
 |fn {g:FuncId} {fs cs:List V} {fs' cs':List Value} (h1:fs.length=fs'.length) (h2:∀(j:Nat) (v:V) (v':Value),fs[j]? =some v->fs'[j]? =some v'->zam P J O v v')
   (h3:cs.length=cs'.length) (h4:∀(j:Nat) (v:V) (v':Value),cs[j]? =some v->cs'[j]? =some v'->zam P J O v v'):zam P J O (.fn g fs cs) (.func (.func g) ⟨fs'⟩ ⟨cs'⟩)
 |fndN {t:TypeId}:zam P J O (.fnd t .nil) .nilFunc
 |fnd {t:TypeId} {g:FuncId} {ts:List TypeId} {ds:List D} {cs:List Value} {ii oo ss zz:Nat->Nat} {bb:Nat->List Value} (h1:ds.length=ts.length) (h2:cs.length=ts.length)
   (hp:∀(j:Nat) (v:Value),cs[j]? =some v->v= .pointer (some ⟨ii j,oo j,none⟩)) (hi:∀j,j<ts.length->J (ii j)=some (bb j,zz j)/\0<ss j/\oo j+ss j<=(bb j).length) (hz:∀(j:Nat) (tj:TypeId),ts[j]? =some tj->zaj P tj=some (ss j))
   (hf:∀(j:Nat) (tj:TypeId) (d:D),ts[j]? =some tj->ds[j]? =some d->zan P J tj d (((bb j).drop (oo j)).take (ss j))):zam P J O (.fnd t (.fn g ts ds)) (.func (.func g) ⟨[]⟩ ⟨cs⟩)
def zaN (P:Program) (J:Sig) (O:Nu) (l:List V) (l':List Value):Prop:=l.length=l'.length/\∀(j:Nat) (v:V) (v':Value),l[j]? =some v->l'[j]? =some v'->zam P J O v v'
theorem zam.mono {v:V} {v':Value} (h:zam P J O v v') (hs:XS J J') (hn:XN O O'):zam P J' O' v v':=by
 induction h with
 |val h=>exact .val h
 |undef=>exact .undef
 |int=>exact .int
 |prop=>exact .prop
 |str=>exact .str
 |agg h1 _ ih=>exact .agg h1 ih
 |tup h1 _ ih=>exact .tup h1 ih
 |ptr h=>exact .ptr (hn _ _ h)
 |ept h=>exact .ept (hn _ _ h)
 |epf h hu hf=>exact .epf (hn _ _ h) hu hf
 |slcU h=>exact .slcU (hn _ _ h)
 |osl h hc=>exact .osl (hn _ _ h) hc
 |oel h=>exact .oel (hn _ _ h)
 |yld h=>exact .yld (hn _ _ h)
 |slc h hc hln ho=>exact .slc (hn _ _ h) hc hln ho
 |dat ht h=>exact .dat ht (h.mono hs)
 |dpt hi hs' h0 hl h=>exact .dpt (hs _ _ hi) hs' h0 hl (h.mono hs)
 |fn h1 _ h3 _ ih2 ih4=>exact .fn h1 ih2 h3 ih4
 |fndN=>exact .fndN
 |fnd h1 h2 hp hi hz hf=>exact .fnd h1 h2 hp (λj hj=>⟨hs _ _ (hi j hj).1,(hi j hj).2⟩) hz λj t d a b=>(hf j t d a b).mono hs
theorem zaN.mono {l:List V} {l':List Value} (h:zaN P J O l l') (hs:XS J J') (hn:XN O O'):zaN P J' O' l l':=⟨h.1,λj v v' a b=>(h.2 j v v' a b).mono hs hn⟩
theorem zaN.nil:zaN P J O [] []:=⟨rfl,λj v v' h _=>by simp at h⟩
theorem zaN.cons {v:V} {v':Value} {l:List V} {l':List Value} (h:zam P J O v v') (hl:zaN P J O l l'):zaN P J O (v::l) (v'::l'):=
 ⟨by simp [hl.1],λj u u' a b=>by
  cases j with
  |zero=>simp at a b;subst a;subst b;exact h
  |succ j=>exact hl.2 j u u' (by simpa using a) (by simpa using b)⟩
theorem zaN.cons_inv {v:V} {l:List V} {l':List Value} (h:zaN P J O (v::l) l'):∃v' r,l'=v'::r/\zam P J O v v'/\zaN P J O l r:=by
 cases l' with
 |nil=>have:=h.1;simp at this
 |cons v' r=>exact ⟨v',r,rfl,h.2 0 _ _ rfl rfl,by have:=h.1;simpa using this,λj u u' a b=>h.2 (j+1) u u' (by simpa using a) (by simpa using b)⟩
theorem zaN.nil_inv {l':List Value} (h:zaN P J O [] l'):l'= []:=List.eq_nil_of_length_eq_zero h.1.symm
theorem zaN.append {a b:List V} {a' b':List Value} (h:zaN P J O a a') (k:zaN P J O b b'):zaN P J O (a++b) (a'++b'):=by
 induction a generalizing a' with
 |nil=>rw [h.nil_inv];exact k
 |cons v a ih=>obtain ⟨v',r,rfl,h1,h2⟩:=h.cons_inv;exact .cons h1 (ih h2)
theorem zaN.drop {a:List V} {a':List Value} (h:zaN P J O a a') (n:Nat):zaN P J O (a.drop n) (a'.drop n):=⟨by simp [h.1],λj v v' x y=>h.2 (n+j) v v' (by simpa using x) (by simpa using y)⟩
theorem zaN.take {a:List V} {a':List Value} (h:zaN P J O a a') (n:Nat):zaN P J O (a.take n) (a'.take n):=⟨by simp [h.1],λj v v' x y=>by
 rw [List.getElem?_take] at x y
 split at x
 .rename_i hj;rw [if_pos hj] at y;exact h.2 j v v' x y
 .cases x⟩
theorem zaN.get {a:List V} {a':List Value} (h:zaN P J O a a') {j:Nat} {v:V} (hv:a[j]? =some v):∃v',a'[j]? =some v'/\zam P J O v v':=by
 have hj:j<a.length:=(List.getElem?_eq_some_iff.1 hv).1
 have hj':j<a'.length:=h.1▸hj
 exact ⟨a'[j],List.getElem?_eq_getElem hj',h.2 j v _ hv (List.getElem?_eq_getElem hj')⟩
theorem zaN.vals {l:List Value} (h:l.all zaD=true):zaN P J O (l.map .val) l:=⟨by simp,λj v v' a b=>by
 simp only [List.getElem?_map,b,Option.map_some,Option.some.injEq] at a
 subst a;exact .val (List.all_eq_true.1 h _ (List.mem_of_getElem? b))⟩
theorem zaN.rev {l:List V} {l':List Value} (h:zaN P J O l l') {j:Nat} {v':Value} (hv:l'[j]? =some v'):∃v,l[j]? =some v/\zam P J O v v':=by
 have hj:j<l'.length:=(List.getElem?_eq_some_iff.1 hv).1
 have hj':j<l.length:=h.1▸hj
 exact ⟨l[j],List.getElem?_eq_getElem hj',h.2 j _ v' (List.getElem?_eq_getElem hj') hv⟩
theorem zam.cells {v:V} {v':Value} (h:zam P J O v v'):zaN P J O v.cells v'.cells.toList:=by
 cases h with
 |agg h1 h2=>exact ⟨h1,h2⟩
 |dat ht h=>
  rename_i t e d
  have hk:=h
  have:v'.cells= #[v']:=by
   have h1:=h.one
   cases v'<;>first|rfl| (simp [zar] at h1)
  rw [this];exact .cons (.dat ht hk) .nil
 |fndN=>exact .cons .fndN .nil
 |fnd h1 h2 hp hi hz hf=>exact .cons (.fnd h1 h2 hp hi hz hf) .nil
 |val h=>
  have:v'.cells= #[v']:=by cases v'<;>first|rfl| (simp [zaD] at h)
  rw [this];exact .cons (.val h) .nil
 |undef=>exact .cons .undef .nil
 |int=>exact .cons .int .nil
 |prop=>exact .cons .prop .nil
 |str=>exact .cons .str .nil
 |tup h1 h2=>exact .cons (.tup h1 h2) .nil
 |ptr h=>exact .cons (.ptr h) .nil
 |ept h=>exact .cons (.ept h) .nil
 |epf h hu hf=>exact .cons (.epf h hu hf) .nil
 |slcU h=>exact .cons (.slcU h) .nil
 |osl h hc=>exact .cons (.osl h hc) .nil
 |yld h=>exact .cons (.yld h) .nil
 |oel h=>exact .cons (.oel h) .nil
 |slc h hc hn ho=>exact .cons (.slc h hc hn ho) .nil
 |dpt hi hs h0 hl h=>exact .cons (.dpt hi hs h0 hl h) .nil
 |fn h1 h2 h3 h4=>exact .cons (.fn h1 h2 h3 h4) .nil
theorem zam.one {v:V} {v':Value} (h:zam P J O v v') (ho:v.one=true):zar v'=true:=by
 cases h with
 |dat ht h=>simpa using h.one
 |val h=>exact ho
 |undef=>exact ho
 |agg=>simp [V.one] at ho
 |tup=>simp [V.one] at ho
 |_=>rfl
theorem zaN.one {l:List V} {l':List Value} (h:zaN P J O l l') (ho:l.all V.one=true):l'.all zar=true:=by
 rw [List.all_eq_true]
 intro v' hv
 obtain ⟨j,hj⟩:=List.mem_iff_getElem?.1 hv
 obtain ⟨v,h1,h2⟩:=h.rev hj
 exact h2.one (List.all_eq_true.1 ho v (List.mem_of_getElem? h1))
def zvG (P:Program) (O:Nu) (e e':TypeId) (z v j:Nat) (d:D) (cs:List Value):Prop:=
 (d= .nil/\z=1/\(zai P e=true->cs[j]? =some (.slice none 0 0)))\/(∃n,d= .int n)\/
  ∃r q y c,d= .list r/\z=1/\P.underlying e=some (.slice e')/\O (.sub v j)=some (q,y)/\cs[j]? =some (.slice (some ⟨q,0,none⟩) r.length c)/\(c=UNK\/(c=r.length/\c<UNK))
theorem zvG.mono {e e':TypeId} {z v j:Nat} {d:D} {cs:List Value} (h:zvG P O e e' z v j d cs) (hn:XN O O'):zvG P O' e e' z v j d cs:=by
 rcases h with h|h| ⟨r,q,y,c,h1,h2,h3,h4,h5⟩
 .exact .inl h
 .exact .inr (.inl h)
 .exact .inr (.inr ⟨r,q,y,c,h1,h2,h3,hn _ _ h4,h5⟩)
def ztR.st:ztR->LoopState
 | .ready=> .ready
 | .busy=> .busy
 | .ret| .exit _=> .done
def ztR.pend:ztR->Option Code
 | .ready| .busy=>none
 | .ret=>some .ret
 | .exit id=>some (.exit id)
def zdf (P:Program) (J:Sig) (O:Nu) (z:Nat) (k:SB) (bk:Option ABk):Prop:=
 match k with
 | .own v e e' l=>∃cs' m,bk=some (.cells cs' e z m false)/\zaj P e=some z/\0<z/\cs'.length=l.length*z/\cs'.all zar=true/\∀(j:Nat) (d:D),l[j]? =some d->zvG P O e e' z v j d cs'
 | .lp st _ fr sz ps as bd=>∃F0:zab,bk=some (.loop st.st st.pend F0 ps as bd)/\F0.size=sz/\sz<=TOP/\∀t v,fr.get t=some v->zam P J O v (F0.get t)
 | .dfr=>bk=some .deferred
 | .box e cs=>∃cs' m,bk=some (.cells cs' e 0 m false)/\zaN P J O cs cs'
 | .arr e l=>∃cs' m,bk=some (.cells cs' e z m false)/\zaj P e=some z/\0<z/\cs'.length=l.length*z/\∀(j:Nat) (d:D),l[j]? =some d->zan P J e d ((cs'.drop (j*z)).take z)
 | .grd a e l=>∃cs' m,bk=some (.cells cs' a 0 m false)/\zaj P e=some z/\0<z/\cs'.length=l.length*z/\∀(j:Nat) (d:D),l[j]? =some d->zan P J e d ((cs'.drop (j*z)).take z)
theorem zdf.mono {z:Nat} {k:SB} {bk:Option ABk} (h:zdf P J O z k bk) (hs:XS J J') (hn:XN O O'):zdf P J' O' z k bk:=by
 cases k with
 |box e cs=>obtain ⟨cs',m,h1,h2⟩:=h;exact ⟨cs',m,h1,h2.mono hs hn⟩
 |lp st g fr sz ps as bd=>obtain ⟨F0,h1,h2,h3,h4⟩:=h;exact ⟨F0,h1,h2,h3,λt v ht=>(h4 t v ht).mono hs hn⟩
 |dfr=>exact h
 |arr e l=>obtain ⟨cs',m,h1,h2,h3,h4,h5⟩:=h;exact ⟨cs',m,h1,h2,h3,h4,λj d hj=>(h5 j d hj).mono hs⟩
 |grd a e l=>obtain ⟨cs',m,h1,h2,h3,h4,h5⟩:=h;exact ⟨cs',m,h1,h2,h3,h4,λj d hj=>(h5 j d hj).mono hs⟩
 |own v e e' l=>obtain ⟨cs',m,h1,h2,h3,h4,h5,h6⟩:=h;exact ⟨cs',m,h1,h2,h3,h4,h5,λj d hj=>(h6 j d hj).mono hn⟩
def At (S:SS):Bid->SB->Prop
 | .top b,k=>S.hp.get b=some k
 | .sub v j,k=>∃b e e' l r,S.hp.get b=some (.own v e e' l)/\l[j]? =some (.list r)/\k= .arr e' r
def Wr (S:SS):Bid->Prop
 | .top b=>S.ro<=b
 | .sub v _=>∃b e e' l,S.hp.get b=some (.own v e e' l)/\S.ro<=b
def zki (S:SS):Prop:=(∀b b' v e1 e2 l e3 e4 l',S.hp.get b=some (.own v e1 e2 l)->S.hp.get b'=some (.own v e3 e4 l')->b=b')/\∀b v e e' l,S.hp.get b=some (.own v e e' l)->v<S.nx
def MkN (O:Nu):List Nat->List zfO->Prop
 | [],[]=>True
 |b::l,.col i::ms=>(∃z,O (.top b)=some (i,z))/\MkN O l ms
 |_,_=>False
theorem MkN.imp {l:List Nat} {ms:List zfO} (h:MkN O l ms) (hn:∀b i z,b∈l->O (.top b)=some (i,z)->O' (.top b)=some (i,z)):MkN O' l ms:=by
 induction l generalizing ms with
 |nil=>cases ms with
  |nil=>trivial
  |cons m ms=>exact h.elim
 |cons b l ih=>cases ms with
  |nil=>exact h.elim
  |cons m ms=>cases m with
   |col i=>exact ⟨h.1.imp λz hz=>hn b i z List.mem_cons_self hz,ih h.2 λb' i' z' hb'=>hn b' i' z' (List.mem_cons_of_mem _ hb')⟩
   |fn _ _=>exact h.elim
theorem MkN.mono {l:List Nat} {ms:List zfO} (h:MkN O l ms) (hn:XN O O'):MkN O' l ms:=h.imp λ_ _ _ _ e=>hn _ _ e
structure SR (P:Program) (base:Nat) (H0:zaa×Sig) (O:Nu) (J:Sig) (S:SS) (F:zab) (H:zaa):Prop where
 fr:∀t v,S.fr.get t=some v->zam P J O v (F.get t)
 fsz:S.sz=F.size
 top:F.size<=TOP
 mks:MkN O S.mks F.marks
 blk:∀x k,At S x k->∃i z,O x=some (i,z)/\zdf P J O z k (H.get i)
 lt:∀x i z,O x=some (i,z)->i<H.next
 dom:∀x:Bid,S.nx<=x.id->O x=none
 inj:∀x x' k k' i z z',At S x k->At S x' k'->O x=some (i,z)->O x'=some (i,z')->x=x'
 own:∀x k i z,At S x k->Wr S x->O x=some (i,z)->base<=i
 sig:∀i c,J i=some c->i<H.next/\∃e m ro,H.get i=some (.cells c.1 e c.2 m ro)
 apart:∀x k i z,At S x k->O x=some (i,z)->J i=none
 mates:∀x k i z m,At S x k->O x=some (i,z)->H.mate i=some m->(Wr S x->base<=m)/\m<H.next/\J m=none/\∀x' k' z',At S x' k'->O x'≠some (m,z')
 wl:base<=H.wlow
 old:∀i,i<base->H.get i=H0.1.get i
 nxt:base<=H.next
 role:S.ro<=S.nx
 sb:(∀i c,J i=some c->i<base->H0.2 i=some c)/\znP J
 vers:zki S
end
end
end Go.Ev
