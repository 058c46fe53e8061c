/- Part of the proof. -/
import Derived.Test.YtdojhafbgoimeaaGreatDoorCoreSeW

namespace Go.Ev
noncomputable section
section
variable {P:Program} {base:Nat} {H0:zaa×Sig} {O:Nu} {J:Sig} {S:SS} {F:zab} {H:zaa}
theorem zja:∀(l:List UInt8),zfC (l.map λb=>Value.int .u8 b.toNat)=some l
 | []=>rfl
 |b::l=>by
  show cond (Nat.blt b.toNat 256) (match zfC (l.map λb=>Value.int .u8 b.toNat) with|some l=>some (UInt8.ofNat b.toNat::l)|none=>none) none=_
  rw [zja l,show Nat.blt b.toNat 256=true from Nat.ble_eq_true_of_le (UInt8.toNat_lt b)]
  simp
theorem zn5 {e:TypeId} {l:List D} {row:List Value} (hu:P.underlying e=some (.int .u8)) (hs:zaj P e=some 1) (hR:zbb P J e 1 l row) (hb:zn2 l):row=(zfD l).map λb=>Value.int .u8 b.toNat:=by
 have hlen:row.length=l.length:=by rw [hR.1,Nat.mul_one]
 apply List.ext_getElem (by simp [zfD,hlen])
 intro j h1 h2
 have hj:j<l.length:=by omega
 have hr:=hR.2 j l[j] (List.getElem?_eq_getElem hj)
 obtain ⟨n,hn,hd⟩:=hb.out l[j] (List.getElem_mem hj)
 rw [hd,Nat.mul_one,List.drop_eq_getElem_cons h1] at hr
 have hv:row[j]= .int .u8 n:=by
  rw [show (row[j]::row.drop (j+1)).take 1= [row[j]] from rfl] at hr
  generalize row[j]=v at hr
  cases hr with
  |int h _=>rw [hu] at h;cases h;rfl
 rw [hv]
 simp only [zfD,List.map_map,List.getElem_map,Function.comp]
 rw [hd]
 simp only [znW,Int.toNat_natCast]
 rw [UInt8.toNat_ofNat',show n%2^8=n from Nat.mod_eq_of_lt hn]
theorem zpA {t:TypeId} (h:znM P t=true):P.underlying t=some (.int .u8):=by unfold znM at h;split at h<;>simp_all
theorem zre (n:Nat):(Builtin.zeroCells (Value.int .i64 (.ofNat 0)).cells n).toList=(List.replicate n (0:Int)).map (Value.int .i64):=by
 simp only [Builtin.zeroCells,Value.cells,Array.toList_map,List.map_replicate]
 apply List.ext_getElem (by simp)
 intro j h1 h2
 simp only [List.getElem_map,List.getElem_replicate]
 have:∀k:Nat,(#[Value.int .i64 (.ofNat 0)]:Array Value)[k%1]! =Value.int .i64 0:=λk=>by rw [Nat.mod_one];rfl
 exact this _
theorem zrd (cs:Array Value):∀n:Nat,(Builtin.zeroCells cs n).toList=(List.replicate n cs.toList).flatten:=by
 intro n
 induction n with
 |zero=>simp [Builtin.zeroCells]
 |succ n ih=>
  rw [List.replicate_succ',List.flatten_append,<-ih]
  simp only [Builtin.zeroCells,Array.toList_map,Array.toList_range,List.flatten_cons,List.flatten_nil,List.append_nil]
  rw [Nat.succ_mul,List.range_add,List.map_append,List.map_map]
  congr 1
  apply List.ext_getElem (by simp)
  intro j h1 h2
  have hj:j<cs.size:=by simpa using h1
  simp only [List.getElem_map,List.getElem_range,Function.comp]
  rw [Nat.mul_comm,Nat.mul_add_mod,Nat.mod_eq_of_lt hj,getElem!_pos cs j hj]
  simp
theorem zrV {z:Value} (h:Ev.flat z=true):z.cells.toList.all zaD=true:=by
 unfold Ev.flat at h
 split at h
 .exact h
 .rename_i hz
  cases z<;>first|exact absurd rfl (hz _)| (simp only [Value.cells,List.all_cons,List.all_nil,Bool.and_true];exact h)
theorem zlc {K:V->SS->Prop} {t:TypeId} {x:V} {x':Value} (hr:SR P base H0 O J S F H) (h:ziC P S t x K) (hx:zam P J O x x'):OpR P base H0 O J S F (zeA P H t x') K:=by
 unfold ziC at h
 split at h
 .rename_i e b o n c hu
  split at h
  .rename_i e' l d hb hd
   cases hc:(Nat.beq e e'&&zcV P e&&Nat.ble S.ro b) with
   |false=>rw [hc] at h;exact h.elim
   |true=>
    rw [hc] at h
    simp only [Bool.and_eq_true] at hc
    obtain ⟨⟨c0,c1⟩,c3⟩:=hc
    have:=Nat.eq_of_beq_eq_true c0
    subst this
    have hro:=Nat.le_of_ble_eq_true c3
    obtain ⟨hbig,hle,hk0,hk1⟩:=h
    obtain ⟨i,z,hν,hB⟩:=hr.blkT _ _ hb
    obtain ⟨cs,m,hg,hsz,hz0,hlen,hrd⟩:=hB
    obtain ⟨zv,hz1,hz2⟩:=ziV (J:=J) hd c1
    have hzl:zv.cells.toList.length=z:=by have:=hz2.size;rw [hsz] at this;exact (Option.some.inj this).symm
    have hR:zbb P J e z l cs:=⟨hlen,hrd⟩
    have hmul:(o.v+n.v)*z<=l.length*z:=Nat.mul_le_mul_right _ hle
    rw [Nat.add_mul] at hmul
    rcases Nat.eq_zero_or_pos n.v with hn0|hn0
    .have hcl:∃ad cap,x'= .slice (some ⟨i,ad,none⟩) n.v cap:=by
      cases hx with
      |slcU hν'=>rw [hν] at hν';cases hν';exact ⟨_,_,rfl⟩
      |slc hν' _ _ _=>rw [hν] at hν';cases hν';exact ⟨_,_,rfl⟩
     obtain ⟨ad,cap,rfl⟩:=hcl
     have:zeA P H t (.slice (some ⟨i,ad,none⟩) n.v cap)=some (.tuple ⟨[]⟩,H):=by
      simp only [zeA,hu,hn0,Nat.beq_refl,cond_true]
     rw [this]
     exact OpR.pure hr (.tup rfl (λj v v' hv _=>by simp at hv)) (hk0 hn0)
    .have hoff:∃cap,x'= .slice (some ⟨i,o.v*z,none⟩) n.v cap:=by
      cases hx with
      |slcU hν'=>rw [hν] at hν';cases hν';exact ⟨_,rfl⟩
      |slc hν' hc' hn' ho=>
       rw [hν] at hν';cases hν'
       rename_i off c0
       have:off=o.v*z:=by rcases ho with ho|ho<;>first|exact ho|omega
       subst this
       exact ⟨_,rfl⟩
     obtain ⟨cap,rfl⟩:=hoff
     have hrow:=zbb.rep hz2 hzl n.v
     have hsl:((List.replicate n.v zv.cells.toList).flatten).length=n.v*z:=by rw [hrow.1,List.length_replicate]
     have hw:=zaM (o:=o.v*z) (vs:=(List.replicate n.v zv.cells.toList).flatten) hg (by rw [hsl,hlen];exact hmul) hrow.one
     have hb0:Nat.beq n.v 0=false:=ziY (by omega)
     have hfl:Ev.flat zv=true:=by have:=c1;unfold zcV at this;rw [hz1] at this;exact this
     have hs:zeA P H t (.slice (some ⟨i,o.v*z,none⟩) n.v cap)=some (.tuple ⟨[]⟩,(H.kill (H.mate i)).write i (some (.cells (zaZ cs (o.v*z) (List.replicate n.v zv.cells.toList).flatten) e z none false))):=by
      simp only [zeA,hu,hb0,cond_false,hz1,Nat.ble_eq_true_of_le hbig,zrV hfl,Bool.and_self,cond_true,zrd,hw]
     rw [hs]
     have hnew:zbb P J e z (l.take o.v++List.replicate n.v d++l.drop (o.v+n.v)) (zaZ cs (o.v*z) (List.replicate n.v zv.cells.toList).flatten):=by
      unfold zaZ
      rw [hsl,<-Nat.add_mul]
      exact ((hR.take o.v).append hrow).append (hR.drop (o.v+n.v))
     exact ⟨_,_,rfl,.tup [],_,O,J,hk1 hn0,hr.write hb hν hro (k':= .arr e _) (.arr hsz hz0 hnew),.tup rfl (λj v v' hv _=>by simp at hv),.refl _,.refl _,rfl,.write _ _ _ hro⟩
  .exact h.elim
 .exact h.elim
theorem ziz {K:V->SS->Prop} {t t2:TypeId} {s x:V} {s' x':Value} (hr:SR P base H0 O J S F H) (h:zfp P S t t2 s x K) (hs:zam P J O s s') (hx:zam P J O x x'):OpR P base H0 O J S F (zcF P H t s' x') K:=by
 unfold zfp at h
 split at h
 .rename_i e k z n kk hu hu2 hnl hin
  split at h
  .rename_i inf hi hz
   cases hc:(zkI P e&&zce P e&&Nat.ble inf.bytes 4096) with
   |false=>rw [hc] at h;exact h.elim
   |true=>
    rw [hc] at h
    simp only [Bool.and_eq_true] at hc
    obtain ⟨⟨c1,c2⟩,c3⟩:=hc
    obtain ⟨q0,q1,h⟩:=h
    have hu3:P.underlying e=some (.int .i64):=by unfold zkI at c1;split at c1<;>simp_all
    have hz1:zaj P e=some 1:=zhz c2
    have hs1:inf.size=1:=by unfold zaj at hz1;rw [hi] at hz1;exact Option.some.inj hz1
    have hzz:inf.zero=some (.int .i64 (.ofNat 0)):=by unfold zct at hz;rw [hi] at hz;exact hz
    have hn1:=zaL hin hx
    subst hn1
    obtain ⟨⟨k',hn2⟩,hmv⟩:=zdu hnl hx
    obtain ⟨zn,rfl⟩:∃zn:Nat,z=zn:=⟨z.toNat,by omega⟩
    cases hn2
    have hnv:n.v=zn:=by rw [hmv];rfl
    cases hs with
    |val _=>
    have hrow:=zsy (J:=J) hu3 hz1 (List.replicate zn (0:Int))
    have hf:(Value.int .i64 (.ofNat 0)).cells.toList.all zaD=true:=rfl
    have hcs:(Value.int .i64 (.ofNat 0)).cells.size=1:=rfl
    have ha:zcF P H t (.slice none 0 0) (.int .i64 ((zn:Nat):Int))=some (.slice (some ⟨H.next,0,none⟩) zn UNK,H.alloc (.cells ((List.replicate zn (0:Int)).map (Value.int .i64)) e 1 none false)):=by
     have e1:Nat.blt 0 zn=true:=Nat.ble_eq_true_of_le (by omega)
     have e2:Nat.ble zn 16777216=true:=Nat.ble_eq_true_of_le (by omega)
     show zcF P H t (.slice none 0 0) (.int .i64 (.ofNat zn))=_
     unfold zcF
     simp only [hu,hi,hzz,e1,e2,hs1,hcs,hf,c3,Nat.beq_refl,Bool.and_self,cond_true,show Nat.blt 0 1=true from rfl,zre,zd1,za2 hrow.one]
    rw [ha]
    rw [List.map_replicate] at hrow
    refine ⟨_,_,rfl,_,_,_,J,h,hr.alloc (z:=1) (k:= .arr e _) (λO' hν=> .arr hz1 (Nat.succ_pos 0) (by rw [hnv];exact hrow)), ?_,zfy _ _ _,.refl _,rfl,.alloc _ _⟩
    have:=zam.slcU (P:=P) (J:=J) (O:=λb=>if b=S.nx then some (H.next,1) else O b) (b:=S.nx) (o:= .lit 0) (n:=n) (if_pos rfl)
    rw [hnv] at this
    simpa [NL.v] using this
  .exact h.elim
 .exact h.elim
theorem znu {K:V->SS->Prop} {t:TypeId} {d s:V} {d' s':Value} (hr:SR P base H0 O J S F H) (h:zqI P S t d s K) (hd:zam P J O d d') (hs:zam P J O s s'):OpR P base H0 O J S F (zoM P H t d' s') K:=h.out.elim
theorem znv {K:V->SS->Prop} {x:V} {x':Value} (hr:SR P base H0 O J S F H) (h:zlg x K S) (hx:zam P J O x x'):OpR P base H0 O J S F (zoO [x'] H) K:=by
 unfold zlg at h
 split at h
 .rename_i b o n c
  obtain ⟨hn,h⟩:=h
  have hb0:Nat.beq n.v 0=false:=ziY hn
  cases hx with
  |slcU hν=>
   simp only [zoO,hb0,cond_false]
   exact OpR.pure hr (.ept hν) h
  |slc hν hc hnc ho=>
   rename_i ii zq off c0
   have:off=o.v*zq:=by rcases ho with ho|ho;exact ho;omega
   subst this
   simp only [zoO,hb0,cond_false]
   exact OpR.pure hr (.ept hν) h
 .cases hx with
  |val _=>exact OpR.pure hr (.val rfl) h
 .exact h.elim
theorem znG {K:V->SS->Prop} {ats:Array TypeId} {t:TypeId} {p n:V} {p' n':Value} (hr:SR P base H0 O J S F H) (ht:ats[0]? =some t) (h:zqW P S t p n K) (hp:zam P J O p p') (hn:zam P J O n n'):OpR P base H0 O J S F (ziu P ats [p',n'] H) K:=h.out.elim
theorem zlf {Kv:V->Prop} {s d:TypeId} {x:V} {x':Value} (hr:SR P base H0 O J S F H) (h:ziD P S s d x Kv) (hx:zam P J O x x'):VOK P J O H (zed P s d x' H) Kv:=by
 unfold ziD at h
 split at h
 .rename_i b o n c
  split at h
  .rename_i e e' l hs hd hb
   cases hc:(znM P e&&znM P e'&&zce P e') with
   |false=>rw [hc] at h;exact h.elim
   |true=>
    rw [hc] at h
    simp only [Bool.and_eq_true] at hc
    obtain ⟨hle,hby,h⟩:=h
    obtain ⟨i,z,hν,hB⟩:=hr.blkT _ _ hb
    obtain ⟨cs,m,hg,hsz,hz0,hlen,hrd⟩:=hB
    have hu':=zpA hc.1.2
    have hz1:zaj P e'=some 1:=zhz hc.2
    have:z=1:=by rw [hz1] at hsz;exact (Option.some.inj hsz).symm
    subst this
    have hR:zbb P J e' 1 ((l.drop o.v).take n.v) ((cs.drop o.v).take n.v):=by
     have:=(zbb.take (zbb.drop (⟨hlen,hrd⟩:zbb P J e' 1 l cs) o.v) n.v)
     simpa using this
    have hrow:=zn5 hu' hz1 hR hby
    have hcl:H.cells i=some cs:=by unfold zaa.cells;rw [hg]
    have hcs:o.v+n.v<=cs.length:=by rw [hlen];omega
    have key:∀off cap,(n.v≠0->off=o.v)->off<=o.v->zed P s d (.slice (some ⟨i,off,none⟩) n.v cap) H=some (.string ⟨⟨zfD ((l.drop o.v).take n.v)⟩⟩,H):=λoff cap h1 h2=>by
     have hrw:(cs.drop off).take n.v=(cs.drop o.v).take n.v:=by
      rcases Nat.eq_zero_or_pos n.v with hn0|hn0
      .rw [hn0];simp
      .rw [h1 (by omega)]
     simp only [zed,zrF,hs,hd,hcl,zpA hc.1.1,hrw,Nat.ble_eq_true_of_le (show off+n.v<=cs.length by omega),cond_true]
     rw [hrow,zja]
    cases hx with
    |slcU hν'=>
     rw [hν] at hν';cases hν'
     exact ⟨_,_,key _ _ (λ_=>by omega) (by omega),h,.str⟩
    |slc hν' hc' hn' ho=>
     rw [hν] at hν';cases hν'
     exact ⟨_,_,key _ _ (λhne=>by rcases ho with ho|ho<;>omega) (by omega),h,.str⟩
  .exact h.elim
 .rename_i b o
  split at h
  .rename_i t be cs hs hd hb
   cases hc:(Nat.blt o cs.length&&zvu P t) with
   |false=>rw [hc] at h;exact h.elim
   |true=>
    rw [hc] at h
    cases hx with
    |ptr hν=>
    rename_i i z
    obtain ⟨i',z',hν',cs',m,hg,hl⟩:=hr.blkT _ _ hb
    rw [hν] at hν';cases hν'
    rw [hl.1] at hc
    refine ⟨_,_, ?_,h,.ptr hν⟩
    have hq:zji P s d i o H=true:=by
     unfold zvu at hc
     simp only [zji,hs,hd,hg]
     cases hz:zaj P t<;>rw [hz] at hc<;>exact hc
    simp only [zed,hq,cond_true]
  .rename_i u be cs hs hd hb
   cases hc:(Nat.beq o 0&&Nat.beq be u&&zvt P u cs.length) with
   |false=>rw [hc] at h;exact h.elim
   |true=>
    rw [hc] at h
    cases hx with
    |ptr hν=>
    rename_i i z
    obtain ⟨i',z',hν',cs',m,hg,hl⟩:=hr.blkT _ _ hb
    rw [hν] at hν';cases hν'
    rw [hl.1] at hc
    refine ⟨_,_, ?_,h,.ptr hν⟩
    have hq:zji P s d i o H=true:=by
     unfold zvt at hc
     simp only [zji,hs,hd,hg]
     cases hz:zaj P u<;>rw [hz] at hc<;>exact hc
    simp only [zed,hq,cond_true]
  .exact h.elim
 .exact znt h hx H
def znL (S:SS) (O:Nu) (J:Sig) (H:zaa) (b:Nat):Sig:=λi=>
 match J i with
 |some c=>some c
 |none=>
  open Classical in
  if ∃x k z,(x=Bid.top b\/∃v e e' l j,S.hp.get b=some (.own v e e' l)/\x=Bid.sub v j)/\At S x k/\O x=some (i,z) then
   (match H.get i with|some (.cells cs _ esz _ _)=>some (cs,esz)|_=>none) else none
theorem SR.freeze (hr:SR P base H0 O J S F H) {b:Nat} {k:SB} (hb:S.hp.get b=some k) (hro:S.ro<=b):
  XS J (znL S O J H b)/\SR P base H0 O (znL S O J H b) (S.write b none) F H/\
   ∀x k i z cs e esz m ro,(x=Bid.top b\/∃v e e' l j,S.hp.get b=some (.own v e e' l)/\x=Bid.sub v j)->At S x k->O x=some (i,z)->H.get i=some (.cells cs e esz m ro)->znL S O J H b i=some (cs,esz):=by
 have hx:XS J (znL S O J H b):=λj c hj=>by unfold znL;rw [hj]
 have hin:∀x k i z cs e esz m ro,(x=Bid.top b\/∃v e e' l j,S.hp.get b=some (.own v e e' l)/\x=Bid.sub v j)->At S x k->O x=some (i,z)->H.get i=some (.cells cs e esz m ro)->znL S O J H b i=some (cs,esz):=λx k i z cs e esz m ro h1 h2 h3 h4=>by
  unfold znL
  rw [hr.apart x k i z h2 h3]
  simp only
  rw [if_pos ⟨x,k,z,h1,h2,h3⟩,h4]
 have hof:∀i c,znL S O J H b i=some c->J i=some c\/∃x k z e m ro,(x=Bid.top b\/∃v e e' l j,S.hp.get b=some (.own v e e' l)/\x=Bid.sub v j)/\At S x k/\O x=some (i,z)/\H.get i=some (.cells c.1 e c.2 m ro):=λi c h=>by
  unfold znL at h
  split at h
  .rename_i c' hc;left;rw [hc];exact h
  .right
   split at h
   .rename_i hex
    obtain ⟨x,k,z,h1,h2,h3⟩:=hex
    split at h
    .rename_i cs e esz m ro hg
     simp only [Option.some.injEq] at h
     subst h
     exact ⟨x,k,z,e,m,ro,h1,h2,h3,hg⟩
    .cases h
   .cases h
 -- what is gone stands apart from what stays
 have hgone:∀x k,At (S.write b none) x k->¬(x=Bid.top b\/∃v e e' l j,S.hp.get b=some (.own v e e' l)/\x=Bid.sub v j):=λx k h hh=>by
  obtain ⟨e1,h0,_⟩:=At.gone h
  rcases hh with hh| ⟨v,e,e',l,j,h1,rfl⟩
  .exact e1 hh
  .obtain ⟨c,q1,q2,l1,r,g1,_,_⟩:=h
   have g1':T.get (T.put S.hp b none) c=some (.own v q1 q2 l1):=g1
   rw [T.get_put] at g1'
   by_cases ec:c=b
   .rw [if_pos ec] at g1';cases g1'
   .rw [if_neg ec] at g1'
    exact ec (hr.vers.1 _ _ _ _ _ _ _ _ _ g1' h1)
 have hnone:∀x k i z,At (S.write b none) x k->O x=some (i,z)->znL S O J H b i=none:=λx k i z h hν=>by
  have h0:=(At.gone h).2.1
  cases hc:znL S O J H b i with
  |none=>rfl
  |some c=>
   rcases hof i c hc with h1| ⟨x',k',z',_,_,_,h1,h2,h3,_⟩
   .rw [hr.apart x k i z h0 hν] at h1;cases h1
   .have:=hr.inj _ _ _ _ _ _ _ h0 h2 hν h3
    subst this
    exact absurd h1 (hgone _ _ h)
 refine ⟨hx,⟨λt v h=>(hr.fr t v h).mono hx (.refl _),hr.fsz,hr.top,hr.mks, ?_,hr.lt,hr.dom,λx x' k1 k2 i1 z1 z2 a1 a2 h1 h2=>hr.inj _ _ _ _ _ _ _ (At.gone a1).2.1 (At.gone a2).2.1 h1 h2,λx k1 i1 z1 a hw h=>hr.own _ _ _ _ (At.gone a).2.1 ((At.gone a).2.2 hw) h, ?_,hnone, ?_,hr.wl,hr.old,hr.nxt,hr.role, ?_,hr.vers.gone b⟩,hin⟩
 .intro b' k h
  obtain ⟨_,h,_⟩:=At.gone h
  obtain ⟨i',z',h1,h2⟩:=hr.blk b' k h
  exact ⟨i',z',h1,h2.mono hx (.refl _)⟩
 .intro j c hj
  rcases hof j c hj with h1| ⟨x',k',z',e,m,ro,h1,h2,h3,h4⟩
  .exact hr.sig j c h1
  .exact ⟨hr.lt _ _ _ h3,e,m,ro,h4⟩
 .intro x k i' z' m' h h' hm
  obtain ⟨_,h0,aw⟩:=At.gone h
  obtain ⟨q1,q2,q3,q4⟩:=hr.mates x k i' z' m' h0 h' hm
  refine ⟨λhw=>q1 (aw hw),q2, ?_,λb2 k2 z2 hb2=>q4 b2 k2 z2 (At.gone hb2).2.1⟩
  cases hc:znL S O J H b m' with
  |none=>rfl
  |some c=>
   rcases hof m' c hc with h1| ⟨x',k',z',_,_,_,h1,h2,h3,_⟩
   .rw [q3] at h1;cases h1
   .exact absurd h3 (q4 _ _ _ h2)
 .refine ⟨λj c hj hlt=> ?_,hr.sb.2.mono hx⟩
  rcases hof j c hj with h1| ⟨x',k',z',_,_,_,h1,h2,h3,_⟩
  .exact hr.sb.1 j c h1 hlt
  .have hw:Wr S x':=by
    rcases h1 with rfl| ⟨v,e,e',l,j,h1,rfl⟩
    .exact hro
    .exact ⟨b,e,e',l,h1,hro⟩
   have:=hr.own _ _ _ _ h2 hw h3
   omega
def FzR (P:Program) (base:Nat) (H0:zaa×Sig) (O:Nu) (J:Sig) (S:SS) (F:zab) (H:zaa) (J1:Sig) (S1:SS):Prop:=
 SR P base H0 O J1 S1 F H/\XS J J1/\S1.fr=S.fr/\S1.nx=S.nx/\zaz S S1
theorem FzR.refl (hr:SR P base H0 O J S F H):FzR P base H0 O J S F H J S:=⟨hr,.refl _,rfl,rfl,.refl _⟩
theorem FzR.trans {J1 J2:Sig} {S1 S2:SS} (h:FzR P base H0 O J S F H J1 S1) (k:FzR P base H0 O J1 S1 F H J2 S2):FzR P base H0 O J S F H J2 S2:=
 ⟨k.1,h.2.1.trans k.2.1,k.2.2.1.trans h.2.2.1,k.2.2.2.1.trans h.2.2.2.1,h.2.2.2.2.trans k.2.2.2.2⟩
theorem zcY (hr:SR P base H0 O J S F H) {t:TypeId} {v:V} {v':Value} {K:V->SS->Prop} (h:zl1 P S t v K) (hv:zam P J O v v'):
  ∃u S1 J1,K u S1/\FzR P base H0 O J S F H J1 S1/\zam P J1 O u v':=by
 unfold zl1 at h
 split at h
 .rename_i b o n c
  split at h
  .rename_i e l hb
   cases hso:(zax P t e&&Nat.ble S.ro b) with
   |false=>rw [hso] at h;exact h.elim
   |true=>
    rw [hso] at h
    obtain ⟨hle,h⟩:=h
    simp only [Bool.and_eq_true] at hso
    obtain ⟨hso,hrb⟩:=hso
    obtain ⟨hu,hst⟩:=za7 hso
    obtain ⟨i,z,hν,hB⟩:=hr.blkT _ _ hb
    obtain ⟨cs,m,hg,hz,h0,hlen,hrd⟩:=hB
    obtain ⟨hx,hr1,hin⟩:=hr.freeze hb (Nat.le_of_ble_eq_true hrb)
    refine ⟨_,_,_,h,⟨hr1,hx,rfl,rfl,.write _ _ _ (Nat.le_of_ble_eq_true hrb)⟩, ?_⟩
    obtain ⟨off,cap,rfl,ho,hc⟩:=zmB hv hν
    exact zbU hu hst hz (hin _ _ _ _ _ _ _ _ _ (.inl rfl) (show At S (.top b) _ from hb) hν hg) (zbb.mono ⟨hlen,hrd⟩ hx) hle ho hc (.inl rfl)
  .rename_i a e l hb
   split at h
   .rename_i c
    cases hso:(zax P t e&&Nat.ble S.ro b) with
    |false=>rw [hso] at h;exact h.elim
    |true=>
     rw [hso] at h
     obtain ⟨hle,hlc,h⟩:=h
     simp only [Bool.and_eq_true] at hso
     obtain ⟨hso,hrb⟩:=hso
     obtain ⟨hu,hst⟩:=za7 hso
     obtain ⟨i,z,hν,cs,m,hg,hz,h0,hlen,hrd⟩:=hr.blkT _ _ hb
     obtain ⟨hx,hr1,hin⟩:=hr.freeze hb (Nat.le_of_ble_eq_true hrb)
     refine ⟨_,_,_,h,⟨hr1,hx,rfl,rfl,.write _ _ _ (Nat.le_of_ble_eq_true hrb)⟩, ?_⟩
     cases hv with
     |slc hν' hcu hnc ho=>
      rw [hν] at hν';cases hν'
      have hm:(o.v+c.v)*z<=l.length*z:=Nat.mul_le_mul_right _ hlc
      rw [Nat.add_mul] at hm
      exact zbU hu hst hz (hin _ _ _ _ _ _ _ _ _ (.inl rfl) (show At S (.top b) _ from hb) hν hg) (zbb.mono ⟨hlen,hrd⟩ hx) hle (by rcases ho with ho|ho;exact .inl ho;exact .inr ⟨by omega,ho.2⟩) (.inr ⟨hnc,hcu⟩) (.inr ⟨rfl,hcu,by rcases ho with ho|ho<;>omega⟩)
   .exact h.elim
  .rename_i w e e' l hb
   cases hso:(zax P t e&&Nat.ble S.ro b) with
   |false=>rw [hso] at h;exact h.elim
   |true=>
    rw [hso] at h
    obtain ⟨hle,hh,⟨hsl,hs1⟩,h⟩:=h
    simp only [Bool.and_eq_true] at hso
    obtain ⟨hso,hrb⟩:=hso
    obtain ⟨hu,hst⟩:=za7 hso
    obtain ⟨i,z,hν,hB⟩:=hr.blkT _ _ hb
    obtain ⟨cs,m,hg,hz,h0,hlen,hone,hrd⟩:=hB
    obtain ⟨hx,hr1,hin⟩:=hr.freeze hb (Nat.le_of_ble_eq_true hrb)
    refine ⟨_,_,_,h,⟨hr1,hx,rfl,rfl,.write _ _ _ (Nat.le_of_ble_eq_true hrb)⟩, ?_⟩
    obtain ⟨off,cap,rfl,ho,hc⟩:=zmB hv hν
    refine zbU hu hst hz (hin _ _ _ _ _ _ _ _ _ (.inl rfl) (show At S (.top b) _ from hb) hν hg) ⟨hlen,λj d hj=> ?_⟩ hle ho hc (.inl rfl)
    obtain ⟨e1,hu1⟩:∃e1,P.underlying e=some (.slice e1):=by unfold zai at hsl;split at hsl<;>simp_all
    have hst1:=zaw hs1
    have hz1:z=1:=by rw [hst1] at hz;exact (Option.some.inj hz).symm
    subst hz1
    rw [Nat.mul_one]
    have hjl:j<cs.length:=by have:=(List.getElem?_eq_some_iff.1 hj).1;omega
    have hone1:∀w,cs[j]? =some w->(cs.drop j).take 1= [w]:=λw hw=>by
     rw [List.getElem?_eq_getElem hjl] at hw
     simp only [Option.some.injEq] at hw
     rw [List.drop_eq_getElem_cons hjl]
     simp [hw]
    rcases hrd j d hj with ⟨h1,_,h2⟩| ⟨n,h1⟩| ⟨r,q,y,c,h1,_,h3,h4,h5,h6⟩
    .subst h1
     rw [hone1 _ (h2 hsl)]
     exact .nil hu1 hst1
    .subst h1
     exact absurd (List.mem_of_getElem? hj) (hh.out n)
    .subst h1
     rw [hone1 _ h5]
     have hat:At S (.sub w j) (.arr e' r):=⟨b,e,e',l,r,hb,hj,rfl⟩
     obtain ⟨i2,z2,hν2,hB2⟩:=hr.blk _ _ hat
     rw [h4] at hν2;cases hν2
     obtain ⟨cs2,m2,hg2,hs2,h02,hlen2,hrd2⟩:=hB2
     exact .list h3 hst1 hs2 (hin _ _ _ _ _ _ _ _ _ (.inr ⟨w,e,e',l,j,hb,rfl⟩) hat h4 hg2) (by rw [Nat.zero_add,hlen2];exact Nat.le_refl _) (by rcases h6 with h6|h6;exact .inl h6;exact .inr ⟨by omega,h6.2⟩) (.inl rfl) (λj2 d2 hj2=>by rw [Nat.zero_add];exact (hrd2 j2 d2 hj2).mono hx)
  .exact h.elim
 .exact ⟨v,S,J,h,.refl hr,hv⟩
theorem SR.ghost (hr:SR P base H0 O J S F H) {b i z:Nat} {k k':SB} (hk:S.hp.get b=some k) (hν:O (Bid.top b)=some (i,z)) (hb:zdf P J O z k' (H.get i)) (hno:k'.isOwn=false:=by rfl):SR P base H0 O J (S.write b (some k')) F H:=by
 have hg:∀b',(S.write b (some k')).hp.get b'=if b'=b then some k' else S.hp.get b':=λb'=>T.get_put _ _ _ _
 refine hr.remap hr.fr rfl (λx=>x) (λx k2 h=> ?_) (λ_ _ _ _ _ _ he=>he) hr.lt hr.dom hr.role (hr.vers.put hg (zcw.of hno) (Nat.le_refl _)) hr.mks
 rcases At.put (S:=S) (S':=S.write b (some k')) hg (zcw.of hno) rfl h with ⟨a,e⟩| ⟨_,a,w⟩
 .subst a;cases e
  refine ⟨k,hk,rfl,λh=>h,λi1 z1 h1 _=> ?_⟩
  have h1':O (.top b)=some (i1,z1):=h1
  rw [hν] at h1';cases h1'
  exact hb
 .exact ⟨k2,a,rfl,w,λ_ _ _ h=>h⟩
theorem zj3:∀(l:List (Tmp×Nat×TypeId)) {S:SS} {J:Sig} {K:SS->Prop},SR P base H0 O J S F H->zmG P l S K->∃S1 J1,K S1/\FzR P base H0 O J S F H J1 S1
 | [],S,J,K,hr,h=>⟨S,J,h,FzR.refl hr⟩
 |x::l,S,J,K,hr,h=>by
  simp only [zmG] at h
  split at h
  .rename_i b hfr
   split at h
   .rename_i be cs hb
    split at h
    .rename_i v hv
     cases hro:Nat.ble S.ro b with
     |false=>rw [hro] at h;exact h.elim
     |true=>
      rw [hro] at h
      simp only [cond_true] at h
      have hro:=Nat.le_of_ble_eq_true hro
      obtain ⟨i,z,hν,hB⟩:=hr.blkT _ _ hb
      obtain ⟨cs',m,hg,hl⟩:=hB
      obtain ⟨v',hv',hvr⟩:=hl.get hv
      obtain ⟨u,S1,J1,h,f1,hu⟩:=zcY hr h hvr
      split at h
      .rename_i be1 cs1 hb1
       obtain ⟨i1,z1,hν1,hB1⟩:=f1.1.blkT _ _ hb1
       rw [hν] at hν1;cases hν1
       obtain ⟨cs2,m1,hg1,hl1⟩:=hB1
       rw [hg] at hg1
       injection hg1 with hg1
       injection hg1 with q1 q2 q3 q4 q5
       subst q1
       have hro1:S1.ro<=b:=by have:=f1.2.2.2.2.ro;rw [this];exact hro
       have hg2:=f1.1.ghost (k':= .box be1 (cs1.set x.2.1 u)) hb1 hν ⟨cs',m,by rw [hg,q2],by simpa using hl1.1,λj w w' hw hw'=>by
        rw [List.getElem?_set] at hw
        split at hw
        .rename_i e
         split at hw
         .cases hw
          rw [<-e,hv'] at hw';cases hw'
          exact hu
         .cases hw
        .exact hl1.2 j w w' hw hw'⟩
       obtain ⟨S2,J2,h,f2⟩:=zj3 l hg2 h
       exact ⟨S2,J2,h,f1.trans (FzR.trans ⟨hg2,.refl _,rfl,rfl,.write _ _ _ hro1⟩ f2)⟩
      .exact h.elim
    .exact h.elim
   .exact h.elim
  .exact h.elim
theorem zkB:∀{ts:List TypeId} {vs:List V} {vs':List Value} {S:SS} {J:Sig} {K:List V->SS->Prop},SR P base H0 O J S F H->zwl P ts vs S K->zaN P J O vs vs'->
  ∃us S1 J1,K us S1/\FzR P base H0 O J S F H J1 S1/\zaN P J1 O us vs'
 |ts,[],vs',S,J,K,hr,h,hv=>⟨[],S,J,by cases ts<;>exact h,.refl hr,by rw [hv.nil_inv];exact .nil⟩
 | [],v::vs,vs',S,J,K,hr,h,hv=>⟨v::vs,S,J,h,.refl hr,hv⟩
 |t::ts,v::vs,vs',S,J,K,hr,h,hv=>by
  obtain ⟨v',r,rfl,h1,h2⟩:=hv.cons_inv
  obtain ⟨u,S1,J1,h,f1,hu⟩:=zcY hr (show zl1 P S t v (λv S=>zwl P ts vs S λvs S=>K (v::vs) S) from h) h1
  obtain ⟨us,S2,J2,h,f2,hus⟩:=zkB f1.1 h (h2.mono f1.2.1 (.refl _))
  exact ⟨u::us,S2,J2,h,f1.trans f2,.cons (hu.mono f2.2.1 (.refl _)) hus⟩
theorem zuw (hr:SR P base H0 O J S F H) {ts:List TypeId} {v:V} {v':Value} {K:V->SS->Prop} (h:zxp P S ts v K) (hv:zam P J O v v'):
  ∃u S1 J1,K u S1/\FzR P base H0 O J S F H J1 S1/\zam P J1 O u v':=by
 unfold zxp at h
 split at h
 .cases hv with
  |agg h1 h2=>
   obtain ⟨us,S1,J1,h,f1,hu⟩:=zkB hr h ⟨h1,h2⟩
   exact ⟨_,S1,J1,h,f1,.agg hu.1 hu.2⟩
 .split at h
  .exact zcY hr h hv
  .exact ⟨_,S,J,h,.refl hr,hv⟩
 .exact ⟨_,S,J,h,.refl hr,hv⟩
theorem zgz {ts:List TypeId}:∀{ps:List (Nat×V)} {vs':List Value} {S:SS} {J:Sig} {K:List (Nat×V)->SS->Prop},SR P base H0 O J S F H->zf1 P ts ps S K->zaN P J O (ps.map (·.2)) vs'->
  ∃us S1 J1,K us S1/\us.map (·.1)=ps.map (·.1)/\FzR P base H0 O J S F H J1 S1/\zaN P J1 O (us.map (·.2)) vs'
 | [],vs',S,J,K,hr,h,hv=>⟨[],S,J,h,rfl,.refl hr,hv⟩
 |x::ps,vs',S,J,K,hr,h,hv=>by
  obtain ⟨v',r,rfl,h1,h2⟩:=zaN.cons_inv (show zaN P J O (x.2::ps.map (·.2)) vs' from hv)
  obtain ⟨u,S1,J1,h,f1,hu⟩:=zuw hr (show zxp P S ts x.2 (λv S=>zf1 P ts ps S λps S=>K ((x.1,v)::ps) S) from h) h1
  obtain ⟨us,S2,J2,h,hm,f2,hus⟩:=zgz f1.1 h (h2.mono f1.2.1 (.refl _))
  exact ⟨(x.1,u)::us,S2,J2,h,by simp [hm],f1.trans f2,.cons (hu.mono f2.2.1 (.refl _)) hus⟩
theorem OpR.frozen {J1:Sig} {S1:SS} {r:Option (Value×zaa)} {K:V->SS->Prop} (f:FzR P base H0 O J S F H J1 S1) (h:OpR P base H0 O J1 S1 F r K):OpR P base H0 O J S F r K:=by
 obtain ⟨v',h',hr,v,S',O',J',k,sr,hv,hn,hx,hf,hk⟩:=h
 exact ⟨v',h',hr,v,S',O',J',k,sr,hv,by rw [<-f.2.2.2.1];exact hn,f.2.1.trans hx,hf.trans f.2.2.1,f.2.2.2.2.trans hk⟩
variable {K:V->SS->Prop}
theorem SR.drop (hr:SR P base H0 O J S F H) {b i z:Nat} {k:SB} (hk:S.hp.get b=some k) (hν:O (Bid.top b)=some (i,z)) (hro:S.ro<=b):
  SR P base H0 O J (S.write b none) F ((H.kill (H.mate i)).write i none):=hr.lose hk hν hro (λ_ _ _ _ _ h=>by cases h)
theorem SR.rebase {P:Program} (hr:SR P base H0 O J S F H) {wl:Nat} (hwl:H.next<=wl):SR P H.next (H,J) O J {S with ro:=S.nx} F {H with wlow:=wl}:=by
 have hat:∀x k,At {S with ro:=S.nx} x k->At S x k:=λx k h=>by cases x<;>exact h
 have hwr:∀x k i z,At S x k->Wr {S with ro:=S.nx} x->O x=some (i,z)->False:=λx k i z a hw h=>by
  cases x with
  |top b=>rw [hr.dom (.top b) hw] at h;cases h
  |sub v j=>
   obtain ⟨b,e,e',l,h1,h2⟩:=hw
   obtain ⟨i',z',h3,_⟩:=hr.blkT b _ h1
   rw [hr.dom (.top b) h2] at h3;cases h3
 exact ⟨hr.fr,hr.fsz,hr.top,hr.mks,λx k h=>hr.blk x k (hat x k h),hr.lt,hr.dom,λx x' k k' i z z' a1 a2=>hr.inj x x' k k' i z z' (hat _ _ a1) (hat _ _ a2),λx k i z a hw h=>(hwr x k i z (hat _ _ a) hw h).elim,hr.sig,λx k i z a=>hr.apart x k i z (hat _ _ a),
  λx k i z m h h' hm=>⟨λhw=>(hwr x k i z (hat _ _ h) hw h').elim,(hr.mates x k i z m (hat _ _ h) h' hm).2.1,(hr.mates x k i z m (hat _ _ h) h' hm).2.2.1,λx2 k2 z2 a2=>(hr.mates x k i z m (hat _ _ h) h' hm).2.2.2 x2 k2 z2 (hat _ _ a2)⟩,hwl,λ_ _=>rfl,Nat.le_refl _,Nat.le_refl _,⟨λ_ _ h _=>h,hr.sb.2⟩,hr.vers⟩
theorem zlq {C:Ctx} {G:Msk} {srun:zdW} {run:Run} (hfast:G.fast=false) (hbits:G.bits=C.bits) (hrun:ztT C.P srun run) {args:List V} {args':List Value}
  (hr:SR C.P base H0 O J S F H) (h:zmL C srun S args K) (hl:zaN C.P J O args args'):OpR C.P base H0 O J S F (zmC C.P G run args' H) K:=h.out.elim
theorem zzZ {P:Program} {J1 J2:Sig} {e:TypeId} {z:Nat} {l:List D} {cs:List Value} (h:zkI P e=true) (hr:zbb P J1 e z l cs):zbb P J2 e z l cs:=by
 have hu:P.underlying e=some (.int .i64):=by unfold zkI at h;split at h<;>simp_all
 refine ⟨hr.1,λj d hj=> ?_⟩
 have:=hr.2 j d hj
 generalize (List.take z (List.drop (j*z) cs))=c at this⊢
 cases this with
 |int h hs=>exact .int h hs
 |bool h _=>rw [hu] at h;cases h
 |str h _=>rw [hu] at h;cases h
 |nil h _=>rw [hu] at h;cases h
 |list h _ _ _ _ _ _ _=>rw [hu] at h;cases h
 |sct h _ _ _ _=>rw [hu] at h;cases h
 |arr h _ _ _ _=>rw [hu] at h;cases h
 |nilf h _=>rw [hu] at h;cases h
 |fn h _ _ _ _ _ _ _=>rw [hu] at h;cases h
theorem zmZ {C:Ctx} {G:Msk} {srun:zdW} {run:Run} (hfast:G.fast=false) (hbits:G.bits=C.bits) (hora:G.ora=C.ora) (htab:∀g,zkn C.P (G.tab g) (C.tab g)) (hsrt:G.srt=C.srt) (hsrtC:G.srtC=C.srtC) (hrun:ztT C.P srun run) (hcon:∀g c,C.con g=some c->zev C.P G run g c) {g:FuncId} {ts:List TypeId} {args:List V} {args':List Value}
  (hr:SR C.P base H0 O J S F H) (h:ziB C srun g ts args S K) (hl:zaN C.P J O args args'):OpR C.P base H0 O J S F (zgi C.P G run g args' H) K:=by
 have hext:zbV C.P g [undef]=none->zbV C.P g args'=none:=λh=>by
  unfold zbV at h⊢
  split at h
  .rename_i fn hf
   split at h
   .rename_i b hb;first|rfl|simp only [hb]
   .rename_i hb
    first|simp only [hb]|skip
    simp only at h
    split
    .rename_i v
     cases hq:(fn.name== "internal/abi.NoEscape" &&(fn.origin== "" ||fn.origin== "internal/abi.NoEscape")) with
     |true=>rw [hq] at h;cases h
     |false=>rfl
    .rfl
  .rename_i hf;first|rfl|rw [hf]
 have hcp:zjb C.P G run g args' H=zci C.P G run g ⟨args'⟩ H:=by unfold zjb;rw [hfast];rfl
 unfold ziB at h
 unfold zgi
 split at h
 .rename_i u x o he
  obtain ⟨x',r,rfl,hx,hn⟩:=hl.cons_inv
  have:=hn.nil_inv
  subst this
  have:zbV C.P g [x']=some x':=by
   unfold zbV at he⊢
   split at he
   .rename_i fn hf
    split at he
    .cases he
    .rename_i hb
     simp only at he
     cases hq:(fn.name== "internal/abi.NoEscape" &&(fn.origin== "" ||fn.origin== "internal/abi.NoEscape")) with
     |true=>simp only [hb,hq,cond_true]
     |false=>rw [hq] at he;cases he
   .cases he
  rw [this]
  exact OpR.pure hr hx h
 .exact h.elim
 .rename_i v he ho
  rw [hext he]
  have:=hl.nil_inv
  subst this
  simp only [hora,ho]
  cases hf:zaD v with
  |false=>rw [hf] at h;exact h.elim
  |true=>rw [hf] at h;exact OpR.pure hr (.val hf) h
 .rename_i A o1 B o2 he hno
  rw [hext he]
  simp only
  suffices hgo:OpR C.P base H0 O J S F (match G.tab g args' with|some v=>cond (args'.all Ev.flat) (some (v,H)) none|none=>(match G.srt g with|some f=>zsF f args' H|none=>cond (G.srtC g) (zmC C.P G run args' H) (zjb C.P G run g args' H))) K by
   split
   .rename_i v hv
    have ha:A= []:=List.eq_nil_of_length_eq_zero hl.1
    exact absurd (by rw [<-hora];exact hv) (hno v ha)
   .exact hgo
  have hT:=htab g
  split at h
  .rename_i c hc
   rw [hc] at hT
   split at h
   .rename_i p r hcr
    obtain ⟨hall,v,hv,hvr⟩:=hT _ _ _ hcr h.1 _ _ _ hl
    rw [hv,hall]
    exact OpR.pure hr hvr h.2
   .exact h.elim
  rename_i hct
  rw [hct] at hT
  rw [show G.tab g args'=none from hT args']
  rw [hsrt]
  split at h
  .rename_i f hsg
   rw [hsg];exact znE hr h hl
  rename_i hsg
  rw [hsg]
  rw [hsrtC]
  cases hsc:C.srtC g with
  |true=>rw [hsc] at h;exact zlq hfast hbits hrun hr h hl
  |false=>
  rw [hsc] at h
  simp only [cond_false] at h⊢
  suffices hgo:OpR C.P base H0 O J S F (zci C.P G run g ⟨args'⟩ H) K by
   rw [hcp];exact hgo
  split at h
  .rename_i c hc
   obtain ⟨us,h,hus,hfree⟩:=zdK hr h hl
   split at h
   .rename_i p e cp q l hcr
    cases hq:(A.all V.freeR||zkI C.P e) with
    |false=>rw [hq] at h;exact h.elim
    |true=>
     rw [hq] at h
     obtain ⟨hp,hy,hnil⟩:=h
     have fin:∀(v:Value) (H':zaa) (J':Sig),zci C.P G run g ⟨args'⟩ H=some (v,H')->XS J J'->zsY J' H'->(∀i c,J' i=some c->J i=some c\/H.next<=i)->H.next<=H'.next->(∀i,i<H.next->H'.get i=H.get i)->base<=H'.wlow->zzm C.P J' H H' e cp q l v->OpR C.P base H0 O J S F (zci C.P G run g ⟨args'⟩ H) K:=λv H' J' hcall hx hs hnew hn hg hw hv=>by
      rw [hcall]
      have hr1:=hr.grow hx hs hnew hn hg hw
      rcases hv with ⟨hnq,rfl⟩| ⟨hq1,i,z,cs,m,c',rfl,hcp,hi1,hi2,hi3,hgi,hsz,hz0,hrow,hmm⟩
      .exact ⟨_,H',rfl,.val (.slice none 0 0),S,O,J',hnil hnq,hr1,.val rfl,.refl _,hx,rfl,.refl _⟩
      .obtain ⟨O1,a1,a2,a3,a4⟩:=hr1.adopt (k:= .arr e l) (i:=i) (z:=z) (n:=H.next) hr.nxt hi1 hi2 hi3
        (λx k' j z' ha hν=>⟨hr.lt x j z' hν,λm hm=>(hr.mates x k' j z' m ha hν (by rw [<-zaa.mate_congr (hg j (hr.lt x j z' hν))];exact hm)).2.1⟩)
        (λm' hm'=>hmm m' (by unfold zaa.mate at hm';rw [hgi] at hm';exact hm')) ⟨cs,m,hgi,hsz,hz0,hrow.1,hrow.2⟩ rfl
       refine ⟨_,H',rfl,.slc S.nx (.lit 0) (.sym l.length) (cond cp (some (.sym l.length)) none),S.alloc (.arr e l),O1,J',hy hq1,a4, ?_,a3,hx,rfl,.alloc _ _⟩
       cases cp with
       |true=>
        obtain ⟨e1,e2⟩:=hcp
        subst e1
        exact .slc a1 e2 (Nat.le_refl _) (.inl (Nat.zero_mul _).symm)
       |false=>
        have hcp:c'=UNK:=hcp
        subst hcp
        have:=zam.slcU (P:=C.P) (J:=J') (O:=O1) (o:= .lit 0) (n:= .sym l.length) a1
        rw [show (NL.lit 0).v*z=0 from Nat.zero_mul _] at this
        exact this
     rcases Bool.or_eq_true _ _|>.mp hq with hfr|hi64
     .obtain ⟨v,H',J',hcall,hx,hs,hnew,hn,hg,hw,hv⟩:=hcon g c hc us p _ hcr hp _ H args' ⟨hr.sig,hr.sb.2⟩ (hfree hfr)
      exact fin v H' J' hcall hx hs hnew hn hg (hw _ hr.wl hr.nxt) hv
     .obtain ⟨v,H',J',hcall,hx,hs,hnew,hn,hg,hw,hv⟩:=hcon g c hc us p _ hcr hp _ H args' (zcN hr) hus
      have hsn:∀i,H.next<=i->J i=none:=λi hi=>by
       cases hc:J i with
       |none=>rfl
       |some c=>have:=(hr.sig i c hc).1;omega
      refine fin v H' J hcall (.refl _) ⟨λi c hi=> ?_,hr.sb.2⟩ (λi c hi=> .inl hi) hn hg (hw _ hr.wl hr.nxt) ?_
      .obtain ⟨q1,e,m,ro,q2⟩:=hr.sig i c hi
       exact ⟨Nat.lt_of_lt_of_le q1 hn,e,m,ro,by rw [hg i q1];exact q2⟩
      .rcases hv with hv| ⟨hq1,i,z,cs,m,c',rfl,hcp,hi1,hi2,hi3,hgi,hsz,hz0,hrow,hmm⟩
       .exact .inl hv
       .exact .inr ⟨hq1,i,z,cs,m,c',rfl,hcp,hi1,hi2,hsn i hi1,hgi,hsz,hz0,zzZ hi64 hrow,λm' hm'=>⟨(hmm m' hm').1,(hmm m' hm').2.1,hsn m' (hmm m' hm').1,(hmm m' hm').2.2.2⟩⟩
   .rename_i p r hno hcr
    cases hq:(r.freeR&&(r.plainR||A.all V.freeR)) with
    |false=>
     rw [hq] at h
     obtain ⟨bs,S1,J1,h,f1,hbs⟩:=zkB hr h hl
     split at h
     .rename_i p1 r1 hcr1
      obtain ⟨hp1,h⟩:=h
      cases hq1:(r1.freeR&&bs.all V.freeR) with
      |false=>rw [hq1] at h;exact h.elim
      |true=>
       rw [hq1] at h
       simp only [Bool.and_eq_true] at hq1
       have hl0:zaN C.P J1 (λ_=>none) bs args':=⟨hbs.1,λj v v' a b=>(hbs.2 j v v' a b).freeR (List.all_eq_true.1 hq1.2 v (List.mem_of_getElem? a)) _⟩
       have hr1:=f1.1
       obtain ⟨v,H',J',hcall,hx,hs,hnew,hn,hg,hw,hv⟩:=hcon g c hc bs p1 r1 hcr1 hp1 _ H args' ⟨hr1.sig,hr1.sb.2⟩ hl0
       rw [hcall]
       exact OpR.frozen f1 ⟨v,H',rfl,r1,S1,O,J',h,hr1.grow hx hs hnew hn hg (hw _ hr1.wl hr1.nxt),(hv.free hq1.1).mono (.refl _) (λb c hb=>by cases hb),.refl _,hx,rfl,.refl _⟩
     .exact h.elim
    |true=>
     rw [hq] at h
     obtain ⟨hp,h⟩:=h
     simp only [Bool.and_eq_true,Bool.or_eq_true] at hq
     have hV:=hcon g c hc
     have hplain:r.plainR=true->OpR C.P base H0 O J S F (zci C.P G run g ⟨args'⟩ H) K:=λhpl=>by
      obtain ⟨v,H',J',hcall,_,_,_,hn,hg,hw,hv⟩:=hV us p r hcr hp _ H args' (zcN hr) hus
      rw [hcall]
      refine ⟨v,H',rfl,r,S,O,J,h,hr.grow (.refl _) ⟨λi c hi=> ?_,hr.sb.2⟩ (λi c hi=> .inl hi) hn hg (hw _ hr.wl hr.nxt),(hv.free (V.freeR_of_plainR hpl)).plainR hpl _ _,.refl _,.refl _,rfl,.refl _⟩
      obtain ⟨q1,e,m,ro,q2⟩:=hr.sig i c hi
      exact ⟨Nat.lt_of_lt_of_le q1 hn,e,m,ro,by rw [hg i q1];exact q2⟩
     rcases hq.2 with hpl|hfr
     .exact hplain hpl
     .have hl0:=hfree hfr
      obtain ⟨v,H',J',hcall,hx,hs,hnew,hn,hg,hw,hv⟩:=hV us p r hcr hp _ H args' ⟨hr.sig,hr.sb.2⟩ hl0
      rw [hcall]
      exact ⟨v,H',rfl,r,S,O,J',h,hr.grow hx hs hnew hn hg (hw _ hr.wl hr.nxt),(hv.free hq.1).mono (.refl _) (λb c hb=>by cases hb),.refl _,hx,rfl,.refl _⟩
   .exact h.elim
  .exact zgj hfast hbits hrun hr h hl
theorem zn6 {C:Ctx} {G:Msk} {srun:zdW} {run:Run} (hfast:G.fast=false) (hbits:G.bits=C.bits) (hora:G.ora=C.ora) (htab:∀g,zkn C.P (G.tab g) (C.tab g)) (hsrt:G.srt=C.srt) (hsrtC:G.srtC=C.srtC) (hrun:ztT C.P srun run) (hcon:∀g c,C.con g=some c->zev C.P G run g c) {g:FuncId} {ts:List TypeId} {args:List V} {args':List Value}
  (hr:SR C.P base H0 O J S F H) (h:ziB C srun g ts args S K) (hl:zaN C.P J O args args'):OpR C.P base H0 O J S F (zhQ C.P G run g args' H) K:=by
 obtain ⟨v,H',e,rest⟩:=zmZ hfast hbits hora htab hsrt hsrtC hrun hcon hr h hl
 unfold zhQ
 rw [e]
 exact ⟨v,H',rfl,rest⟩
theorem znw {C:Ctx} {G:Msk} {run:Run} {g:FuncId} {args:List V} {args':List Value} {K:V->SS->Prop} {no:Prop} (hfast:G.fast=false) (htab:∀g,zkn C.P (G.tab g) (C.tab g)) (hsrt:G.srt=C.srt) (hsrtC:G.srtC=C.srtC)
  (hr:SR C.P base H0 O J S F H) (h:zlh C g args S K no) (hl:zaN C.P J O args args') (hno:no->OpR C.P base H0 O J S F (zhQ C.P G run g args' H) K):OpR C.P base H0 O J S F (zhQ C.P G run g args' H) K:=by
 unfold zlh at h
 exact hno h
end
end
end Go.Ev
