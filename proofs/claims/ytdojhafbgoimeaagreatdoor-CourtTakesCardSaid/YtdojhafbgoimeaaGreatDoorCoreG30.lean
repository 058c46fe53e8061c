/- Part of the proof. -/
import Derived.Test.YtdojhafbgoimeaaGreatDoorCoreG29
import Derived.Test.YtdojhafbgoimeaaGreatDoorCoreG28

section
open Go.Proofs
namespace Go.Ev
noncomputable section
set_option maxRecDepth 100000
theorem zuW {d:D} (hd:u8C d):1<=mK d/\mK d<=10:=by
 have h:=hd.out.1
 have e:mK d=(1+((d.fld 0).asInt).tmod 10)%256:=rfl
 rw [e,Int.tmod_eq_emod_of_nonneg h.1]
 omega
theorem zkN {k:Int} (h:0<=k/\k<=3):zaY (zes k):=by
 have hk:k=0\/k=1\/k=2\/k=3:=by omega
 rcases hk with rfl|rfl|rfl|rfl
 all_goals exact ⟨by decide,by decide,λi hi=>by
  have hi:i<1:=hi
  have:i=0:=by omega
  subst this
  exact ⟨by decide,by decide⟩⟩
theorem zpG {k j:Int} (h:0<=k/\k<=3) (h':0<=j/\j<=3) (hn:k≠j):zes k≠zes j:=by
 have hk:k=0\/k=1\/k=2\/k=3:=by omega
 have hj:j=0\/j=1\/j=2\/j=3:=by omega
 rcases hk with rfl|rfl|rfl|rfl
 all_goals (rcases hj with rfl|rfl|rfl|rfl)
 all_goals first
  |exact absurd rfl hn
  |decide
theorem zif {d:D} (hd:u8C d):zaY (nm1 d):=zkN (ztp hd.out.2.2.1)
theorem zsk {d:D}:zaY (nm2 d):=zkN (ztp (zxE _).1)
theorem zyt {d:D} (hd:u8C d):nm1 d≠nm2 d:=by
 have h:=hd.out.2.2
 refine zpG (ztp h.1) (ztp (zxE _).1) ?_
 have e:IntKind.u8.wrap ((d.fld 2).asInt+1)=((d.fld 2).asInt+1)%256:=rfl
 rw [e,Int.tmod_eq_emod_of_nonneg h.1,Int.tmod_eq_emod_of_nonneg (by omega)]
 omega
theorem zmd {d:D} (hd:u8C d):1<=(D.list (mNm d)).len/\(D.list (mNm d)).len<=2/\¬zfP (.list (mNm d))/\¬zbi (.list (mNm d))/\sAt (.list (mNm d)) 0=nm1 d:=by
 unfold mNm
 split
 .refine ⟨Nat.le_refl 1,Nat.le_succ 1,λq=> ?_,λq=> ?_,rfl⟩
  .obtain ⟨i,h1,h2⟩:=q.out
   have h1:i<1:=h1
   have:i=0:=by omega
   subst this
   exact h2 (zif hd)
  .obtain ⟨i,k,h1,h2,_⟩:=q.out
   have h2:i<1:=h2
   omega
 .refine ⟨Nat.le_succ 1,Nat.le_refl 2,λq=> ?_,λq=> ?_,rfl⟩
  .obtain ⟨i,h1,h2⟩:=q.out
   have h1:i<2:=h1
   have:i=0\/i=1:=by omega
   rcases this with rfl|rfl
   .exact h2 (zif hd)
   .exact h2 zsk
  .obtain ⟨i,k,h1,h2,h3⟩:=q.out
   have h2:i<2:=h2
   have e1:i=1:=by omega
   have e2:k=0:=by omega
   subst e1 e2
   exact zyt hd h3
theorem zd4:¬zfP .nil/\¬zbi .nil:=⟨λq=>by obtain ⟨i,h1,_⟩:=q.out;exact absurd h1 (Nat.not_lt_zero _),λq=>by obtain ⟨i,k,_,h2,_⟩:=q.out;exact absurd h2 (Nat.not_lt_zero _)⟩
structure okM (d e:D) (r:List UInt8):Prop where
 form:zbq (cK e) (cA e) (cL e) (cNm e).len (cN e)
 bad:¬zfP (cNm e)
 twice:¬zbi (cNm e)
 kind:cK e=mK d
 am:cA e=mAm d r
 nms:mK d=1->cNm e= .list (mNm d)
 few:(cNm e).len<=2
theorem zuU {d:D} (hd:u8C d) (r:List UInt8):okM d (mC d r) r:=by
 have no:=zmd hd
 have mr:=zuW hd
 by_cases h1:mK d=1
 .rw [<-mC1 h1 rfl rfl]
  exact ⟨⟨.inl ⟨h1,no.1,by have:=no.2.1;show (D.list (mNm d)).len<=16;omega,rfl,(λh=>by cases h),(zea (d:=d) λk=>k h1).symm⟩⟩,no.2.2.1,no.2.2.2.1,rfl,rfl,λ_=>rfl,no.2.1⟩
 .by_cases h4:mK d=4
  .rw [<-mC4 h4 rfl]
   have w2:=zlx hd.out.2.1 2 (by omega)
   refine ⟨⟨.inr (.inr (.inl ⟨h4,rfl, ?_, ?_⟩))⟩,zd4.1,zd4.2,rfl,rfl,λh=>absurd h h1,Nat.zero_le _⟩
   .show 1<=1+IntKind.i64.wrap (((d.fld 1).asInt).tmod 2);omega
   .show 1+IntKind.i64.wrap (((d.fld 1).asInt).tmod 2)<=2;omega
  .by_cases h5:mK d=5
   .rw [<-mC5 h5 rfl]
    exact ⟨⟨.inr (.inr (.inr (.inl ⟨h5,rfl,rfl⟩)))⟩,zd4.1,zd4.2,rfl,rfl,λh=>absurd h h1,Nat.zero_le _⟩
   .by_cases h6:mK d=6
    .rw [<-mC6 h6 rfl rfl]
     exact ⟨⟨.inr (.inr (.inr (.inr (.inl ⟨.inl h6,no.1,by have:=no.2.1;show (D.list (mNm d)).len<=16;omega,rfl⟩))))⟩,no.2.2.1,no.2.2.2.1,rfl,rfl,λh=>absurd h h1,no.2.1⟩
    .by_cases h7:mK d=7
     .rw [<-mC7 h7 rfl rfl]
      exact ⟨⟨.inr (.inr (.inr (.inr (.inl ⟨.inr h7,no.1,by have:=no.2.1;show (D.list (mNm d)).len<=16;omega,rfl⟩))))⟩,no.2.2.1,no.2.2.2.1,rfl,rfl,λh=>absurd h h1,no.2.1⟩
     .by_cases h10:mK d=10
      .rw [<-zyr h10 rfl]
       have w64:=zlx hd.out.2.1 64 (by omega)
       refine ⟨⟨.inr (.inr (.inr (.inr (.inr ⟨h10,rfl, ?_, ?_,λh=>by cases h⟩))))⟩,zd4.1,zd4.2,rfl,rfl,λh=>absurd h h1,Nat.zero_le _⟩
       .show 0<=IntKind.i64.wrap (((d.fld 1).asInt).tmod 64);omega
       .show IntKind.i64.wrap (((d.fld 1).asInt).tmod 64)<=63;omega
      .rw [<-mC0 h1 h4 h5 h6 h7 h10 rfl]
       refine ⟨⟨.inr (.inl ⟨?_,rfl,rfl,λh=>by cases h⟩)⟩,zd4.1,zd4.2,rfl,rfl,λh=>absurd h h1,Nat.zero_le _⟩
       show mK d=2\/mK d=3\/mK d=8\/mK d=9
       omega
theorem zkO (m:D):∀i,mR m i≠ []->∃k,k<i/\mK (el m k)=1/\nm1 (el m k)=mR m i
 |0,h=>absurd rfl h
 |i+1,h=>by
  by_cases e:mK (el m i)=1
  .exact ⟨i,Nat.lt_succ_self _,e,zys e⟩
  .rw [<-zsi e] at h
   obtain ⟨k,h1,h2,h3⟩:=zkO m i h
   exact ⟨k,by omega,h2,by rw [<-zsi e];exact h3⟩
theorem zlF (d:D) (r:List UInt8):mAm d r=r\/mAm d r= []:=by
 unfold mAm;split
 .exact .inl rfl
 .exact .inr rfl
theorem zpJ {l:D} (hu:zq3 l) {i:Nat} (h:i<(m8 l).len):u8C (el (m8 l) i):=by
 have:=zjI l
 rw [zwC h];exact hu.out i (by omega)
theorem zth (n:Int) (l:D) {i:Nat} (h:i<(mG n l).len):el (gsD n l) i=gE (mG n l) i:=by
 show zad (zbC _).asList i=_
 rw [zeL]
 unfold zad gL
 rw [List.getElem?_map,List.getElem?_range h];rfl
theorem zpm (n:Int) (l:D):(gsD n l).len=(mG n l).len:=by
 show (zbC _).asList.length=_
 rw [zeL,zhn]
theorem zyl (n:Int) (l:D) {i:Nat} (h:i<(gsD n l).len):((el (gsD n l) i).fld (Nat.succ 6).succ).len<=100:=by
 rw [zpm] at h
 rw [zth n l h]
 show (pTg _ _).len<=100
 unfold pTg;split
 .exact Nat.zero_le _
 .show 1<=100;omega
end
end Go.Ev

end

section
open Go.Proofs
namespace Go.Ev
noncomputable section
set_option maxRecDepth 100000
def rdN (Lf:Nat->List Nat) (r:Nat):Nat->List Nat
 |0=> []
 |k+1=>if r<(Lf k).length then rdN Lf r k++ [atN (Lf k) r] else rdN Lf r k
def rnN (Lf:Nat->List Nat) (m:Nat):Nat->List Nat
 |0=> []
 |r+1=>rnN Lf m r++rdN Lf r m
theorem ztN {ll:D} {Lf:Nat->List Nat} {m r:Nat} (h:∀k,k<m->el ll k=iD (Lf k)):∀k,k<=m->tkR ll r k=iL (rdN Lf r k)
 |0,_=>rfl
 |k+1,hk=>by
  have ih:=ztN (r:=r) h k (by omega)
  have e:=h k (by omega)
  show (if r<(el ll k).len then tkR ll r k++ [.int (el (el ll k) r).asInt] else tkR ll r k)=iL (if r<(Lf k).length then rdN Lf r k++ [atN (Lf k) r] else rdN Lf r k)
  rw [e,zpo,ih]
  by_cases c:r<(Lf k).length
  .rw [if_pos c,if_pos c,zvY c,zjB];rfl
  .rw [if_neg c,if_neg c]
theorem ztP {ll:D} {Lf:Nat->List Nat} {m:Nat} (hl:ll.len=m) (h:∀k,k<m->el ll k=iD (Lf k)):∀r,ttL ll r=iL (rnN Lf m r)
 |0=>rfl
 |r+1=>by
  show ttL ll r++tkR ll r ll.len=iL (rnN Lf m r++rdN Lf r m)
  rw [ztP hl h r,hl,ztN h m (Nat.le_refl _),zjB]
theorem zwz (ll:D):∀n k,k<n->(el ll k).len<=lgN ll n
 |0,k,h=>absurd h (Nat.not_lt_zero _)
 |n+1,k,h=>by
  show _<=max (lgN ll n) (el ll n).len
  by_cases e:k=n
  .subst e;omega
  .have:=zwz ll n k (by omega);omega
structure lnF (m n:Nat) (K:Nat->Nat) (Lf:Nat->List Nat) (R:Nat) (rest:List Nat):Prop where
 mm:m<=4
 kl:∀v,K v<m\/K v=4
 lf:∀k,k<m->(Lf k).Perm ((List.range n).filter λv=>decide (K v=k))
 re:rest=(List.range n).filter λv=>decide (K v=4)
 rr:∀k,k<m->(Lf k).length<=R
section
variable {m n R:Nat} {K:Nat->Nat} {Lf:Nat->List Nat} {rest:List Nat}
theorem zwx (h:lnF m n K Lf R rest) {k v:Nat} (hk:k<m) (hv:v∈Lf k):K v=k/\v<n:=by
 have:=List.mem_filter.1 ((h.lf k hk).mem_iff.1 hv)
 exact ⟨of_decide_eq_true this.2,List.mem_range.1 this.1⟩
theorem znc (h:lnF m n K Lf R rest) {k r:Nat} (hk:k<m) (hr:r<(Lf k).length):K (atN (Lf k) r)=k:=(zwx h hk (zlJ hr)).1
theorem zjs {v j:Nat} (e:K v=j): [v].filter (λv=>decide (K v=j))= [v]:=by simp [e]
theorem zoU {v j:Nat} (e:K v≠j): [v].filter (λv=>decide (K v=j))= []:=by simp [e]
theorem zyg (h:lnF m n K Lf R rest):∀r k,k<=m->∀j,j<m->(rnN Lf m r++rdN Lf r k).filter (λv=>decide (K v=j))=(Lf j).take (r+if j<k then 1 else 0):=by
 intro r
 induction r with
 |zero=>
  intro k
  induction k with
  |zero=>intro _ j _;rw [if_neg (Nat.not_lt_zero _)];rfl
  |succ k ih=>
   intro hk j hj
   have ih:=ih (by omega) j hj
   show (rnN Lf m 0++(if 0<(Lf k).length then rdN Lf 0 k++ [atN (Lf k) 0] else rdN Lf 0 k)).filter _=_
   by_cases c:0<(Lf k).length
   .rw [if_pos c,<-List.append_assoc,List.filter_append,ih]
    by_cases e:j=k
    .subst e
     rw [zjs (znc h hj c),if_neg (by omega),if_pos (by omega),ziQ c,Nat.add_zero]
    .rw [zoU (by rw [znc h (by omega) c];omega),List.append_nil]
     by_cases q:j<k
     .rw [if_pos q,if_pos (by omega)]
     .rw [if_neg q,if_neg (by omega)]
   .rw [if_neg c,ih]
    by_cases e:j=k
    .subst e
     rw [List.take_of_length_le (by omega),List.take_of_length_le (by omega)]
    .by_cases q:j<k
     .rw [if_pos q,if_pos (by omega)]
     .rw [if_neg q,if_neg (by omega)]
 |succ r ihr=>
  intro k
  induction k with
  |zero=>
   intro _ j hj
   have:=ihr m (Nat.le_refl _) j hj
   rw [if_pos hj] at this
   rw [if_neg (Nat.not_lt_zero _)]
   show ((rnN Lf m r++rdN Lf r m)++ []).filter _=_
   rw [List.append_nil];exact this
  |succ k ih=>
   intro hk j hj
   have ih:=ih (by omega) j hj
   show (rnN Lf m (r+1)++(if r+1<(Lf k).length then rdN Lf (r+1) k++ [atN (Lf k) (r+1)] else rdN Lf (r+1) k)).filter _=_
   by_cases c:r+1<(Lf k).length
   .rw [if_pos c,<-List.append_assoc,List.filter_append,ih]
    by_cases e:j=k
    .subst e
     rw [zjs (znc h hj c),if_neg (by omega),if_pos (by omega),ziQ c,Nat.add_zero]
    .rw [zoU (by rw [znc h (by omega) c];omega),List.append_nil]
     by_cases q:j<k
     .rw [if_pos q,if_pos (by omega)]
     .rw [if_neg q,if_neg (by omega)]
   .rw [if_neg c,ih]
    by_cases e:j=k
    .subst e
     rw [List.take_of_length_le (by omega),List.take_of_length_le (by omega)]
    .by_cases q:j<k
     .rw [if_pos q,if_pos (by omega)]
     .rw [if_neg q,if_neg (by omega)]
theorem zp3 (h:lnF m n K Lf R rest) {r v:Nat}:∀k,k<=m->v∈rdN Lf r k->K v<m
 |0,_,hv=>by cases hv
 |k+1,hk,hv=>by
  have hv:v∈(if r<(Lf k).length then rdN Lf r k++ [atN (Lf k) r] else rdN Lf r k):=hv
  by_cases c:r<(Lf k).length
  .rw [if_pos c,List.mem_append] at hv
   rcases hv with hv|hv
   .exact zp3 h k (by omega) hv
   .rw [List.mem_singleton.1 hv,znc h (by omega) c];omega
  .rw [if_neg c] at hv;exact zp3 h k (by omega) hv
theorem ztx (h:lnF m n K Lf R rest) {v:Nat}:∀r,v∈rnN Lf m r->K v<m
 |0,hv=>by cases hv
 |r+1,hv=>by
  rcases List.mem_append.1 (show v∈rnN Lf m r++rdN Lf r m from hv) with hv|hv
  .exact ztx h r hv
  .exact zp3 h m (Nat.le_refl _) hv
theorem zzt (h:lnF m n K Lf R rest) {j:Nat} (hj:j<m):(rnN Lf m R).filter (λv=>decide (K v=j))=Lf j:=by
 have:=zyg h R 0 (Nat.zero_le _) j hj
 rw [if_neg (Nat.not_lt_zero _),Nat.add_zero,List.take_of_length_le (h.rr j hj)] at this
 rw [<-this];show _=(rnN Lf m R++ []).filter _;rw [List.append_nil]
theorem zyf (h:lnF m n K Lf R rest):(rnN Lf m R).filter (λv=>decide (K v=4))= []:=by
 refine List.filter_eq_nil_iff.2 λv hv=> ?_
 have:=ztx h R hv;have:=h.mm
 simp;omega
theorem zp4 (h:lnF m n K Lf R rest) {v:Nat} (hv:v∈rest):K v=4/\v<n:=by
 rw [h.re] at hv
 have:=List.mem_filter.1 hv
 exact ⟨of_decide_eq_true this.2,List.mem_range.1 this.1⟩
theorem zwg (h:lnF m n K Lf R rest) {j:Nat} (hj:j<m) {t:List Nat} (ht:∀v,v∈t->v∈rest):t.filter (λv=>decide (K v=j))= []:=by
 refine List.filter_eq_nil_iff.2 λv hv=> ?_
 have:=(zp4 h (ht v hv)).1;have:=h.mm
 simp;omega
theorem zwh (h:lnF m n K Lf R rest):rest.filter (λv=>decide (K v=4))=rest:=
 List.filter_eq_self.2 λv hv=>decide_eq_true (zp4 h hv).1
theorem zwf (h:lnF m n K Lf R rest) {j:Nat} (hj:j<m):(rnN Lf m R++rest).filter (λv=>decide (K v=j))=Lf j:=by
 rw [List.filter_append,zzt h hj,zwg h hj (λv hv=>hv),List.append_nil]
theorem zta (h:lnF m n K Lf R rest):(rnN Lf m R++rest).filter (λv=>decide (K v=4))=rest:=by
 rw [List.filter_append,zyf h,zwh h];rfl
theorem zuT (h:lnF m n K Lf R rest):(rnN Lf m R++rest).Perm (List.range n):=by
 refine List.perm_iff_count.2 λv=> ?_
 have e:∀l:List Nat,List.count v (l.filter λw=>decide (K w=K v))=List.count v l:=λl=>List.count_filter (by simp)
 rw [<-e,<-e (List.range n)]
 rcases h.kl v with hk|hk
 .rw [zwf h hk];exact (h.lf _ hk).count_eq v
 .rw [hk,zta h,<-h.re]
theorem znX {a b:List Nat} {p:Nat} (h:p<a.length):atN (a++b) p=atN a p:=by unfold atN;rw [List.getElem?_append_left h]
theorem zt1 (a:List Nat) (x:Nat) (b:List Nat):atN (a++x::b) a.length=x:=by unfold atN;rw [List.getElem?_append_right (Nat.le_refl _),Nat.sub_self];rfl
theorem zyz (h:lnF m n K Lf R rest):∀r k,k<=m->∀p,p<(rnN Lf m r++rdN Lf r k).length->∃r' k',k'<m/\r'<(Lf k').length/\(rnN Lf m r++rdN Lf r k).take p=rnN Lf m r'++rdN Lf r' k'/\atN (rnN Lf m r++rdN Lf r k) p=atN (Lf k') r':=by
 have step:∀r k,k<m->(∀p,p<(rnN Lf m r++rdN Lf r k).length->∃r' k',k'<m/\r'<(Lf k').length/\(rnN Lf m r++rdN Lf r k).take p=rnN Lf m r'++rdN Lf r' k'/\atN (rnN Lf m r++rdN Lf r k) p=atN (Lf k') r')->
   ∀p,p<(rnN Lf m r++rdN Lf r (k+1)).length->∃r' k',k'<m/\r'<(Lf k').length/\(rnN Lf m r++rdN Lf r (k+1)).take p=rnN Lf m r'++rdN Lf r' k'/\atN (rnN Lf m r++rdN Lf r (k+1)) p=atN (Lf k') r':=by
  intro r k hk ih p hp
  by_cases c:r<(Lf k).length
  .have e:rnN Lf m r++rdN Lf r (k+1)=(rnN Lf m r++rdN Lf r k)++ [atN (Lf k) r]:=by
    show rnN Lf m r++(if r<(Lf k).length then rdN Lf r k++ [atN (Lf k) r] else rdN Lf r k)=_
    rw [if_pos c,List.append_assoc]
   rw [e] at hp⊢
   rw [List.length_append] at hp
   by_cases q:p<(rnN Lf m r++rdN Lf r k).length
   .obtain ⟨r',k',h1,h2,h3,h4⟩:=ih p q
    exact ⟨r',k',h1,h2,by rw [List.take_append_of_le_length (by omega)];exact h3,by rw [znX q];exact h4⟩
   .have hp:p<_+1:=hp
    have e2:p=(rnN Lf m r++rdN Lf r k).length:=by omega
    exact ⟨r,k,hk,c,by rw [e2,List.take_left' rfl],by rw [e2,zt1]⟩
  .have e:rdN Lf r (k+1)=rdN Lf r k:=by
    show (if r<(Lf k).length then rdN Lf r k++ [atN (Lf k) r] else rdN Lf r k)=_
    rw [if_neg c]
   rw [e] at hp⊢
   exact ih p hp
 intro r
 induction r with
 |zero=>
  intro k
  induction k with
  |zero=>intro _ p hp;exact absurd hp (Nat.not_lt_zero _)
  |succ k ih=>intro hk;exact step 0 k (by omega) (ih (by omega))
 |succ r ihr=>
  intro k
  induction k with
  |zero=>
   intro _
   have:=ihr m (Nat.le_refl _)
   have e:rnN Lf m (r+1)++rdN Lf (r+1) 0=rnN Lf m r++rdN Lf r m:=List.append_nil _
   rw [e];exact this
  |succ k ih=>intro hk;exact step (r+1) k (by omega) (ih (by omega))
theorem zwM (h:lnF m n K Lf R rest) {p:Nat} (hp:p<(rnN Lf m R++rest).length):
  (∃r k,k<m/\r<(Lf k).length/\(rnN Lf m R++rest).take p=rnN Lf m r++rdN Lf r k/\K (atN (rnN Lf m R++rest) p)=k)\/
  (K (atN (rnN Lf m R++rest) p)=4/\∃t,(∀v,v∈t->v∈rest)/\(rnN Lf m R++rest).take p=rnN Lf m R++t):=by
 by_cases c:p<(rnN Lf m R).length
 .have e:rnN Lf m R++rdN Lf R 0=rnN Lf m R:=List.append_nil _
  obtain ⟨r,k,h1,h2,h3,h4⟩:=zyz h R 0 (Nat.zero_le _) p (by rw [e];exact c)
  rw [e] at h3 h4
  exact .inl ⟨r,k,h1,h2,by rw [List.take_append_of_le_length (by omega)];exact h3,by rw [znX c,h4];exact znc h h1 h2⟩
 .refine .inr ⟨?_,rest.take (p-(rnN Lf m R).length),λv hv=>List.mem_of_mem_take hv, ?_⟩
  .rw [List.length_append] at hp
   have:atN (rnN Lf m R++rest) p=atN rest (p-(rnN Lf m R).length):=by unfold atN;rw [List.getElem?_append_right (by omega)]
   rw [this]
   exact (zp4 h (zlJ (by omega))).1
  .rw [List.take_append,List.take_of_length_le (by omega)]
theorem zvA (h:lnF m n K Lf R rest) {y:Nat} (hy:y<m):((List.range n).filter λv=>decide (K v=y)).length=(Lf y).length:=(h.lf y hy).length_eq.symm
theorem zus (h:lnF m n K Lf R rest) {p y:Nat} (hp:p<(rnN Lf m R++rest).length) (hy:y<m) (hn:y≠K (atN (rnN Lf m R++rest) p))
  (hl:((((rnN Lf m R++rest).take p).filter λv=>decide (K v=y)).length)<((List.range n).filter λv=>decide (K v=y)).length):
  K (atN (rnN Lf m R++rest) p)≠4/\¬((((rnN Lf m R++rest).take p).filter λv=>decide (K v=y)).length<(((rnN Lf m R++rest).take p).filter λv=>decide (K v=K (atN (rnN Lf m R++rest) p))).length)/\
   ¬((((rnN Lf m R++rest).take p).filter λv=>decide (K v=y)).length=(((rnN Lf m R++rest).take p).filter λv=>decide (K v=K (atN (rnN Lf m R++rest) p))).length/\y<K (atN (rnN Lf m R++rest) p)):=by
 have mm:=h.mm
 rw [zvA h hy] at hl
 rcases zwM h hp with ⟨r,k,hk,hr,e,ek⟩| ⟨e4,t,ht,e⟩
 .rw [ek] at hn⊢
  rw [e] at hl⊢
  rw [zyg h r k (by omega) y hy,List.length_take] at hl⊢
  rw [zyg h r k (by omega) k hk,if_neg (Nat.lt_irrefl _),List.length_take]
  by_cases c:y<k
  .rw [if_pos c] at hl⊢;omega
  .rw [if_neg c] at hl⊢;omega
 .rw [e,List.filter_append,zzt h hy,zwg h hy ht,List.append_nil] at hl
  exact absurd hl (Nat.lt_irrefl _)
theorem zwK (h:lnF m n K Lf R rest) {Q:Nat->Nat->Nat->Prop} (h1:∀k,k<m->(Lf k).Pairwise (Q k)) (h4:rest.Pairwise (Q 4)) {p q:Nat} (hpq:p<q) (hq:q<(rnN Lf m R++rest).length)
  (hk:K (atN (rnN Lf m R++rest) p)=K (atN (rnN Lf m R++rest) q)):Q (K (atN (rnN Lf m R++rest) q)) (atN (rnN Lf m R++rest) p) (atN (rnN Lf m R++rest) q):=by
 have hw:∀j,(j<m\/j=4)->((rnN Lf m R++rest).filter (λv=>decide (K v=j))).Pairwise (Q j):=λj hj=>by
  rcases hj with hj|rfl
  .rw [zwf h hj];exact h1 j hj
  .rw [zta h];exact h4
 have:=List.pairwise_filter.1 (hw _ (h.kl (atN (rnN Lf m R++rest) q)))
 have zlI:∀{l:List Nat} {i:Nat} (hi:i<l.length),l[i]? =some (atN l i):=λhi=>by unfold atN;rw [List.getElem?_eq_getElem hi];rfl
 exact zu9 this hpq (zlI (by omega)) (zlI hq) (decide_eq_true hk) (decide_eq_true rfl)
end
end
end Go.Ev

end

section
open Go.Proofs
namespace Go.Ev
noncomputable section
set_option maxRecDepth 100000
theorem zkc (l:D):(tcD l).len=(m8 l).len+1:=by
 show (mL (m8 l) (m8 l).len++ [zfB]).length=_
 rw [List.length_append,zd2];rfl
theorem zsM (l:D) {i:Nat} (h:i<(m8 l).len):el (tcD l) i=mC (el (m8 l) i) (mR (m8 l) i):=by
 show zad (mL (m8 l) (m8 l).len++ [zfB]) i=_
 unfold zad
 rw [List.getElem?_append_left (by rw [zd2];exact h)]
 unfold mL
 rw [List.getElem?_map,List.getElem?_range h];rfl
theorem zqX (l:D):el (tcD l) (m8 l).len=zfB:=by
 show zad (mL (m8 l) (m8 l).len++ [zfB]) (m8 l).len=_
 unfold zad
 rw [List.getElem?_append_right (by rw [zd2];exact Nat.le_refl _),zd2,Nat.sub_self];rfl
theorem zsN {l:D} (hu:zq3 l):zaE (tcD l):=by
 have:=zjI l
 refine ⟨by rw [zkc];omega,λi hi=> ?_⟩
 rw [zkc] at hi
 by_cases e:i<(m8 l).len
 .rw [zsM l e]
  have:=(zuU (zpJ hu e) (mR (m8 l) i)).few
  omega
 .have e:i=(m8 l).len:=by omega
  subst e
  rw [zqX]
  exact Nat.zero_le _
theorem zw5 {l:D} (hu:zq3 l):(zbm (tcD l)).2=0:=by
 have hl:=zjI l
 refine zt2 (by rw [zkc];omega) λi hi=> ?_
 rw [zkc] at hi
 unfold zhT
 by_cases ei:i<(m8 l).len
 .rw [zsM l ei]
  have ok:=zuU (zpJ hu ei) (mR (m8 l) i)
  refine zlT.2 ⟨ok.form,ok.bad,λq=> ?_,ok.twice,λq=> ?_⟩
  .rw [ok.am] at q
   rcases zlF (el (m8 l) i) (mR (m8 l) i) with e|e
   .rw [e] at q
    obtain ⟨k,h1,_,h3⟩:=zkO _ _ q.1
    rw [<-h3] at q
    exact q.2 (zif (zpJ hu (by omega)))
   .exact q.1 e
  .rw [ok.am] at q
   rcases zlF (el (m8 l) i) (mR (m8 l) i) with e|e
   .rw [e] at q
    obtain ⟨k,h1,h2,h3⟩:=zkO _ _ q.1
    have kk:=zuU (zpJ hu (show k<(m8 l).len by omega)) (mR (m8 l) k)
    have no:=zmd (zpJ hu (show k<(m8 l).len by omega))
    refine q.2 ⟨k,h1, ?_, ?_⟩
    .rw [zsM l (by omega),kk.kind];exact h2
    .rw [zsM l (by omega),kk.nms h2]
     exact ⟨0,by have:=no.1;omega,by rw [no.2.2.2.2];exact h3⟩
   .exact q.1 e
 .have e:i=(m8 l).len:=by omega
  subst e
  rw [zqX]
  exact zlT.2 ⟨⟨.inr (.inl ⟨.inr (.inr (.inl rfl)),rfl,rfl,λh=>by cases h⟩)⟩,zd4.1,λq=>q.1 rfl,zd4.2,λq=>q.1 rfl⟩
theorem zyI (l:D) {a b:GD} {i j:Int} (hn:a.nm≠b.nm):zwJ (tcD l) (a,i) (b,j)≠0:=λe=>by
 have h0:=zii e (m8 l).len (by rw [zkc];omega)
 have h0:clE (tcD l) a b i j (m8 l).len=0:=h0
 unfold clE at h0
 rw [zqX] at h0
 have h0:clZ 8 [] (false=true) .nil 0 a b i j=0:=h0
 unfold clZ at h0
 rw [if_neg (λq=>q.1 rfl)] at h0
 rcases zfj a.nm b.nm with h|h|h
 .rw [if_pos ⟨.inr (.inr (.inr (.inl ⟨rfl,⟨h⟩⟩)))⟩] at h0;omega
 .exact hn h
 .by_cases q:zmY 8 (false=true) .nil 0 a b i j
  .rw [if_pos q] at h0;omega
  .rw [if_neg q,if_pos ⟨.inr (.inr (.inr (.inl ⟨rfl,⟨h⟩⟩)))⟩] at h0;omega
theorem zuR {c g:D} (hv:(zbm c).2=0) {xs:List Nat} (hlt:∀x,x∈xs->x<64) (hinc:xs.Pairwise (· < ·)) (hne:∀x y,x∈xs->y∈xs->x≠y->rkZ c g x y≠0):
  ∃L:List Nat,lnD c (.list (xs.map (plG g)))=(iD L,0)/\L.Perm xs/\L.Pairwise (λx y=>rkZ c g x y<0):=by
 obtain ⟨G,e,hG⟩:=ztf (g:=g) hv hlt hinc
 have one:∀s,s∈G->s.length=1:=λs hs=>by
  match s,hs with
  | [],hs=>exact absurd rfl (hG.ne _ hs)
  | [x],_=>rfl
  |x::y::t,hs=>
   have hi:=List.rel_of_pairwise_cons (hG.inc _ hs) (List.mem_cons_self ..)
   have hx:x∈x::y::t:=List.mem_cons_self ..
   have hy:y∈x::y::t:=List.mem_cons_of_mem _ (List.mem_cons_self ..)
   exact absurd (hG.tie _ hs x y hx hy) (hne x y (zpl hG hs hx) (zpl hG hs hy) (by omega))
 have hf:=zlW G one
 refine ⟨G.flatten, ?_,hG.perm, ?_⟩
 .unfold lnD
  have hn:=hG.perm.length_eq
  rw [if_neg (by rw [e,zfG,List.length_map];show ¬_<(xs.map (plG g)).length;rw [List.length_map];omega),e]
  unfold zff
  rw [zfG,List.length_map,zky G _ (Nat.le_refl _),List.take_length];rfl
 .refine List.pairwise_flatten.2 ⟨λs hs=> ?_,hG.bef.imp λh x hx y hy=>h x y hx hy⟩
  obtain ⟨x,rfl⟩:=List.length_eq_one_iff.1 (one s hs)
  exact List.pairwise_singleton _ _
theorem zkH {l:D} {s:List UInt8}:∀(f i:Nat),i+f=l.len->(zbD l s f i<l.len->sAt l (zbD l s f i)=s)/\((∃x,i<=x/\x<l.len/\sAt l x=s)->zbD l s f i<l.len)
 |0,i,hi=>⟨λh=>by unfold zbD at h;omega,λ⟨x,h1,h2,_⟩=>by omega⟩
 |f+1,i,hi=>by
  have ih:=zkH (l:=l) (s:=s) f (i+1) (by omega)
  unfold zbD
  by_cases c:sAt l i=s
  .rw [if_pos c];exact ⟨λ_=>c,λ_=>by omega⟩
  .rw [if_neg c]
   refine ⟨ih.1,λ⟨x,h1,h2,h3⟩=>ih.2 ⟨x, ?_,h2,h3⟩⟩
   by_cases e:x=i
   .exact absurd (e▸h3) c
   .omega
theorem zjC {l:D} {s:List UInt8} (h:idx l s<l.len):sAt l (idx l s)=s:=(zkH l.len 0 (Nat.zero_add _)).1 h
theorem zl6 {l:D} {s:List UInt8} (h:zbG l s):idx l s<l.len:=(zkH l.len 0 (Nat.zero_add _)).2 (by obtain ⟨x,h1,h2⟩:=h.out;exact ⟨x,Nat.zero_le _,h1,h2⟩)
theorem zxc (L:D):(tnF L).len=L.len:=by unfold tnF;rw [zfG];unfold tnL;rw [List.length_map,List.length_range]
theorem zyL {L:D} {k:Nat} (h:k<L.len):sAt (tnF L) k=zes (k:Nat):=by
 show (zad (zbC (tnL L.len)).asList k).asStr=_
 rw [zeL]
 unfold zad tnL
 rw [List.getElem?_map,List.getElem?_range h];rfl
theorem zvv (L:D):(tcF L).len=L.len:=by unfold tcF;rw [zfG];unfold tcL;rw [List.length_map,List.length_range]
theorem zw4 {L:D} {k:Nat} (h:k<L.len):el (tcF L) k=tcD (el L k):=by
 show zad (zbC (tcL L L.len)).asList k=_
 rw [zeL]
 unfold zad tcL
 rw [List.getElem?_map,List.getElem?_range h];rfl
structure tkF (ct nm g:D) (ls:List Nat):Prop where
 gl:g.len<=20
 cl:ct.len<=4
 nl:nm.len=ct.len
 pm:ls.Perm (List.range g.len)
 kl:∀v,kN nm g v<ct.len\/kN nm g v=4
 sm:∀k,k<ct.len->zaE (el ct k)
 tg:∀i,i<g.len->((el g i).fld (Nat.succ 6).succ).len<=100
 o4:∀p q,p<q->q<ls.length->kN nm g (atN ls p)=kN nm g (atN ls q)->kN nm g (atN ls q)=4->atN ls p<atN ls q
 od:∀p q,p<q->q<ls.length->kN nm g (atN ls p)=kN nm g (atN ls q)->kN nm g (atN ls q)<ct.len->(zf3 (el ct (kN nm g (atN ls q))) (gAt (el g (atN ls p))) (gAt (el g (atN ls q))) (atN ls p:Nat) (atN ls q:Nat)).2<0
 fr:∀p y,p<ls.length->y<ct.len->y≠kN nm g (atN ls p)->0<lfZ nm g ls p y->kN nm g (atN ls p)≠4/\¬cnZ nm g ls p y<cnZ nm g ls p (kN nm g (atN ls p))/\¬(cnZ nm g ls p y=cnZ nm g ls p (kN nm g (atN ls p))/\y<kN nm g (atN ls p))
theorem zpi:∀i:Nat,i<20->∀j:Nat,j<20->zjA i=zjA j->i=j:=by decide+kernel
open Classical in
theorem zsO {L ps:D} (hL:L.len<=4) (hu:∀i,i<L.len->zq3 (el L i)):∃ls,zu8 (tcF L) (tnF L) (gsD 20 ps)/\alD (tcF L) (tnF L) (gsD 20 ps)=(iD ls,0)/\tkF (tcF L) (tnF L) (gsD 20 ps) ls:=by
 obtain ⟨g,hg⟩:∃g,g=gsD 20 ps:=⟨_,rfl⟩
 obtain ⟨ct,hct⟩:∃ct,ct=tcF L:=⟨_,rfl⟩
 obtain ⟨nm,hnm⟩:∃nm,nm=tnF L:=⟨_,rfl⟩
 have cl:ct.len=L.len:=by rw [hct];exact zvv L
 have nl:nm.len=L.len:=by rw [hnm];exact zxc L
 have hce:∀k,k<L.len->el ct k=tcD (el L k):=λk hk=>by rw [hct];exact zw4 hk
 have hne:∀k,k<L.len->sAt nm k=zes (k:Nat):=λk hk=>by rw [hnm];exact zyL hk
 have hgl:g.len=(mG 20 ps).len:=by rw [hg];exact zpm 20 ps
 have g20:g.len<=20:=by have:=(zpK (n:=20) (by omega) ps).2;omega
 have hnm':∀i,i<g.len->(gAt (el g i)).nm=zjA i:=λi hi=>by rw [hg,zth 20 ps (by omega)];rfl
 have htg:tgG g:=⟨λi hi=>by
  have:=zyl 20 ps (i:=i) (by rw [<-hg];exact hi)
  rw [<-hg] at this;exact this⟩
 have sm:∀k,k<ct.len->zaE (el ct k):=λk hk=>by rw [hce k (by omega)];exact zsN (hu k (by omega))
 have bd:∀k,k<ct.len->(zbm (el ct k)).2=0:=λk hk=>by rw [hce k (by omega)];exact zw5 (hu k (by omega))
 have dist:∀i k,i<L.len->k<L.len->sAt nm i=sAt nm k->i=k:=λi k hi hk e=>by
  rw [hne i hi,hne k hk] at e
  refine Classical.byContradiction λq=> ?_
  exact zpG (k:=(i:Nat)) (j:=(k:Nat)) (by omega) (by omega) (by omega) e
 have kk:∀v k,k<L.len->(kN nm g v=k↔(gAt (el g v)).ct=sAt nm k):=λv k hk=>by
  unfold kN
  constructor
  .intro e
   split at e
   .rename_i q
    rw [<-e];exact (zjC q).symm
   .omega
  .intro e
   have q:=zl6 (l:=nm) (s:=(gAt (el g v)).ct) ⟨k,by omega,e.symm⟩
   rw [if_pos q]
   exact dist _ _ (by omega) hk (by rw [zjC q,e])
 have k4:∀v,kN nm g v=4↔ ¬zbG nm (gAt (el g v)).ct:=λv=>by
  unfold kN
  constructor
  .intro e q
   rw [if_pos (zl6 q)] at e
   have:=zl6 q;omega
  .intro q
   rw [if_neg λh=>q ⟨_,h,zjC h⟩]
 have kl:∀v,kN nm g v<ct.len\/kN nm g v=4:=λv=>by
  unfold kN;split
  .left;omega
  .right;rfl
 have line:∀k,k<ct.len->∃M:List Nat,lnD (el ct k) (.list (ofL (sAt nm k) g g.len))=(iD M,0)/\M.Perm ((List.range g.len).filter λv=>decide (kN nm g v=k))/\M.Pairwise (λx y=>rkZ (el ct k) g x y<0):=λk hk=>by
  have hm:∀x,x∈ofC (sAt nm k) g g.len->x<g.len:=λx hx=>zkT hx
  obtain ⟨M,h1,h2,h3⟩:=zuR (c:=el ct k) (g:=g) (xs:=ofC (sAt nm k) g g.len) (bd k hk) (λx hx=>by have:=hm x hx;omega) (zpV _ _ _) (λx y hx hy hn=>by
   unfold rkZ
   rw [hce k (by omega)]
   refine zyI _ λe=>hn (zpi x (by have:=hm x hx;omega) y (by have:=hm y hy;omega) ?_)
   have e:(gAt (el g x)).nm=(gAt (el g y)).nm:=e
   rw [hnm' x (hm x hx),hnm' y (hm y hy)] at e;exact e)
  refine ⟨M,h1, ?_,h3⟩
  have:ofC (sAt nm k) g g.len=(List.range g.len).filter λv=>decide (kN nm g v=k):=by
   unfold ofC
   refine List.filter_congr λv _=> ?_
   exact decide_eq_decide.2 (kk v k (by omega)).symm
  rw [<-this];exact h2
 have ak:∀k,k<ct.len->alK ct nm g k=0:=λk hk=>by
  unfold alK
  obtain ⟨M,h1,_⟩:=line k hk
  rw [if_neg,if_neg,if_neg,h1]
  .intro q;exact q (bd k hk)
  .intro q
   obtain ⟨i,hi,e⟩:=q.out
   rw [zbZ _ _ (by omega)] at hi
   have e:sAt nm i=sAt nm k:=by
    have:=zgU nm k i hi
    show (el nm i).asStr=_
    rw [<-this];exact e
   have:=dist i k (by omega) (by omega) e
   omega
  .intro q
   rw [hne k (by omega)] at q
   exact q.2 (zkN (by omega))
 have pa:zu8 ct nm g:=⟨⟨by omega,sm⟩,by omega,by omega,λ_=>⟨g20,htg⟩⟩
 have e0:=ztX (ct:=ct) (nm:=nm) (g:=g) (by omega) (by omega) (by omega) ⟨ak⟩
 -- the lists
 obtain ⟨Lf,hLf⟩:∃Lf:Nat->List Nat,Lf=λk=>sOf (alR ct nm g k):=⟨_,rfl⟩
 have hl:∀k,k<ct.len->alR ct nm g k=iD (Lf k)/\(Lf k).Perm ((List.range g.len).filter λv=>decide (kN nm g v=k))/\(Lf k).Pairwise (λx y=>rkZ (el ct k) g x y<0):=λk hk=>by
  obtain ⟨M,h1,h2,h3⟩:=line k hk
  have e:alR ct nm g k=iD M:=by unfold alR;rw [h1]
  have e2:Lf k=M:=by rw [hLf];show sOf (alR ct nm g k)=M;rw [e,zwW]
  rw [e2];exact ⟨e,h2,h3⟩
 have hC:=zhM ct nm g
 have hel:∀k,k<ct.len->el (alC ct nm g) k=iD (Lf k):=λk hk=>by rw [zsZ hk];exact (hl k hk).1
 have rest:∀x,rsN nm g x=iL ((List.range x).filter λv=>decide (kN nm g v=4)):=by
  intro x
  induction x with
  |zero=>rfl
  |succ x ih=>
   rw [List.range_succ,List.filter_append,zjB,<-ih]
   by_cases q:zbG nm (gAt (el g x)).ct
   .rw [zzz q,zoU (λe=>(k4 x).1 e q)]
    show _=_++ []
    rw [List.append_nil]
   .rw [zzA q,zjs ((k4 x).2 q)];rfl
 have F:lnF ct.len g.len (kN nm g) Lf (lgN (alC ct nm g) ct.len) ((List.range g.len).filter λv=>decide (kN nm g v=4)):=⟨by omega,kl,λk hk=>(hl k hk).2.1,rfl,λk hk=>by
  have:=zwz (alC ct nm g) ct.len k hk
  rw [hel k hk,zpo] at this;exact this⟩
 have out:zb4 ct nm g g.len=iL (rnN Lf ct.len (lgN (alC ct nm g) ct.len)++((List.range g.len).filter λv=>decide (kN nm g v=4))):=by
  unfold zb4
  rw [ztP hC hel,rest,zjB]
 rw [<-hg,<-hct,<-hnm]
 have sorted4:((List.range g.len).filter λv=>decide (kN nm g v=4)).Pairwise (λx y=>x<y):=List.pairwise_lt_range.sublist List.filter_sublist
 have ordq:∀p q,p<q->q<(rnN Lf ct.len (lgN (alC ct nm g) ct.len)++((List.range g.len).filter λv=>decide (kN nm g v=4))).length->_:=λp q h1 h2 h3=>
  zwK F (Q:=λk x y=>(k=4->x<y)/\(k<ct.len->rkZ (el ct k) g x y<0)) (λk hk=>(hl k hk).2.2.imp λh=>⟨λe=>by omega,λ_=>h⟩) (sorted4.imp λh=>⟨λ_=>h,λe=>by omega⟩) h1 h2 h3
 refine ⟨_,pa, ?_,⟨g20,by omega,by omega,zuT F,kl,sm,htg.out,λp q h1 h2 h3 h4=>(ordq p q h1 h2 h3).1 h4,λp q h1 h2 h3 h4=> ?_,λp y hp hy hn hl=> ?_⟩⟩
 .rw [e0,out];rfl
 .have:=(ordq p q h1 h2 h3).2 h4
  unfold zf3
  rw [if_pos (bd _ h4),zqq];exact this
 .have hl:(0:Int)<(((List.range g.len).filter λi=>decide (kN nm g i=y)).length:Nat)-((((rnN Lf ct.len (lgN (alC ct nm g) ct.len)++((List.range g.len).filter λv=>decide (kN nm g v=4))).take p).filter λi=>decide (kN nm g i=y)).length:Nat):=hl
  have:=zus F hp hy hn (by omega)
  unfold cnZ
  exact ⟨this.1,λq=>this.2.1 (by omega),λq=>this.2.2 ⟨by omega,q.2⟩⟩
end
end Go.Ev

end

section
open Go.Proofs
namespace Go.Ev
noncomputable section
set_option maxRecDepth 100000
def LL (l:D):D:=mG 4 l
def mMl (d:D):List D:=mL (m8 d) (m8 d).len
theorem zeh {f:Nat->Int} {k:Nat} (h:k<5):(zad (zas f) k).asInt=f k:=by
 have:k=0\/k=1\/k=2\/k=3\/k=4:=by omega
 rcases this with rfl|rfl|rfl|rfl|rfl<;>rfl
theorem zfY {f f':Nat->Int} {k:Nat} {n:Int} (h:k<5) (e:f' k=n) (h':∀j,j≠k->f' j=f j):(zas f).set k (.int n)=zas f':=by
 have:k=0\/k=1\/k=2\/k=3\/k=4:=by omega
 unfold zas
 rcases this with rfl|rfl|rfl|rfl|rfl
 .rw [h' 1 (by omega),h' 2 (by omega),h' 3 (by omega),h' 4 (by omega),e];rfl
 .rw [h' 0 (by omega),h' 2 (by omega),h' 3 (by omega),h' 4 (by omega),e];rfl
 .rw [h' 0 (by omega),h' 1 (by omega),h' 3 (by omega),h' 4 (by omega),e];rfl
 .rw [h' 0 (by omega),h' 1 (by omega),h' 2 (by omega),h' 4 (by omega),e];rfl
 .rw [h' 0 (by omega),h' 1 (by omega),h' 2 (by omega),h' 3 (by omega),e];rfl
variable {nm g:D} {ls:List Nat}
theorem zmP (x k:Nat):toZ nm g (x+1) k=toZ nm g x k+if kN nm g x=k then 1 else 0:=by
 unfold toZ
 rw [List.range_succ,List.filter_append,List.length_append]
 by_cases e:kN nm g x=k
 .rw [zjs e,if_pos e];rfl
 .rw [zoU e,if_neg e];rfl
theorem zq1 (x k:Nat):0<=toZ nm g x k/\toZ nm g x k<=x:=by
 have:=List.length_filter_le (λi=>decide (kN nm g i=k)) (List.range x)
 rw [List.length_range] at this
 unfold toZ;omega
theorem zfW {p:Nat} (hp:p<ls.length) (k:Nat):cnZ nm g ls (p+1) k=cnZ nm g ls p k+if kN nm g (atN ls p)=k then 1 else 0:=by
 unfold cnZ
 rw [ziQ hp,List.filter_append,List.length_append]
 by_cases e:kN nm g (atN ls p)=k
 .rw [zjs e,if_pos e];rfl
 .rw [zoU e,if_neg e];rfl
theorem zv4 (p k:Nat):0<=cnZ nm g ls p k/\cnZ nm g ls p k<=ls.length:=by
 have:=List.length_filter_le (λi=>decide (kN nm g i=k)) (ls.take p)
 rw [List.length_take] at this
 unfold cnZ;omega
theorem ztO {x k:Nat} (h5:k<5) (e:kN nm g x=k):(zas (toZ nm g x)).set k (.int (toZ nm g x k+1))=zas (toZ nm g (x+1)):=
 zfY h5 (by rw [zmP,if_pos e]) λj hj=>by rw [zmP,if_neg (by omega),Int.add_zero]
theorem zv5 {p k:Nat} (hp:p<ls.length) (h5:k<5) (e:kN nm g (atN ls p)=k):(zas (cnZ nm g ls p)).set k (.int (cnZ nm g ls p k+1))=zas (cnZ nm g ls (p+1)):=
 zfY h5 (by rw [zfW hp,if_pos e]) λj hj=>by rw [zfW hp,if_neg (by omega),Int.add_zero]
theorem zwy {p k:Nat} (hp:p<ls.length) (h5:k<5) (e:kN nm g (atN ls p)=k):(zas (lfZ nm g ls p)).set k (.int (lfZ nm g ls p k-1))=zas (lfZ nm g ls (p+1)):=
 zfY h5 (by unfold lfZ;rw [zfW hp,if_pos e];omega) λj hj=>by unfold lfZ;rw [zfW hp,if_neg (by omega),Int.add_zero]
theorem zww {p k:Nat} (h5:k<5) (e:kN nm g (atN ls p)=k):(zas (laZ nm g ls p)).set k (.int (atN ls p:Nat))=zas (laZ nm g ls (p+1)):=
 zfY h5 (by show (if _ then _ else _)=_;rw [if_pos e]) λj hj=>by show (if _ then _ else _)=_;rw [if_neg (by omega)]
theorem zzR:zas (toZ nm g g.len)=zas (lfZ nm g ls 0):=by
 have e:lfZ nm g ls 0=toZ nm g g.len:=by
  funext k
  have:cnZ nm g ls 0 k=0:=rfl
  unfold lfZ;omega
 rw [e]
theorem zwv {k:Nat}:∀p,0<=laZ nm g ls p k->∃j,j<p/\laZ nm g ls p k=(atN ls j:Nat)/\kN nm g (atN ls j)=k
 |0,h=>by have h:(0:Int)<= -1:=h;omega
 |p+1,h=>by
  have h:0<=(if kN nm g (atN ls p)=k then ((atN ls p:Nat):Int) else laZ nm g ls p k):=h
  show ∃j,j<p+1/\(if kN nm g (atN ls p)=k then ((atN ls p:Nat):Int) else laZ nm g ls p k)=_/\_
  by_cases e:kN nm g (atN ls p)=k
  .rw [if_pos e];exact ⟨p,Nat.lt_succ_self p,rfl,e⟩
  .rw [if_neg e] at h⊢
   obtain ⟨j,h1,h2⟩:=zwv p h
   exact ⟨j,by omega,h2⟩
theorem zlI {p:Nat} (h:p<ls.length):ls[p]? =some (atN ls p):=by unfold atN;rw [List.getElem?_eq_getElem h];rfl
theorem zpU (hn:ls.Nodup) {p:Nat} (hp:p<ls.length):atN ls p∉ls.take p:=λq=>by
 obtain ⟨j,hj,e⟩:=List.mem_take_iff_getElem.1 q
 have hn:ls.Pairwise (· ≠ ·):=hn
 exact zu9 hn (show j<p by omega) (List.getElem?_eq_getElem (by omega)) (zlI hp) e
theorem zfu (n p:Nat):(tkB n ls p).length=n:=by unfold tkB;rw [List.length_map,List.length_range]
theorem zw9 {n p v:Nat} (h:v<n):(zad (tkB n ls p) v).asProp=(v∈ls.take p):=by
 unfold zad tkB
 rw [List.getElem?_map,List.getElem?_range h];rfl
theorem zyK (n:Nat):List.replicate n (D.bool (false=true))=tkB n ls 0:=by
 refine (List.eq_replicate_iff.2 ⟨zfu n 0,λb hb=> ?_⟩).symm
 obtain ⟨v,_,rfl⟩:=List.mem_map.1 hb
 exact congrArg D.bool (propext ⟨λh=>(by cases h),λh=>(by cases h)⟩)
theorem zqZ {n p i:Nat} (h:i<n):(tkB n ls p)[i]? =some (D.bool (i∈ls.take p)):=by
 unfold tkB
 rw [List.getElem?_map,List.getElem?_range h];rfl
theorem zvy {n p:Nat} (hp:p<ls.length) (hv:atN ls p<n):(tkB n ls p).set (atN ls p) (.bool (true=true))=tkB n ls (p+1):=by
 refine List.ext_getElem? λi=> ?_
 by_cases hi:i<n
 .rw [List.getElem?_set,zfu,zqZ hi,zqZ hi,ziQ hp]
  by_cases e:atN ls p=i
  .rw [if_pos e,if_pos hv]
   exact congrArg (λq=>some (D.bool q)) (propext ⟨λ_=>by rw [<-e];exact List.mem_append_right _ (List.mem_cons_self ..),λ_=>rfl⟩)
  .rw [if_neg e]
   refine congrArg (λq=>some (D.bool q)) (propext ⟨λh=>List.mem_append_left _ h,λh=> ?_⟩)
   rcases List.mem_append.1 h with h|h
   .exact h
   .exact absurd (List.mem_singleton.1 h).symm e
 .rw [List.getElem?_eq_none (by rw [List.length_set,zfu];omega),List.getElem?_eq_none (by rw [zfu];omega)]
theorem zzw {v:Nat} (h:0<=iX nm (gAt (el g v)).ct):iX nm (gAt (el g v)).ct=(kN nm g v:Nat):=by
 unfold iX kN at*
 split
 .rfl
 .rename_i q;rw [if_neg q] at h;omega
theorem zzv {v:Nat} (h:0<=iX nm (gAt (el g v)).ct->False):kN nm g v=4:=by
 unfold iX kN at*
 split
 .rename_i q;rw [if_pos q] at h;exact (h (by omega)).elim
 .rfl
theorem zpr {l:D} {s:List UInt8}:∀(f i x:Nat),i+f=l.len->i<=x->x<l.len->sAt l x=s->zbD l s f i<=x
 |0,i,x,hi,h1,h2,_=>by omega
 |f+1,i,x,hi,h1,h2,h3=>by
  unfold zbD
  by_cases c:sAt l i=s
  .rw [if_pos c];exact h1
  .rw [if_neg c]
   refine zpr f (i+1) x (by omega) ?_ h2 h3
   by_cases e:x=i
   .exact absurd (e▸h3) c
   .omega
theorem zpq {l:D} {s:List UInt8} (_:zbG l s) (x:Nat) (h2:x<l.len) (h3:sAt l x=s):idx l s<=x:=zpr l.len 0 x (Nat.zero_add _) (Nat.zero_le _) h2 h3
theorem zw7 (d:D):D.list (List.take ((mMl d).length+1) (List.take (mMl d).length (mMl d)++List.take 1 [zfB]))=tcD d:=by
 unfold tcD mMl
 rw [List.take_of_length_le (Nat.le_refl _),List.take_of_length_le (by rw [List.length_append];exact Nat.le_refl _)];rfl
theorem zw6 {d:D} (h:0<(mMl d).length->False):D.list (List.take 1 (List.take 1 [zfB]))=tcD d:=by
 unfold tcD
 have:mL (m8 d) (m8 d).len= []:=List.eq_nil_of_length_eq_zero (Nat.eq_zero_of_not_pos h)
 rw [this];rfl
theorem zmM (L:D) (n:Nat):tcL L (n+1)=tcL L n++ [tcD (el L n)]:=by unfold tcL;rw [List.range_succ,List.map_append];rfl
theorem zmO (n:Nat):tnL (n+1)=tnL n++ [.str (zes (n:Nat))]:=by unfold tnL;rw [List.range_succ,List.map_append];rfl
theorem zvw (L:D) (n:Nat):(tcL L n).length=n:=by unfold tcL;rw [List.length_map,List.length_range]
theorem zvz (n:Nat):(tnL n).length=n:=by unfold tnL;rw [List.length_map,List.length_range]
end
end Go.Ev

end
