/- Part of the proof. -/
import Derived.Test.YtdojhafbgoimeaaGreatDoorCoreG24
import Derived.Test.YtdojhafbgoimeaaGreatDoorCoreAwake
import Derived.Test.YtdojhafbgoimeaaGreatDoorCoreSeF
import Derived.Test.YtdojhafbgoimeaaGreatDoorCoreG25
import Derived.Test.YtdojhafbgoimeaaGreatDoorCoreG23
import Derived.Test.YtdojhafbgoimeaaGreatDoorCoreKit
import Derived.Test.YtdojhafbgoimeaaGreatDoorCoreG22

section
open Go.Proofs
namespace Go.Ev
noncomputable section
set_option maxRecDepth 100000
def GC:Msk:={bits:=GB,fast:=false,ora:=λg=>cond (Nat.beq g 18) (some (.bool true)) none}
abbrev VC (d:Nat) (g:FuncId) (c:Con):Prop:=zeo Tryz.prog GC (ev Tryz.prog GC d) g c
theorem zg7 (d:Nat):∀g c,(λ_:FuncId=>(none:Option Con)) g=some c->VC d g c:=λ_ _ h=>by cases h
theorem zxI:∀d,5<=d->VC d 103 zli:=λd hd=>
 zat (C:=ctx (λ_=>none) zdf) (G:=GC) (B:=2) (m:=3) rfl rfl rfl (λd _=>zg7 d) (λus p r hc hp ht=>by
  unfold zli at hc;split at hc
  .cases hc;exact zx5 _ _ hp
  .cases hc) (λ_ _=>rfl) rfl rfl d hd
theorem zyF:∀d,5<=d->VC d 168 znY:=λd hd=>
 zat (C:=ctx (λ_=>none) zdf) (G:=GC) (B:=2) (m:=3) rfl rfl rfl (λd _=>zg7 d) (λus p r hc hp ht=>by
  unfold znY at hc;split at hc
  .cases hc;exact zya _ _ _ _ _
  .cases hc) (λ_ _=>rfl) rfl rfl d hd
theorem vN (d:Nat) (g:FuncId):VC d g zvG:=by
 intro us p r hc hp J H vs hst hl
 unfold zvG at hc
 split at hc
 .cases hc;exact hp.elim
 .cases hc
theorem zzh (d:Nat):∀g c,cc0 g=some c->VC d g c:=λg c h=>by
 unfold cc0 at h
 split at h
 .cases h;exact vN d _
 .cases h;exact vN d _
 .cases h
theorem zyA:∀d,8<=d->VC d 102 znK:=λd hd=>
 zat (C:=ctx cc0 zdf) (G:=GC) (B:=2) (m:=6) rfl rfl rfl (λd _=>zzh d) (λus p r hc hp ht=>by
  unfold znK at hc;split at hc
  .cases hc;exact zx4 _
  .cases hc) (λ_ _=>rfl) rfl rfl d hd
theorem zxt:∀d,8<=d->∀g c,cc1 g=some c->VC d g c:=λd hd g c h=>by
 unfold cc1 at h
 split at h
 .cases h;exact zxI d (by omega)
 .cases h;exact zyA d (by omega)
 .cases h;exact zyF d (by omega)
 .cases h
theorem zyG:∀d,11<=d->VC d 169 znN:=λd hd=>
 zat (C:=ctx cc1 zdf) (G:=GC) (B:=8) (m:=3) rfl rfl rfl zxt (λus p r hc hp ht=>by
  unfold znN at hc;split at hc
  .cases hc;exact zyb _ hp
  .cases hc) (λ_ _=>rfl) rfl rfl d hd
theorem zyH:∀d,14<=d->VC d 170 znO:=λd hd=>by
 intro us p r hc hp
 unfold znO at hc;split at hc
 .rename_i c s
  cases hc
  have:=zat (C:=ctx cc1 (zoX s)) (G:=GC) (B:=8) (m:=6) (g:=170) (c:=λus=>match us with| [.dat 22 c',.str s']=>some (zaX c'/\s'=s,.prop (zaM c' c'.len s'))|_=>none) rfl rfl rfl zxt (λus p r hc hp ht=>by
   split at hc
   .cases hc;obtain ⟨h1,rfl⟩:=hp;exact zyc _ _ h1
   .cases hc) (λ_ _=>rfl) rfl rfl d hd
  exact this [.dat 22 c,.str s] _ _ rfl ⟨hp,rfl⟩
 .cases hc
theorem zxL:∀d,14<=d->∀g c,cc2 g=some c->VC d g c:=λd hd g c h=>by
 unfold cc2 at h
 split at h
 .cases h;exact zyG d (by omega)
 .cases h;exact zyH d (by omega)
 .exact zxt d (by omega) _ c h
theorem zyC:∀d,20<=d->VC d 130 znJ:=λd hd=>
 zat (C:=ctx cc2 zdf) (G:=GC) (B:=14) (m:=6) rfl rfl rfl zxL (λus p r hc hp ht=>by
  unfold znJ at hc;split at hc
  .cases hc;exact zx7 _ _ _ _ _ _ hp.1 hp.2
  .cases hc) (λ_ _=>rfl) rfl rfl d hd
theorem zxM:∀d,20<=d->∀g c,cc3 g=some c->VC d g c:=λd hd g c h=>by
 unfold cc3 at h
 split at h
 .cases h;exact zyC d (by omega)
 .exact zxL d (by omega) _ c h
theorem v98:∀d,25<=d->VC d 98 zqM:=λd hd=>
 zat (C:=ctx cc3 zdf) (G:=GC) (B:=20) (m:=5) rfl rfl rfl zxM (λus p r hc hp ht=>by
  unfold zqM at hc;split at hc
  .cases hc;exact s98 _ hp
  .cases hc) (λ_ _=>rfl) rfl rfl d hd
theorem zxN:∀d,25<=d->∀g c,cc4 g=some c->VC d g c:=λd hd g c h=>by
 unfold cc4 at h
 split at h
 .cases h;exact v98 d (by omega)
 .exact zxM d (by omega) _ c h
end
end Go.Ev

end

section
open Go.Proofs
namespace Go.Ev
noncomputable section
set_option maxRecDepth 100000
abbrev VF (d:Nat) (cf:D->Con):Prop:=ziO Tryz.prog GC (ev Tryz.prog GC d) cf
theorem vFn (d:Nat):∀t c,(λ_:TypeId=>(none:Option (D->Con))) t=some c->VF d c:=λ_ _ h=>(zg3 h).elim
theorem zeW {v:V} {g:GD} {p:Int} (h:pOf v=some (g,p)):v=pV g p:=by
 unfold pOf at h
 split at h
 .cases h;rfl
 .cases h
theorem zxJ:∀d,6<=d->VC d 114 zlj:=λd hd=>
 zaf (C:=zbm (λ_=>none) (λ_=>none) zaC) (G:=GC) (B:=2) (m:=4) rfl rfl rfl (λd _=>zg7 d) (λd _=>vFn d) (λus p r hc hp ht=>by
  unfold zlj at hc
  split at hc
  .cases hc;exact zx6 _ _
  .cases hc) (λ_ _=>rfl) rfl rfl d hd
theorem zyP:∀d,6<=d->VC d 185 znV:=λd hd=>
 zaf (C:=zbm (λ_=>none) (λ_=>none) zaC) (G:=GC) (B:=2) (m:=4) rfl rfl rfl (λd _=>zg7 d) (λd _=>vFn d) (λus p r hc hp ht=>by
  unfold znV at hc
  split at hc
  .cases hc;exact zyk _ _
  .cases hc) (λ_ _=>rfl) rfl rfl d hd
theorem v45:∀d,5<=d->VC d 45 zte:=λd hd=>
 zaf (C:=zbm (λ_=>none) (λ_=>none) zaC) (G:=GC) (B:=2) (m:=3) rfl rfl rfl (λd _=>zg7 d) (λd _=>vFn d) (λus p r hc hp ht=>by
  unfold zte at hc
  split at hc
  .cases hc;exact s45 _ _ hp
  .cases hc) (λ_ _=>rfl) rfl rfl d hd
theorem ziC:∀d,6<=d->∀g c,cm0 g=some c->VC d g c:=λd hd g c h=>by
 unfold cm0 at h
 split at h
 .cases h;exact zxI d (by omega)
 .cases h;exact zxJ d (by omega)
 .cases h;exact zyP d (by omega)
 .cases h;exact v45 d (by omega)
 .cases h
theorem zyJ:∀d,10<=d->VC d 177 znQ:=λd hd=>
 zaf (C:=zbm cm0 (λ_=>none) zaC) (G:=GC) (B:=6) (m:=4) rfl rfl rfl ziC (λd _=>vFn d) (λus p r hc hp ht=>by
  unfold znQ at hc
  split at hc
  .cases hc;exact zye _ _
  .cases hc) (λ_ _=>rfl) rfl rfl d hd
theorem zyS:∀d,9<=d->VC d 215 znZ:=λd hd=>
 zaf (C:=zbm cm0 (λ_=>none) zaC) (G:=GC) (B:=6) (m:=3) rfl rfl rfl ziC (λd _=>vFn d) (λus p r hc hp ht=>by
  unfold znZ at hc
  split at hc
  .split at hc
   .rename_i q;cases hc;rw [zeW q];exact zyn _ _ _ hp
   .cases hc
  .cases hc) (λ_ _=>rfl) rfl rfl d hd
theorem zyK:∀d,9<=d->VC d 179 znR:=λd hd=>
 zaf (C:=zbm cm0 (λ_=>none) zaC) (G:=GC) (B:=6) (m:=3) rfl rfl rfl ziC (λd _=>vFn d) (λus p r hc hp ht=>by
  unfold znR at hc
  split at hc
  .split at hc
   .rename_i q;cases hc;rw [zeW q];exact zyf _ _ _
   .cases hc
  .cases hc) (λ_ _=>rfl) rfl rfl d hd
theorem zyL:∀d,9<=d->VC d 180 znS:=λd hd=>
 zaf (C:=zbm cm0 (λ_=>none) zaC) (G:=GC) (B:=6) (m:=3) rfl rfl rfl ziC (λd _=>vFn d) (λus p r hc hp ht=>by
  unfold znS at hc
  split at hc
  .split at hc
   .rename_i q;cases hc;rw [zeW q];exact zyg _ _
   .cases hc
  .cases hc) (λ_ _=>rfl) rfl rfl d hd
theorem zyU:∀d,9<=d->VC d 217 zn1:=λd hd=>
 zaf (C:=zbm cm0 (λ_=>none) zaC) (G:=GC) (B:=6) (m:=3) rfl rfl rfl ziC (λd _=>vFn d) (λus p r hc hp ht=>by
  unfold zn1 at hc
  split at hc
  .split at hc
   .rename_i q;cases hc;rw [zeW q];exact zyp _ _
   .cases hc
  .cases hc) (λ_ _=>rfl) rfl rfl d hd
theorem zyN:∀d,9<=d->VC d 183 znT:=λd hd=>
 zaf (C:=zbm cm0 (λ_=>none) zaC) (G:=GC) (B:=6) (m:=3) rfl rfl rfl ziC (λd _=>vFn d) (λus p r hc hp ht=>by
  unfold znT at hc
  split at hc
  .split at hc
   .rename_i q;cases hc;rw [zeW q];exact zyi _ _ _ hp
   .cases hc
  .cases hc) (λ_ _=>rfl) rfl rfl d hd
theorem zyQ:∀d,9<=d->VC d 187 znW:=λd hd=>
 zaf (C:=zbm cm0 (λ_=>none) zaC) (G:=GC) (B:=6) (m:=3) rfl rfl rfl ziC (λd _=>vFn d) (λus p r hc hp ht=>by
  unfold znW at hc
  split at hc
  .cases hc;exact zyl _
  .cases hc) (λ_ _=>rfl) rfl rfl d hd
theorem zyR:∀d,9<=d->VC d 188 znX:=λd hd=>
 zaf (C:=zbm cm0 (λ_=>none) zaC) (G:=GC) (B:=6) (m:=3) rfl rfl rfl ziC (λd _=>vFn d) (λus p r hc hp ht=>by
  unfold znX at hc
  split at hc
  .cases hc;exact zym _ _ hp.1 hp.2.1 hp.2.2
  .cases hc) (λ_ _=>rfl) rfl rfl d hd
theorem zyX:∀d,9<=d->VC d 222 zn4:=λd hd=>
 zaf (C:=zbm cm0 (λ_=>none) zaC) (G:=GC) (B:=6) (m:=3) rfl rfl rfl ziC (λd _=>vFn d) (λus p r hc hp ht=>by
  unfold zn4 at hc
  split at hc
  .cases hc;exact zys _
  .cases hc) (λ_ _=>rfl) rfl rfl d hd
open Classical in
theorem zyM:∀d,12<=d->VC d 181 ziY:=λd hd us p r hc hp=>by
 have hc0:=hc
 unfold ziY at hc;split at hc
 .rename_i q x
  exact zaf (C:=zbm cm0 (λ_=>none) (zur (cNm x))) (G:=GC) (B:=6) (m:=6) (g:=181) (c:=λus=>if us= [q,.dpt 69 x] then ziY us else none) rfl rfl rfl ziC (λd _=>vFn d) (λus p r hc hp ht=>by
   split at hc
   .rename_i e;subst e
    unfold ziY at hc
    simp only at hc
    split at hc
    .rename_i h;cases hc;rw [zeW h];exact zyh _ _ _ hp.1 hp.2
    .cases hc
   .cases hc) (λ_ _=>rfl) rfl rfl d hd _ p r (by show (if _ then _ else _)=_;rw [if_pos rfl];exact hc0) hp
 .cases hc
theorem zi2 (g:FuncId) (h1:zbV Tryz.prog g [undef]=none) (h2:Nat.beq g 18=false):zgV Tryz.prog GC g:=⟨rfl,h1,by show cond (Nat.beq g 18) _ _=none;rw [h2];rfl,λ_=>rfl,rfl,rfl⟩
theorem zwp:zgV Tryz.prog GC 215:=zi2 215 (by kernel_rfl) rfl
theorem zwi:zgV Tryz.prog GC 179:=zi2 179 (by kernel_rfl) rfl
theorem zwj:zgV Tryz.prog GC 180:=zi2 180 (by kernel_rfl) rfl
theorem zwk:zgV Tryz.prog GC 181:=zi2 181 (by kernel_rfl) rfl
theorem zwl:zgV Tryz.prog GC 183:=zi2 183 (by kernel_rfl) rfl
theorem zwr:zgV Tryz.prog GC 217:=zi2 217 (by kernel_rfl) rfl
theorem zwf:zgV Tryz.prog GC 114:=zi2 114 (by kernel_rfl) rfl
theorem zwh:zgV Tryz.prog GC 177:=zi2 177 (by kernel_rfl) rfl
theorem zwn:zgV Tryz.prog GC 187:=zi2 187 (by kernel_rfl) rfl
theorem zwo:zgV Tryz.prog GC 188:=zi2 188 (by kernel_rfl) rfl
theorem zwu:zgV Tryz.prog GC 222:=zi2 222 (by kernel_rfl) rfl
theorem zwq:zgV Tryz.prog GC 216:=zi2 216 (by kernel_rfl) rfl
theorem zwt:zgV Tryz.prog GC 220:=zi2 220 (by kernel_rfl) rfl
theorem zwm:zgV Tryz.prog GC 184:=zi2 184 (by kernel_rfl) rfl
theorem zwv:zgV Tryz.prog GC 223:=zi2 223 (by kernel_rfl) rfl
theorem zws:zgV Tryz.prog GC 218:=zi2 218 (by kernel_rfl) rfl
theorem zwg:zgV Tryz.prog GC 174:=zi2 174 (by kernel_rfl) rfl
theorem vR:∀d,12<=d->VF d zv9:=λd hd=>zb7 λf us p r hc hp=>by
 unfold zv9 at hc;split at hc
 .split at hc
  .rename_i h;cases hc;rw [zeW h]
   obtain ⟨nm,rfl,hl⟩:=hp.out
   exact ⟨_,_,_,znZ,_,rfl,zwp,zyS d (by omega),rfl,hl⟩
  .cases hc
 .cases hc
theorem vNm:∀d,12<=d->VF d zth:=λd hd=>zb7 λf us p r hc hp=>by
 unfold zth at hc;split at hc
 .split at hc
  .rename_i h;cases hc;rw [zeW h]
   obtain ⟨ho,htg⟩:=hp
   rcases ho.out with ⟨x,rfl⟩|rfl| ⟨x,rfl,hx⟩| ⟨x,rfl,hx⟩|rfl
   .exact ⟨_,_,_,znR,True,rfl,zwi,zyK d (by omega),(by rw [show zdh _ _=_ from propext (zlT x _)];rfl),trivial⟩
   .exact ⟨_,_,_,znS,True,rfl,zwj,zyL d (by omega),(by rw [show zdh _ _=_ from propext (zlU _)];rfl),trivial⟩
   .exact ⟨_,_,_,ziY,_,rfl,zwk,zyM d (by omega),(by rw [show zdh _ _=_ from propext (zlV x _)];rfl),And.intro htg hx⟩
   .exact ⟨_,_,_,znT,_,rfl,zwl,zyN d (by omega),(by rw [show zdh _ _=_ from propext (zlW x _)];rfl),hx⟩
   .exact ⟨_,_,_,zn1,True,rfl,zwr,zyU d (by omega),(by rw [show zdh _ _=_ from propext (zeK _)];rfl),trivial⟩
  .cases hc
 .cases hc
theorem vC:∀d,12<=d->VF d zv7:=λd hd=>zb7 λf us p r hc hp=>by
 unfold zv7 at hc;split at hc
 .cases hc
  rcases hp.out with rfl|rfl
  .exact ⟨_,_,_,zlj,True,rfl,zwf,zxJ d (by omega),rfl,trivial⟩
  .exact ⟨_,_,_,znQ,True,rfl,zwh,zyJ d (by omega),rfl,trivial⟩
 .cases hc
theorem vK:∀d,12<=d->VF d zv8:=λd hd=>zb7 λf us p r hc hp=>by
 unfold zv8 at hc;split at hc
 .cases hc
  obtain ⟨ho,hb⟩:=hp
  rcases ho.out with rfl| ⟨x,rfl,hx,hx'⟩
  .exact ⟨_,_,_,znW,True,rfl,zwn,zyQ d (by omega),rfl,trivial⟩
  .exact ⟨_,_,_,znX,_,rfl,zwo,zyR d (by omega),rfl,hb,hx,hx'⟩
 .cases hc
theorem vB:∀d,12<=d->VF d zv6:=λd hd=>zb7 λf us p r hc hp=>by
 unfold zv6 at hc;split at hc
 .cases hc
  have hp:f= .fn 222 [] []:=hp
  subst hp
  exact ⟨_,_,_,zn4,True,rfl,zwu,zyX d (by omega),rfl,trivial⟩
 .cases hc
theorem vF1:∀d,12<=d->∀t c,cF1 t=some c->VF d c:=λd hd t c h=>by
 unfold cF1 at h
 split at h
 .cases h;exact vR d hd
 .cases h;exact vNm d hd
 .cases h;exact vC d hd
 .cases h;exact vK d hd
 .cases h;exact vB d hd
 .cases h
theorem zyT:∀d,15<=d->VC d 216 zn0:=λd hd=>
 zaf (C:=zbm cm0 cF1 zaC) (G:=GC) (B:=12) (m:=3) rfl rfl rfl (λd hd=>ziC d (by omega)) vF1 (λus p r hc hp ht=>by
  unfold zn0 at hc
  split at hc
  .split at hc
   .rename_i q1 q2;cases hc;rw [zeW q1,zeW q2];exact zyo _ _ _ _ _ hp
   .cases hc
  .cases hc) (λ_ _=>rfl) rfl rfl d hd
theorem zyW:∀d,15<=d->VC d 220 zn3:=λd hd=>
 zaf (C:=zbm cm0 cF1 zaC) (G:=GC) (B:=12) (m:=3) rfl rfl rfl (λd hd=>ziC d (by omega)) vF1 (λus p r hc hp ht=>by
  unfold zn3 at hc
  split at hc
  .split at hc
   .rename_i q1 q2;cases hc;rw [zeW q1,zeW q2];exact zyr _ _ _ _ _ _ hp.1 hp.2.1 hp.2.2
   .cases hc
  .cases hc) (λ_ _=>rfl) rfl rfl d hd
theorem zyO:∀d,15<=d->VC d 184 znU:=λd hd=>
 zaf (C:=zbm cm0 cF1 zaC) (G:=GC) (B:=12) (m:=3) rfl rfl rfl (λd hd=>ziC d (by omega)) vF1 (λus p r hc hp ht=>by
  unfold znU at hc
  split at hc
  .split at hc
   .rename_i q1 q2;cases hc;rw [zeW q1,zeW q2];exact zyj _ _ _ _
   .cases hc
  .cases hc) (λ_ _=>rfl) rfl rfl d hd
theorem zyY:∀d,15<=d->VC d 223 zn5:=λd hd=>
 zaf (C:=zbm cm0 cF1 zaC) (G:=GC) (B:=12) (m:=3) rfl rfl rfl (λd hd=>ziC d (by omega)) vF1 (λus p r hc hp ht=>by
  unfold zn5 at hc
  split at hc
  .split at hc
   .rename_i q1 q2;cases hc;rw [zeW q1,zeW q2];exact zyt _ _ _ _ _ _ hp.1 hp.2
   .cases hc
  .cases hc) (λ_ _=>rfl) rfl rfl d hd
theorem zll {d:Nat} (hd:15<=d) {f:D} (ho:zsA f) {a b:GD} {i j:Int} (ha:a.tg.len<=100) (hb:b.tg.len<=100):∃(g:FuncId) (ts:List TypeId) (ds:List D) (c:Con) (p':Prop),f= .fn g ts ds/\zgV Tryz.prog GC g/\VC d g c/\c ([pV a i,pV b j]++zf3 ts ds)=some (p',.int .i64 (zbq f a b i j))/\p':=by
 rcases ho.out with ⟨r,rfl,hr⟩| ⟨n,la,rfl,hn⟩|rfl| ⟨k,rfl,hk⟩
 .exact ⟨_,_,_,zn0,_,rfl,zwq,zyT d (by omega),rfl,hr⟩
 .exact ⟨_,_,_,zn3,_,rfl,zwt,zyW d (by omega),(by rw [zco];rfl),And.intro hn (And.intro ha hb)⟩
 .exact ⟨_,_,_,znU,True,rfl,zwm,zyO d (by omega),(by rw [zjx];rfl),trivial⟩
 .exact ⟨_,_,_,zn5,_,rfl,zwv,zyY d (by omega),(by rw [zgx];rfl),And.intro rfl hk⟩
theorem vT1:∀d,15<=d->VF d zti:=λd hd=>zb7 λf us p r hc hp=>by
 unfold zti at hc;split at hc
 .split at hc
  .rename_i q1 q2;cases hc;rw [zeW q1,zeW q2]
   exact zll hd hp.1 hp.2.1 hp.2.2
  .cases hc
 .cases hc
theorem vF2:∀d,15<=d->∀t c,cF2 t=some c->VF d c:=λd hd t c h=>by
 unfold cF2 at h
 split at h
 .cases h;exact vT1 d hd
 .exact vF1 d (by omega) _ c h
theorem zyV:∀d,19<=d->VC d 218 zn2:=λd hd=>
 zaf (C:=zbm cm0 cF2 zaC) (G:=GC) (B:=15) (m:=4) rfl rfl rfl (λd hd=>ziC d (by omega)) vF2 (λus p r hc hp ht=>by
  unfold zn2 at hc
  split at hc
  .split at hc
   .rename_i q1 q2;cases hc;rw [zeW q1,zeW q2];exact zyq _ _ _ _ _ _ hp.1 hp.2.1 hp.2.2.1 hp.2.2.2
   .cases hc
  .cases hc) (λ_ _=>rfl) rfl rfl d hd
theorem ztZ {f:D} (h:zsA f):∃g ts ds,f= .fn g ts ds/\g≠218:=by
 rcases h.out with ⟨r,rfl,hr⟩| ⟨n,la,rfl,hn⟩|rfl| ⟨k,rfl,hk⟩
 .exact ⟨_,_,_,rfl,by decide⟩
 .exact ⟨_,_,_,rfl,by decide⟩
 .exact ⟨_,_,_,rfl,by decide⟩
 .exact ⟨_,_,_,rfl,by decide⟩
theorem vT2:∀d,19<=d->VF d ztj:=λd hd=>zb7 λf us p r hc hp=>by
 unfold ztj at hc;split at hc
 .split at hc
  .rename_i q1 q2;cases hc;rw [zeW q1,zeW q2]
   rcases hp.1.out with h| ⟨u,c,rfl,hu,hcc⟩
   .have e:∀a b i j,zcR f a b i j=zbq f a b i j:=λa b i j=>by
     obtain ⟨g,ts,ds,rfl,hg⟩:=ztZ h
     exact zc2 hg a b i j
    rw [e]
    exact zll (by omega) h hp.2.1 hp.2.2
   .exact ⟨_,_,_,zn2,_,rfl,zws,zyV d (by omega),(by rw [zgy];rfl),And.intro hu (And.intro hcc hp.2)⟩
  .cases hc
 .cases hc
theorem vF3:∀d,19<=d->∀t c,cF3 t=some c->VF d c:=λd hd t c h=>by
 unfold cF3 at h
 split at h
 .cases h;exact vT2 d hd
 .cases h
theorem zyI:∀d,22<=d->VC d 174 znP:=λd hd=>
 zaf (C:=zbm cm0 cF3 zaC) (G:=GC) (B:=19) (m:=3) rfl rfl rfl (λd hd=>ziC d (by omega)) vF3 (λus p r hc hp ht=>by
  unfold znP at hc
  split at hc
  .split at hc
   .rename_i q1 q2;cases hc;rw [zeW q1,zeW q2];exact zyd _ _ _ _ _ _ hp.1 hp.2.1 hp.2.2
   .cases hc
  .cases hc) (λ_ _=>rfl) rfl rfl d hd
theorem vA:∀d,22<=d->VF d zv5:=λd hd=>zb7 λf us p r hc hp=>by
 unfold zv5 at hc;split at hc
 .split at hc
  .rename_i q1 q2;cases hc;rw [zeW q1,zeW q2]
   obtain ⟨s,t,rfl,ht⟩:=hp.1.out
   exact ⟨_,_,_,znP,_,rfl,zwg,zyI d (by omega),rfl,ht,hp.2.1,hp.2.2⟩
  .cases hc
 .cases hc
theorem vF4:∀d,22<=d->∀t c,cF4 t=some c->VF d c:=λd hd t c h=>by
 unfold cF4 at h
 split at h
 .cases h;exact vA d hd
 .cases h
open Classical in
theorem v92:∀d,25<=d->VC d 92 zqK:=λd hd us p r hc hp=>by
 have hc0:=hc
 unfold zqK at hc;split at hc
 .rename_i ts q1 q2
  split at hc
  .rename_i a i b j h1 h2
   exact zaf (C:=zbm cm0 cF4 (zpy (λk=>zne (el ts k) a b i j))) (G:=GC) (B:=22) (m:=3) (g:=92) (c:=λus=>if us= [.dat 127 ts,q1,q2] then zqK us else none) rfl rfl rfl (λd hd=>ziC d (by omega)) vF4 (λus p r hc hp ht=>by
    split at hc
    .rename_i e;subst e
     unfold zqK at hc
     simp only [h1,h2] at hc
     cases hc
     rw [zeW h1,zeW h2];exact s92 _ _ _ _ _ hp.1.1 hp.1.2 hp.2.1 hp.2.2
    .cases hc) (λ_ _=>rfl) rfl rfl d hd _ p r (by show (if _ then _ else _)=_;rw [if_pos rfl];exact hc0) hp
  .cases hc
 .cases hc
theorem zyE:∀d,11<=d->VC d 143 znM:=λd hd=>
 zaf (C:=zbm cm0 (λ_=>none) zaC) (G:=GC) (B:=6) (m:=5) rfl rfl rfl ziC (λd _=>vFn d) (λus p r hc hp ht=>by
  unfold znM at hc
  split at hc
  .cases hc;exact zx9 _ _ _ _ _
  .cases hc) (λ_ _=>rfl) rfl rfl d hd
theorem zyD:∀d,9<=d->VC d 142 znL:=λd hd=>
 zaf (C:=zbm cm0 (λ_=>none) zaC) (G:=GC) (B:=6) (m:=3) rfl rfl rfl ziC (λd _=>vFn d) (λus p r hc hp ht=>by
  unfold znL at hc
  split at hc
  .cases hc;exact zx8 _ _
  .cases hc) (λ_ _=>rfl) rfl rfl d hd
theorem zzi:∀d,25<=d->∀g c,cn0 g=some c->VC d g c:=λd hd g c h=>by
 unfold cn0 at h
 split at h
 .cases h;exact zyE d (by omega)
 .cases h;exact zyD d (by omega)
 .exact zxN d (by omega) _ c h
theorem v93:∀d,30<=d->VC d 93 zqL:=λd hd=>
 zaf (C:=ctx cn0 zj9) (G:=GC) (B:=25) (m:=5) rfl rfl rfl zzi (λ_ _ _ _ h=>(zg3 h).elim) (λus p r hc hp ht=>by
  unfold zqL at hc
  split at hc
  .cases hc;exact s93 _ hp
  .cases hc) (λ_ _=>rfl) rfl rfl d hd
theorem v91:∀d,29<=d->VC d 91 ztf:=λd hd=>
 zaf (C:=ctx cc4 zj9) (G:=GC) (B:=25) (m:=4) rfl rfl rfl zxN (λ_ _ _ _ h=>(zg3 h).elim) (λus p r hc hp ht=>by
  unfold ztf at hc
  split at hc
  .cases hc;exact s91 _ hp
  .cases hc) (λ_ _=>rfl) rfl rfl d hd
end
end Go.Ev

end

section
open Go.Proofs
namespace Go.Ev
noncomputable section
set_option maxRecDepth 100000
theorem zxK:∀d,25<=d->VC d 92 zoa:=λd hd=>v92 d hd
theorem zyZ (d:Nat):VC d 242 zn6:=by
 intro us p r hc hp
 unfold zn6 at hc
 split at hc
 .cases hc;exact hp.elim
 .cases hc
theorem zxO:∀d,30<=d->∀g c,or0 g=some c->VC d g c:=λd hd g c h=>by
 unfold or0 at h
 split at h
 .cases h;exact v93 d (by omega)
 .cases h;exact zxK d (by omega)
 .cases h;exact zyZ d
 .cases h
theorem v97:∀d,5<=d->VC d 97 ztg:=λd hd=>
 zat (C:=zoe (λ_=>none) .nil .nil) (G:=GC) (B:=2) (m:=3) rfl rfl rfl (λd _=>zg7 d) (λus p r hc hp ht=>by
  unfold ztg at hc;split at hc
  .cases hc;exact s97 _ hp
  .cases hc) (λ_ _=>rfl) rfl rfl d hd
theorem ztD {c l:D} (h:l.len=0):grD c l= .nil:=by unfold grD;rw [h];rfl
open Classical in
theorem v96:∀d,37<=d->VC d 96 ziZ:=λd hd us p r hc hp=>by
 have hc0:=hc
 unfold ziZ at hc;split at hc
 .rename_i c l
  by_cases q:l.len=0
  .exact zat (C:=zvH or0) (G:=GC) (B:=30) (m:=7) (g:=96) (c:=λus=>if us= [.dat 22 c,.dat 130 l] then ziZ us else none) rfl rfl rfl zxO (λus p r hc hp ht=>by
    split at hc
    .rename_i e;subst e;cases hc;rw [ztD q];exact zyx _ _ hp.1.1 q
    .cases hc) (λ_ _=>rfl) rfl rfl d hd _ p r (by show (if _ then _ else _)=_;rw [if_pos rfl];exact hc0) hp
  .exact zat (C:=zoe or0 c l) (G:=GC) (B:=30) (m:=7) (g:=96) (c:=λus=>if us= [.dat 22 c,.dat 130 l] then ziZ us else none) rfl rfl rfl zxO (λus p r hc hp ht=>by
    split at hc
    .rename_i e;subst e;cases hc;exact s96 _ _ hp.1.1 hp.1.2 (by omega) hp.2.1 hp.2.2
    .cases hc) (λ_ _=>rfl) rfl rfl d hd _ p r (by show (if _ then _ else _)=_;rw [if_pos rfl];exact hc0) hp
 .cases hc
theorem zxP:∀d,38<=d->∀g c,os0 g=some c->VC d g c:=λd hd g c h=>by
 unfold os0 at h
 split at h
 .cases h;exact v96 d (by omega)
 .cases h;exact v97 d (by omega)
 .cases h;exact zxK d (by omega)
 .cases h;exact v93 d (by omega)
 .cases h;exact v98 d (by omega)
 .cases h;exact v91 d (by omega)
 .cases h
theorem v34:∀d,42<=d->VC d 34 ztc:=λd hd=>
 zat (C:=zqV os0 .nil .nil) (G:=GC) (B:=38) (m:=4) rfl rfl rfl zxP (λus p r hc hp ht=>by
  unfold ztc at hc;split at hc
  .cases hc;exact s34 _ _ hp
  .cases hc) (λ_ _=>rfl) rfl rfl d hd
theorem zzk:∀d,42<=d->∀g c,os1 g=some c->VC d g c:=λd hd g c h=>by
 unfold os1 at h
 split at h
 .cases h;exact v34 d (by omega)
 .exact zxP d (by omega) _ c h
end
end Go.Ev

end

section
open Go.Proofs
namespace Go.Ev
noncomputable section
def zlk:Con:=λ| [.dat 22 c,.dat 23 g]=>some (zkw c g,.ownr 3 true (okO c g) (zbQ (List.replicate g.len (.int 0)) (orD c g) (orD c g).len))|_=>none
def zn7 (L:List D):Con:=λ| [.dat 40 l]=>some (zqo l/\L=mL (m8 l) (m8 l).len,.ownr 69 false (0<L.length) L)|_=>none
structure zvS (g:D):Prop where
 out:g=za6 g.asList
def zn9:Con:=λ| [.dat 23 g]=>some (g.len<=100/\zvS g,.ownr 53 false (0<g.len) g.asList)|_=>none
def zn8 (g:D):Con:=λ| [.dat 48 l,.int .i64 n]=>some ((zus l/\0<=n/\n<=64)/\g=gsD n l,.dat 23 g)|_=>none
structure zfa (k:Int):Prop where
 out:k=9\/k=10
def ztd:Con:=λ| [.agg [.int .u8 k,.str _,.prop _,.dat 29 _,.int .i64 _]]=>some (True,.prop (zfa k))|_=>none
open Classical in
def dlL (L:List D) (n:Nat):List D:=(L.take n).filter λd=>decide (¬zfa (cK d))
open Classical in
def dlD (L:List D):D:=if 0<L.length then .list (dlL L L.length) else .nil
def zxQ (S:SS) (t:Tmp):List UInt8:=match S.fr.get t with|some (.fn _ _ [.ptr b _])=>(zfF (bkV S b 0)).getD []|_=> []
def zwC (S:SS) (t:Tmp) (l:List (Nat×SB)):List (Nat×SB):=match S.fr.get t with|some (.slc _ _ _ _)=>l|_=> []
structure nmP (d:D) (s:List UInt8):Prop where
 out:(d.fld 0).asStr=s
structure zjr (L M:List D):Prop where
 out:L.Perm M
def zwJ (g sw:D):FuncId->Nat->Option Ann
 |101,2=>some {τ:=Nat,slots:=λ_ _ x=> [(8,.int .i64 x)],blks:=λ_ _ _=> [],inv:=λS _ x=>x<=(zbD S 0).length/\∀i,i<x->¬zfa (cK (zad (zbD S 0) i)),meas:=λS _ x=>(zbD S 0).length-x}
 |38,5=>some {τ:=Nat,slots:=λS _ j=> [(6,.int .i64 j),(5,.int .i64 (dlL (zbD S 0) j).length)],blks:=λS _ j=> [(znf S 0,.arr 69 (dlL (zbD S 0) j++(zbD S 0).drop (dlL (zbD S 0) j).length))],inv:=λS _ j=>j<=(zbD S 0).length,meas:=λS _ j=>(zbD S 0).length-j}
 |10,5=>some {τ:=Nat×List D,slots:=λ_ _ x=> [(33,.int .i64 x.1)],blks:=λS _ x=>zwC S 9 [(znf S 9,.arr 53 x.2)],inv:=λ_ _ x=>x.1<=(mG 30 sw).len/\zjr x.2 g.asList,meas:=λ_ _ x=>(mG 30 sw).len-x.1}
 |10,16=>some {τ:=Nat,slots:=λ_ _ x=> [(86,.int .i64 x)],blks:=λ_ _ _=> [],inv:=λ_ _ x=>x<=g.len,meas:=λ_ _ x=>g.len-x}
 |41,2=>some {τ:=Nat,slots:=λ_ _ x=> [(8,.int .i64 x)],blks:=λ_ _ _=> [],inv:=λS _ x=>x<=(zbD S 0).length/\∀i,i<x->¬nmP (zad (zbD S 0) i) (zxQ S 1),meas:=λS _ x=>(zbD S 0).length-x}
 |_,_=>none
structure mvP (g:D) (M A B:List D):Prop where
 out:A.length=g.len/\B.length=g.len/\∀i j,i<g.len->j<g.len->nmP (el g i) ((zad M j).fld 0).asStr->(zad A i).asInt=(zad B j).asInt
def zvk (L:List D) (g:D):FuncId->Nat->Option Ann
 |10,2=>some {τ:=Unit,slots:=λ_ _ _=> [(7,.dat 22 (dlD L))],blks:=λ_ _ _=> [],inv:=λ_ _ _=>True,meas:=λ_ _ _=>0}
 |10,13=>some {τ:=List D×List D,slots:=λS _ x=> [(15,.slc (Nat.add S.nx 200) (.lit 0) (.sym g.len) (some (.sym g.len))),(16,.slc (Nat.add S.nx 201) (.lit 0) (.sym g.len) (some (.sym g.len)))],blks:=λS _ x=> [(Nat.add S.nx 200,.arr 3 x.1),(Nat.add S.nx 201,.arr 3 x.2)],inv:=λS _ x=>mvP g (zbD S 9) x.1 x.2,meas:=λ_ _ _=>0}
 |_,_=>none
def zwK:FuncId->Nat->List (Tmp×TypeId)
 |10,1=> [(7,22)]
 |_,_=> []
def zqU (con:FuncId->Option Con) (L:List D) (g sw:D):Ctx:={ctx con (zwJ g sw) with join:=zvk L g,frzT:=zwK}
instance (con:FuncId->Option Con) (L:List D) (g sw:D):Nonempty (NoF (zqU con L g sw)):=⟨⟨λ_ _ h=>zg3 h⟩⟩
def mv0 (L:List D) (g:D):FuncId->Option Con
 |29=>some (zn7 L)
 |39=>some ztd
 |30=>some (zxC (zn8 g))
 |35=>some zlk
 |40=>some zn9
 |_=>none
end
end Go.Ev

end

section
open Go.Proofs
namespace Go.Ev
noncomputable section
set_option maxRecDepth 100000
theorem zlZ {c:D}:∀(f i:Nat),(∀k,i<=k->k<i+f->zg0 c k=0)->zbL c f i=(0,0)
 |0,_,_=>rfl
 |f+1,i,h=>by
  unfold zbL
  rw [if_neg (λk=>k (h i (Nat.le_refl _) (by omega)))]
  exact zlZ f (i+1) λk h1 h2=>h k (by omega) (by omega)
theorem zj4 {c:D} (hl:c.len<=32) (h:∀i,i<c.len->zg0 c i=0):(zbB c).2=0:=by
 unfold zbB
 rw [if_neg (by omega),zlZ _ _ λk _ h2=>h k (by omega)]
theorem zs5 {c:D} (h:(zbB c).2=0) {x:Nat} (hx:x<c.len):zg0 c x=0:=by
 unfold zbB at h
 split at h
 .cases h
 .exact zgz c.len 0 h x (Nat.zero_le _) (by omega)
theorem zlo {c:D} {i:Nat} {k:Int} {a:List UInt8} {la:Prop} {nm:D} {n:Int}:
  zcG c i k a la nm n=0↔zbo k a la nm.len n/\¬zfB nm/\¬(a≠ []/\¬za4 a)/\¬zbi nm/\¬(a≠ []/\¬zaM c i a):=by
 unfold zcG
 by_cases h1:zbo k a la nm.len n
 .rw [if_neg (λq=>q h1)]
  by_cases h2:zfB nm\/(a≠ []/\¬za4 a)
  .rw [if_pos h2];exact ⟨λq=>by omega,λq=>(h2.elim (λw=>q.2.1 w) (λw=>q.2.2.1 w)).elim⟩
  .rw [if_neg h2]
   by_cases h3:zbi nm
   .rw [if_pos h3];exact ⟨λq=>by omega,λq=>(q.2.2.2.1 h3).elim⟩
   .rw [if_neg h3]
    by_cases h4:a≠ []/\¬zaM c i a
    .rw [if_pos h4];exact ⟨λq=>by omega,λq=>(q.2.2.2.2 h4).elim⟩
    .rw [if_neg h4];exact ⟨λ_=>⟨h1,λw=>h2 (.inl w),λw=>h2 (.inr w),h3,h4⟩,λ_=>rfl⟩
 .rw [if_pos h1];exact ⟨λq=>by omega,λq=>(h1 q.1).elim⟩
theorem zcN (l:List D):(za6 l).asList=l:=by cases l<;>rfl
end
end Go.Ev

end

section
open Go.Proofs
namespace Go.Ev
noncomputable section
set_option maxRecDepth 100000
set_option maxHeartbeats 4000000
theorem zza:∀(pa pb:Int) (nm:List UInt8),zah (zjX (λ_=>none) zh9) 3 (90:FuncId) [V.agg [V.int IntKind.u8 pa,V.int IntKind.u8 pb],V.str nm] (gV (pG pa pb nm))=(((3:Int)=0->False)/\0<=pa/\
(0:Int)<=64/\(0<=pa/\pa<256)/\((0:Int)<=64/\(64:Int)<256)/\((4:Int)=0->False)/\fits64 (10*IntKind.i64.wrap (pb.tmod 4))/\0<=pb/\(0:Int)<=128/\(0<=pb/\pb<256)/\((0:Int)<=128/\(128
:Int)<256)/\(0<=pa/\(0:Int)<=4/\(0<=pa/\pa<256)/\((0:Int)<=4/\(4:Int)<256)/\((zae pa 4=0->False)->(0:Int)<=3/\0<=zbG IntKind.u8 pa 3/\(0:Int)<=3/\(0<=zbG IntKind.u8 pa 3/\zbG
IntKind.u8 pa 3<256)/\((0:Int)<=3/\(3:Int)<256)/\0<=zae (zbG IntKind.u8 pa 3) 3/\zae (zbG IntKind.u8 pa 3) 3<=(zb9.length:Int)/\(zb9.length:Int)<=(zb9.length:Int)/\(0:Int)<=0/\(0:
Int)<=1/\1<=(↑(List.take (zb9.length-(zae (zbG IntKind.u8 pa 3) 3).toNat) (List.drop (zae (zbG IntKind.u8 pa 3) 3).toNat zb9)).length:Int)/\∃(x:Unit),True/\True/\(nm=nm/\zfs (zae (zbG
IntKind.u8 pa 3) 3)=pRk pa/\([]:List UInt8)= []/\10*IntKind.i64.wrap (pb.tmod 4)=10*IntKind.i64.wrap (pb.tmod 4)/\IntKind.i64.wrap (pa.tmod 3)=IntKind.i64.wrap (pa.tmod 3)/\([]:List UInt8)= []/\
(zae pa 64=0->False↔zae pa 64=0->False)/\(zae pb 128=0->False↔zae pb 128=0->False)/\True/\True)/\True)/\(((zae pa 4=0->False)->False)->∃(x:Unit),True/\True/\(nm=nm/\ []=pRk
pa/\([]:List UInt8)= []/\10*IntKind.i64.wrap (pb.tmod 4)=10*IntKind.i64.wrap (pb.tmod 4)/\IntKind.i64.wrap (pa.tmod 3)=IntKind.i64.wrap (pa.tmod 3)/\([]:List UInt8)= []/\(zae pa 64=0->False↔
zae pa 64=0->False)/\(zae pb 128=0->False↔zae pb 128=0->False)/\True/\True)/\True))/\∀(x:Unit),True->(0<=pb/\(0:Int)<=4/\(0<=pb/\pb<256)/\((0:Int)<=4/\(4:Int)<256)/\((zae
pb 4=0->False)->(0:Int)<=3/\0<=zbG IntKind.u8 pb 3/\(0:Int)<=3/\(0<=zbG IntKind.u8 pb 3/\zbG IntKind.u8 pb 3<256)/\((0:Int)<=3/\(3:Int)<256)/\0<=zae (zbG IntKind.u8 pb 3) 3/\zae
(zbG IntKind.u8 pb 3) 3<=(zb9.length:Int)/\(zb9.length:Int)<=(zb9.length:Int)/\(0:Int)<=0/\(0:Int)<=1/\1<=(↑(List.take (zb9.length-(zae (zbG IntKind.u8 pb 3) 3).toNat) (List.drop (zae (zbG
IntKind.u8 pb 3) 3).toNat zb9)).length:Int)/\∃(x:Unit),True/\True/\(nm=nm/\pRk pa=pRk pa/\zfs (zae (zbG IntKind.u8 pb 3) 3)=pCt pb/\10*IntKind.i64.wrap (pb.tmod 4)=10*IntKind.i64.wrap
(pb.tmod 4)/\IntKind.i64.wrap (pa.tmod 3)=IntKind.i64.wrap (pa.tmod 3)/\([]:List UInt8)= []/\(zae pa 64=0->False↔zae pa 64=0->False)/\(zae pb 128=0->False↔zae pb 128=0->False)/\True/\
True)/\True)/\(((zae pb 4=0->False)->False)->∃(x:Unit),True/\True/\(nm=nm/\pRk pa=pRk pa/\ []=pCt pb/\10*IntKind.i64.wrap (pb.tmod 4)=10*IntKind.i64.wrap (pb.tmod 4)/\IntKind.i64.wrap
(pa.tmod 3)=IntKind.i64.wrap (pa.tmod 3)/\([]:List UInt8)= []/\(zae pa 64=0->False↔zae pa 64=0->False)/\(zae pb 128=0->False↔zae pb 128=0->False)/\True/\True)/\True))/\∀(x:Unit),
True->(0<=pb/\(0:Int)<=64/\(0<=pb/\pb<256)/\((0:Int)<=64/\(64:Int)<256)/\((zae pb 64=0->False)->(0:Int)<=4/\0<=zbG IntKind.u8 pa 4/\(0:Int)<=3/\(0<=zbG IntKind.u8 pa 4/\zbG
IntKind.u8 pa 4<256)/\((0:Int)<=3/\(3:Int)<256)/\0<=zae (zbG IntKind.u8 pa 4) 3/\zae (zbG IntKind.u8 pa 4) 3<=(zb9.length:Int)/\(zb9.length:Int)<=(zb9.length:Int)/\(0:Int)<=0/\(0:
Int)<=1/\1<=(↑(List.take (zb9.length-(zae (zbG IntKind.u8 pa 4) 3).toNat) (List.drop (zae (zbG IntKind.u8 pa 4) 3).toNat zb9)).length:Int)/\0+1<= [D.str (zfs (zae (zbG IntKind.u8 pa 4) 3))].length/\
((∃(x:Unit),zae pb 64=0/\True/\(nm=nm/\pRk pa=pRk pa/\pCt pb=pCt pb/\10*IntKind.i64.wrap (pb.tmod 4)=10*IntKind.i64.wrap (pb.tmod 4)/\IntKind.i64.wrap (pa.tmod 3)=IntKind.i64.wrap (pa.tmod 3)
/\([]:List UInt8)= []/\(zae pa 64=0->False↔zae pa 64=0->False)/\(zae pb 128=0->False↔zae pb 128=0->False)/\False/\True)/\True)\/∃(x:Unit),(zae pb 64=0->False)/\True/\(nm=nm/\
pRk pa=pRk pa/\pCt pb=pCt pb/\10*IntKind.i64.wrap (pb.tmod 4)=10*IntKind.i64.wrap (pb.tmod 4)/\IntKind.i64.wrap (pa.tmod 3)=IntKind.i64.wrap (pa.tmod 3)/\([]:List UInt8)= []/\(zae pa 64=0->False
↔zae pa 64=0->False)/\(zae pb 128=0->False↔zae pb 128=0->False)/\D.list (List.take 1 [D.str (zfs (zae (zbG IntKind.u8 pa 4) 3))])=D.list [D.str (zfs (zng pa 4))]/\True)/\True))/\(((zae pb
64=0->False)->False)->(∃(x:Unit),zae pb 64=0/\True/\(nm=nm/\pRk pa=pRk pa/\pCt pb=pCt pb/\10*IntKind.i64.wrap (pb.tmod 4)=10*IntKind.i64.wrap (pb.tmod 4)/\IntKind.i64.wrap (pa.tmod 3)=
IntKind.i64.wrap (pa.tmod 3)/\([]:List UInt8)= []/\(zae pa 64=0->False↔zae pa 64=0->False)/\(zae pb 128=0->False↔zae pb 128=0->False)/\True/\True)/\True)\/∃(x:Unit),(zae pb 64=0
->False)/\True/\(nm=nm/\pRk pa=pRk pa/\pCt pb=pCt pb/\10*IntKind.i64.wrap (pb.tmod 4)=10*IntKind.i64.wrap (pb.tmod 4)/\IntKind.i64.wrap (pa.tmod 3)=IntKind.i64.wrap (pa.tmod 3)/\([]:List UInt8)=
[]/\(zae pa 64=0->False↔zae pa 64=0->False)/\(zae pb 128=0->False↔zae pb 128=0->False)/\False/\True)/\True))/\(∀(x:Unit),zae pb 64=0->(0<=pa/\(0:Int)<=128/\(0<=pa/\pa<256)
/\((0:Int)<=128/\(128:Int)<256)/\((zae pa 128=0->False)->(0:Int)<=4/\0<=zbG IntKind.u8 pb 4/\(0:Int)<=3/\(0<=zbG IntKind.u8 pb 4/\zbG IntKind.u8 pb 4<256)/\((0:Int)<=3/\(3:Int)<
256)/\0<=zae (zbG IntKind.u8 pb 4) 3/\zae (zbG IntKind.u8 pb 4) 3<=(zb9.length:Int)/\(zb9.length:Int)<=(zb9.length:Int)/\(0:Int)<=0/\(0:Int)<=1/\1<=(↑(List.take (zb9.length-(zae (zbG
IntKind.u8 pb 4) 3).toNat) (List.drop (zae (zbG IntKind.u8 pb 4) 3).toNat zb9)).length:Int)/\∃(x:Unit),True/\True/\(nm=nm/\pRk pa=pRk pa/\pCt pb=pCt pb/\10*IntKind.i64.wrap (pb.tmod 4)=10*
IntKind.i64.wrap (pb.tmod 4)/\IntKind.i64.wrap (pa.tmod 3)=IntKind.i64.wrap (pa.tmod 3)/\zfs (zae (zbG IntKind.u8 pb 4) 3)=pDi pa pb/\(zae pa 64=0->False↔zae pa 64=0->False)/\(zae pb 128=0->
False↔zae pb 128=0->False)/\True/\True)/\True)/\(((zae pa 128=0->False)->False)->∃(x:Unit),True/\True/\(nm=nm/\pRk pa=pRk pa/\pCt pb=pCt pb/\10*IntKind.i64.wrap (pb.tmod 4)=10*
IntKind.i64.wrap (pb.tmod 4)/\IntKind.i64.wrap (pa.tmod 3)=IntKind.i64.wrap (pa.tmod 3)/\ []=pDi pa pb/\(zae pa 64=0->False↔zae pa 64=0->False)/\(zae pb 128=0->False↔zae pb 128=0->False)/\
True/\True)/\True))/\∀(x:Unit),True->nm=(pG pa pb nm).nm/\pRk pa=(pG pa pb nm).rk/\pCt pb=(pG pa pb nm).ct/\10*IntKind.i64.wrap (pb.tmod 4)=(pG pa pb nm).si/\IntKind.i64.wrap (pa.tmod 3)=(pG pa pb
nm).sd/\pDi pa pb=(pG pa pb nm).di/\(zae pa 64=0->False↔zae pa 64=0->False)/\(zae pb 128=0->False↔zae pb 128=0->False)/\D.nil=(pG pa pb nm).tg/\True)/\∀(x:Unit),(zae pb 64=0->
False)->(0<=pa/\(0:Int)<=128/\(0<=pa/\pa<256)/\((0:Int)<=128/\(128:Int)<256)/\((zae pa 128=0->False)->(0:Int)<=4/\0<=zbG IntKind.u8 pb 4/\(0:Int)<=3/\(0<=zbG IntKind.u8 pb 4/\zbG
IntKind.u8 pb 4<256)/\((0:Int)<=3/\(3:Int)<256)/\0<=zae (zbG IntKind.u8 pb 4) 3/\zae (zbG IntKind.u8 pb 4) 3<=(zb9.length:Int)/\(zb9.length:Int)<=(zb9.length:Int)/\(0:Int)<=0/\(0:
Int)<=1/\1<=(↑(List.take (zb9.length-(zae (zbG IntKind.u8 pb 4) 3).toNat) (List.drop (zae (zbG IntKind.u8 pb 4) 3).toNat zb9)).length:Int)/\∃(x:Unit),True/\True/\(nm=nm/\pRk pa=pRk pa/\pCt pb
=pCt pb/\10*IntKind.i64.wrap (pb.tmod 4)=10*IntKind.i64.wrap (pb.tmod 4)/\IntKind.i64.wrap (pa.tmod 3)=IntKind.i64.wrap (pa.tmod 3)/\zfs (zae (zbG IntKind.u8 pb 4) 3)=pDi pa pb/\(zae pa 64=0->
False↔zae pa 64=0->False)/\(zae pb 128=0->False↔zae pb 128=0->False)/\D.list [D.str (zfs (zng pa 4))]=D.list [D.str (zfs (zng pa 4))]/\True)/\True)/\(((zae pa 128=0->False)->False)->∃
(x:Unit),True/\True/\(nm=nm/\pRk pa=pRk pa/\pCt pb=pCt pb/\10*IntKind.i64.wrap (pb.tmod 4)=10*IntKind.i64.wrap (pb.tmod 4)/\IntKind.i64.wrap (pa.tmod 3)=IntKind.i64.wrap (pa.tmod 3)/\ []=pDi pa
pb/\(zae pa 64=0->False↔zae pa 64=0->False)/\(zae pb 128=0->False↔zae pb 128=0->False)/\D.list [D.str (zfs (zng pa 4))]=D.list [D.str (zfs (zng pa 4))]/\True)/\True))/\∀(x:Unit),
True->nm=(pG pa pb nm).nm/\pRk pa=(pG pa pb nm).rk/\pCt pb=(pG pa pb nm).ct/\10*IntKind.i64.wrap (pb.tmod 4)=(pG pa pb nm).si/\IntKind.i64.wrap (pa.tmod 3)=(pG pa pb nm).sd/\pDi pa pb=(pG pa pb nm).di
/\(zae pa 64=0->False↔zae pa 64=0->False)/\(zae pb 128=0->False↔zae pb 128=0->False)/\D.list [D.str (zfs (zng pa 4))]=(pG pa pb nm).tg/\True):=by intros;kernel_rfl
theorem zqB (a:Int):0<=zae a 3/\zae a 3<=3:=by
 unfold zae
 have:a.toNat&&&(3:Int).toNat<=3:=Nat.and_le_right
 omega
theorem zl3 {a:Int} (h:0<=a/\a<256) (n:Int):0<=zbG .u8 a n/\zbG .u8 a n<256:=by
 unfold zbG
 generalize min n.toNat IntKind.u8.bits=m
 have h2:(0:Int)<2^m:=Int.pow_pos (by decide)
 rw [Int.fdiv_eq_ediv_of_nonneg _ (Int.le_of_lt h2)]
 exact ⟨Int.ediv_nonneg h.1 (Int.le_of_lt h2),Int.lt_of_le_of_lt (Int.ediv_le_self _ h.1) h.2⟩
theorem zlb:zb9.length=4:=rfl
theorem ztO {k:Int} (h:0<=k/\k<=3):(1:Int)<=((List.take (zb9.length-k.toNat) (List.drop k.toNat zb9)).length:Int):=by
 rw [List.length_take,List.length_drop,zlb];omega
theorem zoV {k:Int} (h:0<=k/\k<=3):k<=(zb9.length:Int):=by rw [zlb];omega
theorem zx2 {pa:Int} (h:zae pa 4=0->False):zfs (zae (zbG IntKind.u8 pa 3) 3)=pRk pa:=by unfold pRk;rw [if_neg h];rfl
theorem zx1 {pa:Int} (h:(zae pa 4=0->False)->False): []=pRk pa:=by unfold pRk;rw [if_pos (Classical.byContradiction h)]
theorem zxT {pa pb:Int} (h:zae pa 128=0->False):zfs (zae (zbG IntKind.u8 pb 4) 3)=pDi pa pb:=by unfold pDi;rw [if_neg h];rfl
theorem zxS {pa pb:Int} (h:(zae pa 128=0->False)->False): []=pDi pa pb:=by unfold pDi;rw [if_pos (Classical.byContradiction h)]
theorem zyz {pa pb:Int} {nm:List UInt8} (h:zae pb 64=0->False):D.list [D.str (zfs (zng pa 4))]=(pG pa pb nm).tg:=by show _=pTg pa pb;unfold pTg;rw [if_neg h]
theorem zyy {pa pb:Int} {nm:List UInt8} (h:zae pb 64=0):D.nil=(pG pa pb nm).tg:=by show _=pTg pa pb;unfold pTg;rw [if_pos h]
theorem zk5 {p:Int} (h:0<=p/\p<256) (m:Int) (hm:0<m/\m<=100):IntKind.i64.wrap (p.tmod m)=p.tmod m/\0<=p.tmod m/\p.tmod m<m:=by
 have h1:0<=p.tmod m:=Int.tmod_nonneg _ h.1
 have h2:p.tmod m<m:=Int.tmod_lt_of_pos _ hm.1
 exact ⟨IntWalk.i64_in _ ⟨by omega,by omega⟩,h1,h2⟩
theorem s90 (pa pb:Int) (nm:List UInt8) (ha:0<=pa/\pa<256) (hb:0<=pb/\pb<256):zah (zjX (λ_=>none) zh9) 3 90 [.agg [.int .u8 pa,.int .u8 pb],.str nm] (gV (pG pa pb nm)):=by
 rw [zza]
 have w4:=zk5 hb 4 (by omega)
 have a3:=zl3 ha 3
 have a4:=zl3 ha 4
 have b3:=zl3 hb 3
 have b4:=zl3 hb 4
 have x3:=zqB (zbG IntKind.u8 pa 3)
 have x4:=zqB (zbG IntKind.u8 pa 4)
 have y3:=zqB (zbG IntKind.u8 pb 3)
 have y4:=zqB (zbG IntKind.u8 pb 4)
 repeat' (first|apply And.intro|intro _|refine Or.inl (Exists.intro () (And.intro (Classical.byContradiction ‹(zae pb 64=0->False)->False›) ?_))|refine Or.inr (Exists.intro () (And.intro ‹zae pb 64=0->False› ?_))|refine Exists.intro () ?_)
 all_goals first
  |with_reducible rfl
  |trivial
  |exact zx2 ‹_›
  |exact zx1 ‹_›
  |exact ct_y ‹_›
  |exact ct_n ‹_›
  |exact zxT ‹_›
  |exact zxS ‹_›
  |exact zyz ‹_›
  |exact zyy ‹_›
  |exact ztO ‹_›
  |exact zoV ‹_›
  |exact Nat.le_refl 1
  |rfl
  |omega
end
end Go.Ev

end

section
open Go.Proofs
namespace Go.Ev
noncomputable section
set_option maxRecDepth 100000
set_option maxHeartbeats 4000000
theorem zlG (l:D) (k:Nat):(min (l.len:Int) (k:Int)).toNat<=l.len/\(min (l.len:Int) (k:Int)).toNat<=k:=by omega
theorem zlF (l:D):(m8 l).len<=l.len/\(m8 l).len<=8:=by
 have h:=zlG l 8
 have e:(m8 l).len=(min (l.len:Int) ((8:Nat):Int)).toNat:=zcI l _ h.1
 rw [e];exact h
theorem zve {l:D} {x:Nat} (hx:x<(m8 l).len):el (m8 l) x=el l x:=by
 have h:=zlG l 8
 have e:(m8 l).len=(min (l.len:Int) ((8:Nat):Int)).toNat:=zcI l _ h.1
 exact zhv l _ x (by omega)
theorem zgp (l:D) (n:Nat):(mL l n).length=n:=by unfold mL;rw [List.length_map,List.length_range]
theorem ztT (l:D) (x:Nat):mL l (x+1)=mL l x++ [mC (el l x) (mR l x)]:=by unfold mL;rw [List.range_succ,List.map_append];rfl
theorem zsw {l:D} {x:Nat} {e:D} (h:e=mC (el l x) (mR l x)):List.take x (mL l x)++List.take 1 [e]=mL l (x+1):=by
 subst h;rw [ztT,List.take_of_length_le (by rw [zgp];exact Nat.le_refl _)];rfl
theorem zwI {l:D} {x:Nat} (h:mK (el l x)=1):nm1 (el l x)=mR l (x+1):=by show _=if _ then _ else _;rw [if_pos h]
theorem zrt {l:D} {x:Nat} (h:mK (el l x)=1->False):mR l x=mR l (x+1):=by show _=if _ then _ else _;rw [if_neg h]
theorem zld {d:D} {r:List UInt8} (h:(d.fld 4).asProp) (h1:mK d=1->False):r=mAm d r:=by unfold mAm;rw [if_pos ⟨h,h1⟩]
theorem zeq {d:D} {r:List UInt8} (h:(d.fld 4).asProp->False): []=mAm d r:=by unfold mAm;rw [if_neg λk=>h k.1]
theorem zd7 {d:D} {r:List UInt8} (h:(mK d=1->False)->False): []=mAm d r:=by unfold mAm;rw [if_neg λk=>h k.2]
theorem zuD {d:D} (h:zae (d.fld 2).asInt 4=0):List.take 1 [D.str (nm1 d)]=mNm d:=by unfold mNm;rw [if_pos h];rfl
theorem zuE {d:D} (h:zae (d.fld 2).asInt 4=0->False):List.take 2 ([D.str (nm1 d)]++ [D.str (nm2 d)])=mNm d:=by unfold mNm;rw [if_neg h];rfl
theorem mC1 {d:D} {r a:List UInt8} {n:List D} (h:mK d=1) (ha:a=mAm d r) (hn:n=mNm d):D.sct [.int (mK d),.str a,.bool (false=true),.list n,.int 0]=mC d r:=by unfold mC;rw [if_pos h,ha,hn]
theorem mC4 {d:D} {r a:List UInt8} (h:mK d=4) (ha:a=mAm d r):D.sct [.int (mK d),.str a,.bool (d.fld 3).asProp,.nil,.int (1+IntKind.i64.wrap (((d.fld 1).asInt).tmod 2))]=mC d r:=by unfold mC;rw [if_neg (by omega),if_pos h,ha]
theorem mC5 {d:D} {r a:List UInt8} (h:mK d=5) (ha:a=mAm d r):D.sct [.int (mK d),.str a,.bool (d.fld 3).asProp,.nil,.int 0]=mC d r:=by unfold mC;rw [if_neg (by omega),if_neg (by omega),if_pos h,ha]
theorem mC6 {d:D} {r a:List UInt8} {n:List D} (h:mK d=6) (ha:a=mAm d r) (hn:n=mNm d):D.sct [.int (mK d),.str a,.bool (d.fld 3).asProp,.list n,.int 0]=mC d r:=by unfold mC;rw [if_neg (by omega),if_neg (by omega),if_neg (by omega),if_pos (.inl h),ha,hn]
theorem mC7 {d:D} {r a:List UInt8} {n:List D} (h:mK d=7) (ha:a=mAm d r) (hn:n=mNm d):D.sct [.int (mK d),.str a,.bool (d.fld 3).asProp,.list n,.int 0]=mC d r:=by unfold mC;rw [if_neg (by omega),if_neg (by omega),if_neg (by omega),if_pos (.inr h),ha,hn]
theorem zwH {d:D} {r a:List UInt8} (h:mK d=10) (ha:a=mAm d r):D.sct [.int (mK d),.str a,.bool (false=true),.nil,.int (IntKind.i64.wrap (((d.fld 1).asInt).tmod 64))]=mC d r:=by unfold mC;rw [if_neg (by omega),if_neg (by omega),if_neg (by omega),if_neg (by omega),if_pos h,ha]
theorem mC0 {d:D} {r a:List UInt8} (h1:mK d=1->False) (h4:mK d=4->False) (h5:mK d=5->False) (h6:mK d=6->False) (h7:mK d=7->False) (h10:mK d=10->False) (ha:a=mAm d r):
  D.sct [.int (mK d),.str a,.bool (false=true),.nil,.int 0]=mC d r:=by unfold mC;rw [if_neg h1,if_neg h4,if_neg h5,if_neg (λk=>k.elim h6 h7),if_neg h10,ha]
theorem ztV {l:D} {x:Nat} {e:D} {r:List UInt8} (hx:(x:Int)<l.len) (he:e=mC (el l x) (mR l x)) (hr:r=mR l (x+1)):
  (∃y:Nat,y=0/\l.len-y<l.len-x/\((x:Int)+1=0/\False/\r= []/\True)/\True)\/
  ∃y:Nat,(0<y/\y<=l.len)/\l.len-y<l.len-x/\((x:Int)+1=(y:Int)/\((0:Nat)=0/\x+1=y/\True)/\r=mR l y/\True)/\List.take x (mL l x)++List.take 1 [e]=mL l y/\True:=
 .inr ⟨x+1,⟨by omega,by omega⟩,by omega,⟨by omega,⟨rfl,rfl,trivial⟩,hr,trivial⟩,zsw he,trivial⟩
theorem zkr {l:D} {e:D} {r:List UInt8} (hx:(0:Int)<l.len) (he:e=mC (el l 0) []) (hr:r=mR l 1):
  (∃y:Nat,y=0/\l.len-y<l.len-0/\((0:Int)+1=0/\False/\r= []/\True)/\True)\/
  ∃y:Nat,(0<y/\y<=l.len)/\l.len-y<l.len-0/\((0:Int)+1=(y:Int)/\((0:Nat)=0/\1=y/\True)/\r=mR l y/\True)/\List.take 1 [e]=mL l y/\True:=
 .inr ⟨1,⟨by omega,by omega⟩,by omega,⟨rfl,⟨rfl,rfl,trivial⟩,hr,trivial⟩,zsw (x:=0) he,trivial⟩
theorem zmF {l:D} (h:mK (el l 0)=1->False): []=mR l 1:=zrt h
theorem zsz {c:Int} (h:0<=c):0<=c.tmod 4/\c.tmod 4<=3:=by rw [Int.tmod_eq_emod_of_nonneg h];omega
theorem zvV (n:Int):0<=IntKind.u8.wrap n/\IntKind.u8.wrap n<256:=by
 show 0<=n.emod 256/\n.emod 256<256
 exact ⟨Int.emod_nonneg _ (by decide),Int.emod_lt_of_pos _ (by decide)⟩
theorem zkp {l:List D} (h:0<l.length):D.list l=za6 l:=by
 cases l with
 |nil=>cases h
 |cons a l=>rfl
end
end Go.Ev

end

section
open Go.Proofs
namespace Go.Ev
noncomputable section
set_option maxRecDepth 100000
set_option maxHeartbeats 4000000
theorem zy6:∀(l:D) (n:Int),zah (zjX (λ(x:FuncId)=>match x with|90=>some zmr|_=>none) zh9) 3 (30:FuncId) [V.dat (48:TypeId) l,V.int IntKind.i64 n] (V.dat (23:TypeId) (gsD n l))=((0
:Int)<=0/\0<=min (l.len:Int) n/\min (l.len:Int) n<=(l.len:Int)/\((∃(x:Nat),x=0/\((0:Int)=0/\True/\True)/\True)\/∃(x:Nat),(0<x/\x<=(mG n l).len)/\(0=(x:Int)/\False/\True)/\False
/\True)/\(∀(x:Nat),x=0->(mG n l).len-x<LIM/\(0<(↑(mG n l).len:Int)->(0:Int)<=0/\0<(↑(mG n l).len:Int)/\((26:Int)=0->False)/\fits64 (Int.tdiv 0 26)/\fits64 (97+Int.tdiv 0 26)/\((26:
Int)=0->False)/\fits64 (97+Int.tmod 0 26)/\0+2<=(gbs 0).length/\znu (List.take 2 (gbs 0))/\ [(103:UInt8)].length+(zfp (List.take 2 (gbs 0))).length<9223372036854775808/\((0<=cK (el (mG n l) 0)/\
cK (el (mG n l) 0)<256)/\0<=((el (mG n l) 0).fld 1).asInt/\((el (mG n l) 0).fld 1).asInt<256)/\0+1<= [gD (pG (cK (el (mG n l) 0)) ((el (mG n l) 0).fld 1).asInt (zjg 0))].length/\(1:Nat)<=16777216/\fits64
(0+1)/\((∃(y:Nat),y=0/\(mG n l).len-y<(mG n l).len-x/\((0:Int)+1=0/\False/\True)/\True)\/∃(y:Nat),(0<y/\y<=(mG n l).len)/\(mG n l).len-y<(mG n l).len-x/\(0+1=(y:Int)/\((0
:Nat)=0/\1=y/\True)/\True)/\List.take 1 [gD (pG (cK (el (mG n l) 0)) ((el (mG n l) 0).fld 1).asInt (zjg 0))]=gL (mG n l) y/\True))/\((0<(↑(mG n l).len:Int)->False)->D.nil=gsD n l))/\∀(x:Nat),0
<x/\x<=(mG n l).len->(mG n l).len-x<LIM/\((x:Int)<(↑(mG n l).len:Int)->0<=(x:Int)/\(x:Int)<(↑(mG n l).len:Int)/\((26:Int)=0->False)/\fits64 ((x:Int).tdiv 26)/\fits64 (97+(x:
Int).tdiv 26)/\((26:Int)=0->False)/\fits64 (97+(x:Int).tmod 26)/\0+2<=(gbs (x:Int)).length/\znu (List.take 2 (gbs (x:Int)))/\ [(103:UInt8)].length+(zfp (List.take 2 (gbs (x:Int)))).length<
9223372036854775808/\((0<=cK (el (mG n l) x)/\cK (el (mG n l) x)<256)/\0<=((el (mG n l) x).fld 1).asInt/\((el (mG n l) x).fld 1).asInt<256)/\0+1<= [gD (pG (cK (el (mG n l) x)) ((el (mG n l) x).fld 1).asInt
(zjg (x:Int)))].length/\0+x<=(gL (mG n l) x).length/\x+1<=16777216/\fits64 ((x:Int)+1)/\((∃(y:Nat),y=0/\(mG n l).len-y<(mG n l).len-x/\((x:Int)+1=0/\False/\True)/\True)\/∃(y:
Nat),(0<y/\y<=(mG n l).len)/\(mG n l).len-y<(mG n l).len-x/\((x:Int)+1=(y:Int)/\((0:Nat)=0/\x+1=y/\True)/\True)/\List.take x (gL (mG n l) x)++List.take 1 [gD (pG (cK (el (mG n l) x))
((el (mG n l) x).fld 1).asInt (zjg (x:Int)))]=gL (mG n l) y/\True))/\(((x:Int)<(↑(mG n l).len:Int)->False)->0+x<=(gL (mG n l) x).length/\D.list (List.take x (gL (mG n l) x))=gsD n l)):=by intros;kernel_rfl
theorem zo0 {n:Int} (h0:0<=n) (l:D):(mG n l).len<=l.len/\(mG n l).len<=n:=by
 have h:(min (l.len:Int) n).toNat<=l.len:=by omega
 have e:(mG n l).len=(min (l.len:Int) n).toNat:=zcI l _ h
 rw [e];omega
theorem zvg {n:Int} {l:D} {x:Nat} (hx:x<(mG n l).len):el (mG n l) x=el l x:=by
 have h:(min (l.len:Int) n).toNat<=l.len:=by omega
 have e:(mG n l).len=(min (l.len:Int) n).toNat:=zcI l _ h
 exact zhv l _ x (by omega)
theorem zhd (l:D) (n:Nat):(gL l n).length=n:=by unfold gL;rw [List.length_map,List.length_range]
theorem ztC (l:D) (x:Nat):gL l (x+1)=gL l x++ [gE l x]:=by unfold gL;rw [List.range_succ,List.map_append];rfl
theorem zsm {l:D} {x:Nat} {e:D} (h:e=gE l x):List.take x (gL l x)++List.take 1 [e]=gL l (x+1):=by
 subst h;rw [ztC,List.take_of_length_le (by rw [zhd];exact Nat.le_refl _)];rfl
theorem u8w (n:Int):0<=IntKind.u8.wrap n/\IntKind.u8.wrap n<256:=by
 show 0<=n.emod 256/\n.emod 256<256
 exact ⟨Int.emod_nonneg _ (by decide),Int.emod_lt_of_pos _ (by decide)⟩
theorem u8n (n:Int):(IntKind.u8.wrap n).toNat<256/\IntKind.u8.wrap n=((IntKind.u8.wrap n).toNat:Int):=by
 have:=u8w n
 omega
theorem zlv (i:Int):znu (List.take 2 (gbs i)):=⟨λd hd=>by
 have hd:d∈gbs i:=hd
 unfold gbs at hd
 rcases List.mem_cons.1 hd with h|h
 .subst h;exact ⟨_,(u8n _).1,congrArg D.int (u8n _).2⟩
 .rcases List.mem_cons.1 h with h|h
  .subst h;exact ⟨_,(u8n _).1,congrArg D.int (u8n _).2⟩
  .cases h⟩
theorem zmE {l:List D} (h:0<l.length):D.list l=za6 l:=by
 cases l with
 |nil=>cases h
 |cons a l=>rfl
theorem zsU {x:Int} (h:0<=x):0<=x.tdiv 26/\x.tdiv 26<=x/\0<=x.tmod 26/\x.tmod 26<26:=by
 rw [Int.tdiv_eq_ediv_of_nonneg h,Int.tmod_eq_emod_of_nonneg h];omega
theorem s30 (l:D) (n:Int) (hu:zus l) (h0:0<=n) (h64:n<=64):zah (zjX (λ|90=>some zmr|_=>none) zh9) 3 30 [.dat 48 l,.int .i64 n] (.dat 23 (gsD n l)):=by
 rw [zy6]
 have hl:=zo0 h0 l
 have hp:∀x,x<(mG n l).len->u8P (el (mG n l) x):=λx h=>by rw [zvg h];exact hu.out x (by omega)
 have t0:=zsU (Int.le_refl 0)
 refine ⟨Int.le_refl _,by omega,by omega,Or.inl ⟨0,rfl,⟨rfl,trivial,trivial⟩,trivial⟩,λx hx=>⟨zh0 (by omega),λh=> ?_,λh=> ?_⟩,λx hx=>⟨zh0 (by omega),λh=> ?_,λh=>⟨by rw [zhd];omega, ?_⟩⟩⟩
 .have hq:=(hp 0 (by omega)).out
  subst hx
  refine ⟨Int.le_refl _,h,λh=>absurd h (by decide),by omega,by omega,λh=>absurd h (by decide),by omega, ?_,zlv _, ?_,hq,Nat.le_refl _,by omega,by omega,Or.inr ⟨1,⟨by omega,by omega⟩,by omega,⟨rfl,⟨rfl,rfl,trivial⟩,trivial⟩, ?_,trivial⟩⟩
  .exact Nat.le_refl 2
  .show 1+2<9223372036854775808;omega
  .exact zsm (x:=0) rfl
 .have e:(mG n l).len=0:=by have h:¬(0:Int)<((mG n l).len:Int):=h;omega
  show D.nil=za6 (gL (mG n l) (mG n l).len)
  rw [e];rfl
 .have hq:=(hp x (by omega)).out
  have t:=zsU (x:=(x:Int)) (by omega)
  refine ⟨by omega,h,λh=>absurd h (by decide),by omega,by omega,λh=>absurd h (by decide),by omega, ?_,zlv _, ?_,hq,Nat.le_refl _,by rw [zhd];omega,by omega,by omega,Or.inr ⟨x+1,⟨by omega,by omega⟩,by omega,⟨by omega,⟨rfl,rfl,trivial⟩,trivial⟩,zsm rfl,trivial⟩⟩
  .exact Nat.le_refl 2
  .show 1+2<9223372036854775808;omega
 .have e:=zgT hx.2 h
  subst e
  rw [List.take_of_length_le (by rw [zhd];exact Nat.le_refl _)]
  exact zmE (by rw [zhd];exact hx.1)
end
end Go.Ev

end

section
open Go.Proofs
namespace Go.Ev
noncomputable section
set_option maxRecDepth 100000
theorem ztU {d:D} (hd:u8C d):1<=mK d/\mK d<=10:=by
 have h:=hd.out.1
 have e:mK d=(1+((d.fld 0).asInt).tmod 10)%256:=rfl
 rw [e,Int.tmod_eq_emod_of_nonneg h.1]
 omega
theorem zoW {k:Int} (h:0<=k/\k<=3):za4 (zfs k):=by
 have hk:k=0\/k=1\/k=2\/k=3:=by omega
 rcases hk with rfl|rfl|rfl|rfl
 all_goals exact ⟨by decide,by decide,λi hi=>by
  have hi:i<1:=hi
  have:i=0:=by omega
  subst this
  exact ⟨by decide,by decide⟩⟩
theorem ztQ {k j:Int} (h:0<=k/\k<=3) (h':0<=j/\j<=3) (hn:k≠j):zfs k≠zfs j:=by
 have hk:k=0\/k=1\/k=2\/k=3:=by omega
 have hj:j=0\/j=1\/j=2\/j=3:=by omega
 rcases hk with rfl|rfl|rfl|rfl
 all_goals (rcases hj with rfl|rfl|rfl|rfl)
 all_goals first
  |exact absurd rfl hn
  |decide
theorem zh5 {d:D} (hd:u8C d):za4 (nm1 d):=zoW (zsz hd.out.2.2.1)
theorem zrw {d:D}:za4 (nm2 d):=zoW (zsz (zvV _).1)
theorem zwL {d:D} (hd:u8C d):nm1 d≠nm2 d:=by
 have h:=hd.out.2.2
 refine ztQ (zsz h.1) (zsz (zvV _).1) ?_
 have e:IntKind.u8.wrap ((d.fld 2).asInt+1)=((d.fld 2).asInt+1)%256:=rfl
 rw [e,Int.tmod_eq_emod_of_nonneg h.1,Int.tmod_eq_emod_of_nonneg (by omega)]
 omega
theorem zlH {d:D} (hd:u8C d):1<=(D.list (mNm d)).len/\(D.list (mNm d)).len<=2/\¬zfB (.list (mNm d))/\¬zbi (.list (mNm d))/\sAt (.list (mNm d)) 0=nm1 d:=by
 unfold mNm
 split
 .refine ⟨Nat.le_refl 1,Nat.le_succ 1,λq=> ?_,λq=> ?_,rfl⟩
  .obtain ⟨i,h1,h2⟩:=q.out
   have h1:i<1:=h1
   have:i=0:=by omega
   subst this
   exact h2 (zh5 hd)
  .obtain ⟨i,k,h1,h2,_⟩:=q.out
   have h2:i<1:=h2
   omega
 .refine ⟨Nat.le_succ 1,Nat.le_refl 2,λq=> ?_,λq=> ?_,rfl⟩
  .obtain ⟨i,h1,h2⟩:=q.out
   have h1:i<2:=h1
   have:i=0\/i=1:=by omega
   rcases this with rfl|rfl
   .exact h2 (zh5 hd)
   .exact h2 zrw
  .obtain ⟨i,k,h1,h2,h3⟩:=q.out
   have h2:i<2:=h2
   have e1:i=1:=by omega
   have e2:k=0:=by omega
   subst e1 e2
   exact zwL hd h3
theorem zfu:¬zfB .nil/\¬zbi .nil:=⟨λq=>by obtain ⟨i,h1,_⟩:=q.out;exact absurd h1 (Nat.not_lt_zero _),λq=>by obtain ⟨i,k,_,h2,_⟩:=q.out;exact absurd h2 (Nat.not_lt_zero _)⟩
structure okM (d e:D) (r:List UInt8):Prop where
 form:zbo (cK e) (cA e) (cL e) (cNm e).len (cN e)
 bad:¬zfB (cNm e)
 twice:¬zbi (cNm e)
 kind:cK e=mK d
 am:cA e=mAm d r
 nms:mK d=1->cNm e= .list (mNm d)
 few:(cNm e).len<=2
theorem ztS {d:D} (hd:u8C d) (r:List UInt8):okM d (mC d r) r:=by
 have no:=zlH hd
 have mr:=ztU hd
 by_cases h1:mK d=1
 .rw [<-mC1 h1 rfl rfl]
  exact ⟨⟨.inl ⟨h1,no.1,by have:=no.2.1;show (D.list (mNm d)).len<=16;omega,rfl,(λh=>by cases h),(zd7 (d:=d) λk=>k h1).symm⟩⟩,no.2.2.1,no.2.2.2.1,rfl,rfl,λ_=>rfl,no.2.1⟩
 .by_cases h4:mK d=4
  .rw [<-mC4 h4 rfl]
   have w2:=zk5 hd.out.2.1 2 (by omega)
   refine ⟨⟨.inr (.inr (.inl ⟨h4,rfl, ?_, ?_⟩))⟩,zfu.1,zfu.2,rfl,rfl,λh=>absurd h h1,Nat.zero_le _⟩
   .show 1<=1+IntKind.i64.wrap (((d.fld 1).asInt).tmod 2);omega
   .show 1+IntKind.i64.wrap (((d.fld 1).asInt).tmod 2)<=2;omega
  .by_cases h5:mK d=5
   .rw [<-mC5 h5 rfl]
    exact ⟨⟨.inr (.inr (.inr (.inl ⟨h5,rfl,rfl⟩)))⟩,zfu.1,zfu.2,rfl,rfl,λh=>absurd h h1,Nat.zero_le _⟩
   .by_cases h6:mK d=6
    .rw [<-mC6 h6 rfl rfl]
     exact ⟨⟨.inr (.inr (.inr (.inr (.inl ⟨.inl h6,no.1,by have:=no.2.1;show (D.list (mNm d)).len<=16;omega,rfl⟩))))⟩,no.2.2.1,no.2.2.2.1,rfl,rfl,λh=>absurd h h1,no.2.1⟩
    .by_cases h7:mK d=7
     .rw [<-mC7 h7 rfl rfl]
      exact ⟨⟨.inr (.inr (.inr (.inr (.inl ⟨.inr h7,no.1,by have:=no.2.1;show (D.list (mNm d)).len<=16;omega,rfl⟩))))⟩,no.2.2.1,no.2.2.2.1,rfl,rfl,λh=>absurd h h1,no.2.1⟩
     .by_cases h10:mK d=10
      .rw [<-zwH h10 rfl]
       have w64:=zk5 hd.out.2.1 64 (by omega)
       refine ⟨⟨.inr (.inr (.inr (.inr (.inr ⟨h10,rfl, ?_, ?_,λh=>by cases h⟩))))⟩,zfu.1,zfu.2,rfl,rfl,λh=>absurd h h1,Nat.zero_le _⟩
       .show 0<=IntKind.i64.wrap (((d.fld 1).asInt).tmod 64);omega
       .show IntKind.i64.wrap (((d.fld 1).asInt).tmod 64)<=63;omega
      .rw [<-mC0 h1 h4 h5 h6 h7 h10 rfl]
       refine ⟨⟨.inr (.inl ⟨?_,rfl,rfl,λh=>by cases h⟩)⟩,zfu.1,zfu.2,rfl,rfl,λh=>absurd h h1,Nat.zero_le _⟩
       show mK d=2\/mK d=3\/mK d=8\/mK d=9
       omega
theorem zsv (l:D):(mD l).len=(m8 l).len:=by
 show (za6 _).asList.length=_
 rw [zcN,zgp]
theorem zrs (l:D) {i:Nat} (h:i<(m8 l).len):el (mD l) i=mC (el (m8 l) i) (mR (m8 l) i):=by
 show zad (za6 _).asList i=_
 rw [zcN]
 unfold zad mL
 rw [List.getElem?_map,List.getElem?_range h];rfl
theorem zkq (m:D):∀i,mR m i≠ []->∃k,k<i/\mK (el m k)=1/\nm1 (el m k)=mR m i
 |0,h=>absurd rfl h
 |i+1,h=>by
  by_cases e:mK (el m i)=1
  .exact ⟨i,Nat.lt_succ_self _,e,zwI e⟩
  .rw [<-zrt e] at h
   obtain ⟨k,h1,h2,h3⟩:=zkq m i h
   exact ⟨k,by omega,h2,by rw [<-zrt e];exact h3⟩
theorem zlc (d:D) (r:List UInt8):mAm d r=r\/mAm d r= []:=by
 unfold mAm;split
 .exact .inl rfl
 .exact .inr rfl
theorem zoZ {l:D} (hu:zqo l) {i:Nat} (h:i<(m8 l).len):u8C (el (m8 l) i):=by
 have:=zlF l
 rw [zve h];exact hu.out i (by omega)
theorem zvf {l:D} (hu:zqo l):(zbB (mD l)).2=0:=by
 have hl:=zlF l
 refine zj4 (by rw [zsv];omega) λi hi=> ?_
 rw [zsv] at hi
 unfold zg0
 rw [zrs l hi]
 have ok:=ztS (zoZ hu hi) (mR (m8 l) i)
 refine zlo.2 ⟨ok.form,ok.bad,λq=> ?_,ok.twice,λq=> ?_⟩
 .rw [ok.am] at q
  rcases zlc (el (m8 l) i) (mR (m8 l) i) with e|e
  .rw [e] at q
   obtain ⟨k,h1,_,h3⟩:=zkq _ _ q.1
   rw [<-h3] at q
   exact q.2 (zh5 (zoZ hu (by omega)))
  .exact q.1 e
 .rw [ok.am] at q
  rcases zlc (el (m8 l) i) (mR (m8 l) i) with e|e
  .rw [e] at q
   obtain ⟨k,h1,h2,h3⟩:=zkq _ _ q.1
   have kk:=ztS (zoZ hu (show k<(m8 l).len by omega)) (mR (m8 l) k)
   have no:=zlH (zoZ hu (show k<(m8 l).len by omega))
   refine q.2 ⟨k,h1, ?_, ?_⟩
   .rw [zrs l (by omega),kk.kind];exact h2
   .rw [zrs l (by omega),kk.nms h2]
    exact ⟨0,by have:=no.1;omega,by rw [no.2.2.2.2];exact h3⟩
  .exact q.1 e
theorem zsq (n:Int) (l:D) {i:Nat} (h:i<(mG n l).len):el (gsD n l) i=gE (mG n l) i:=by
 show zad (za6 _).asList i=_
 rw [zcN]
 unfold zad gL
 rw [List.getElem?_map,List.getElem?_range h];rfl
theorem zoF (n:Int) (l:D):(gsD n l).len=(mG n l).len:=by
 show (za6 _).asList.length=_
 rw [zcN,zhd]
theorem zwA (n:Int) (l:D) {i:Nat} (h:i<(gsD n l).len):((el (gsD n l) i).fld (Nat.succ 6).succ).len<=100:=by
 rw [zoF] at h
 rw [zsq n l h]
 show (pTg _ _).len<=100
 unfold pTg;split
 .exact Nat.zero_le _
 .show 1<=100;omega
end
end Go.Ev

end

section
open Go.Proofs
namespace Go.Ev
noncomputable section
set_option maxRecDepth 100000
theorem zuN {c:D} (h:(zbB c).2=0):c.len<=32:=by
 unfold zbB at h
 by_cases q:32<c.len
 .rw [if_pos q] at h;cases h
 .omega
end
end Go.Ev

end
