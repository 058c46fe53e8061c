/- Part of the proof. -/
import Derived.Test.YtdojhafbgoimeaaGreatDoorCoreG24
import Derived.Test.YtdojhafbgoimeaaGreatDoorCoreAwake
import Derived.Test.YtdojhafbgoimeaaGreatDoorCoreSeF
import Derived.Test.YtdojhafbgoimeaaGreatDoorCoreG25
import Derived.Test.YtdojhafbgoimeaaGreatDoorCoreG23
import Derived.Test.YtdojhafbgoimeaaGreatDoorCoreKit
import Derived.Test.YtdojhafbgoimeaaGreatDoorCoreG22

section
open Go.Proofs
namespace Go.Ev
noncomputable section
set_option maxRecDepth 100000
def GC:Msk:={bits:=GB,fast:=false,ora:=λg=>cond (Nat.beq g 18) (some (.bool true)) none}
abbrev VC (d:Nat) (g:FuncId) (c:Con):Prop:=zev Tryz.prog GC (ev Tryz.prog GC d) g c
theorem zg7 (d:Nat):∀g c,(λ_:FuncId=>(none:Option Con)) g=some c->VC d g c:=λ_ _ h=>by cases h
theorem zyO:∀d,5<=d->VC d 103 zjf:=λd hd=>
 zat (C:=ctx (λ_=>none) zdc) (G:=GC) (B:=2) (m:=3) rfl rfl rfl (λd _=>zg7 d) (λus p r hc hp ht=>by
  unfold zjf at hc;split at hc
  .cases hc;exact zz3 _ _ hp
  .cases hc) (λ_ _=>rfl) rfl rfl d hd
theorem zAF:∀d,5<=d->VC d 168 zot:=λd hd=>
 zat (C:=ctx (λ_=>none) zdc) (G:=GC) (B:=2) (m:=3) rfl rfl rfl (λd _=>zg7 d) (λus p r hc hp ht=>by
  unfold zot at hc;split at hc
  .cases hc;exact zAa _ _ _ _ _
  .cases hc) (λ_ _=>rfl) rfl rfl d hd
theorem vN (d:Nat) (g:FuncId):VC d g zxk:=by
 intro us p r hc hp J H vs hst hl
 unfold zxk at hc
 split at hc
 .cases hc;exact hp.elim
 .cases hc
theorem zBi (d:Nat):∀g c,cc0 g=some c->VC d g c:=λg c h=>by
 unfold cc0 at h
 split at h
 .cases h;exact vN d _
 .cases h;exact vN d _
 .cases h
theorem zzB:∀d,8<=d->VC d 102 zlO:=λd hd=>
 zat (C:=ctx cc0 zdc) (G:=GC) (B:=2) (m:=6) rfl rfl rfl (λd _=>zBi d) (λus p r hc hp ht=>by
  unfold zlO at hc;split at hc
  .cases hc;exact zz2 _
  .cases hc) (λ_ _=>rfl) rfl rfl d hd
theorem zzk:∀d,8<=d->∀g c,cc1 g=some c->VC d g c:=λd hd g c h=>by
 unfold cc1 at h
 split at h
 .cases h;exact zyO d (by omega)
 .cases h;exact zzB d (by omega)
 .cases h;exact zAF d (by omega)
 .cases h
theorem zAG:∀d,11<=d->VC d 169 zoi:=λd hd=>
 zat (C:=ctx cc1 zdc) (G:=GC) (B:=8) (m:=3) rfl rfl rfl zzk (λus p r hc hp ht=>by
  unfold zoi at hc;split at hc
  .cases hc;exact zAb _ hp
  .cases hc) (λ_ _=>rfl) rfl rfl d hd
theorem zAH:∀d,14<=d->VC d 170 zoj:=λd hd=>by
 intro us p r hc hp
 unfold zoj at hc;split at hc
 .rename_i c s
  cases hc
  have:=zat (C:=ctx cc1 (zpH s)) (G:=GC) (B:=8) (m:=6) (g:=170) (c:=λus=>match us with| [.dat 22 c',.str s']=>some (zaE c'/\s'=s,.prop (zaP c' c'.len s'))|_=>none) rfl rfl rfl zzk (λus p r hc hp ht=>by
   split at hc
   .cases hc;obtain ⟨h1,rfl⟩:=hp;exact zAc _ _ h1
   .cases hc) (λ_ _=>rfl) rfl rfl d hd
  exact this [.dat 22 c,.str s] _ _ rfl ⟨hp,rfl⟩
 .cases hc
theorem zzG:∀d,14<=d->∀g c,cc2 g=some c->VC d g c:=λd hd g c h=>by
 unfold cc2 at h
 split at h
 .cases h;exact zAG d (by omega)
 .cases h;exact zAH d (by omega)
 .exact zzk d (by omega) _ c h
theorem zAD:∀d,20<=d->VC d 130 zog:=λd hd=>
 zat (C:=ctx cc2 zdc) (G:=GC) (B:=14) (m:=6) rfl rfl rfl zzG (λus p r hc hp ht=>by
  unfold zog at hc;split at hc
  .cases hc;exact zz6 _ _ _ _ _ _ hp.1 hp.2
  .cases hc) (λ_ _=>rfl) rfl rfl d hd
theorem zzH:∀d,20<=d->∀g c,cc3 g=some c->VC d g c:=λd hd g c h=>by
 unfold cc3 at h
 split at h
 .cases h;exact zAD d (by omega)
 .exact zzG d (by omega) _ c h
theorem v98:∀d,25<=d->VC d 98 zoJ:=λd hd=>
 zat (C:=ctx cc3 zdc) (G:=GC) (B:=20) (m:=5) rfl rfl rfl zzH (λus p r hc hp ht=>by
  unfold zoJ at hc;split at hc
  .cases hc;exact s98 _ hp
  .cases hc) (λ_ _=>rfl) rfl rfl d hd
theorem zzl:∀d,25<=d->∀g c,cc4 g=some c->VC d g c:=λd hd g c h=>by
 unfold cc4 at h
 split at h
 .cases h;exact v98 d (by omega)
 .exact zzH d (by omega) _ c h
end
end Go.Ev

end

section
open Go.Proofs
namespace Go.Ev
noncomputable section
set_option maxRecDepth 100000
abbrev VF (d:Nat) (cf:D->Con):Prop:=zi4 Tryz.prog GC (ev Tryz.prog GC d) cf
theorem vFn (d:Nat):∀t c,(λ_:TypeId=>(none:Option (D->Con))) t=some c->VF d c:=λ_ _ h=>(zeQ h).elim
theorem zxq {v:V} {g:GD} (h:gOf v=some g):v=gV g:=by
 unfold gOf at h
 split at h
 .cases h;rfl
 .cases h
theorem ze6 {v:V} {g:GD} {p:Int} (h:pOf v=some (g,p)):v=pV g p:=by
 unfold pOf at h
 split at h
 .cases h;rfl
 .cases h
theorem zzC:∀d,6<=d->VC d 114 zlN:=λd hd=>
 zaf (C:=zbo (λ_=>none) (λ_=>none) zaF) (G:=GC) (B:=2) (m:=4) rfl rfl rfl (λd _=>zg7 d) (λd _=>vFn d) (λus p r hc hp ht=>by
  unfold zlN at hc
  split at hc
  .cases hc;exact zz5 _ _
  .cases hc) (λ_ _=>rfl) rfl rfl d hd
theorem zAP:∀d,6<=d->VC d 185 zoq:=λd hd=>
 zaf (C:=zbo (λ_=>none) (λ_=>none) zaF) (G:=GC) (B:=2) (m:=4) rfl rfl rfl (λd _=>zg7 d) (λd _=>vFn d) (λus p r hc hp ht=>by
  unfold zoq at hc
  split at hc
  .cases hc;exact zAk _ _
  .cases hc) (λ_ _=>rfl) rfl rfl d hd
theorem v45:∀d,5<=d->VC d 45 zub:=λd hd=>
 zaf (C:=zbo (λ_=>none) (λ_=>none) zaF) (G:=GC) (B:=2) (m:=3) rfl rfl rfl (λd _=>zg7 d) (λd _=>vFn d) (λus p r hc hp ht=>by
  unfold zub at hc
  split at hc
  .cases hc;exact s45 _ _ hp
  .cases hc) (λ_ _=>rfl) rfl rfl d hd
theorem ziT:∀d,6<=d->∀g c,cm0 g=some c->VC d g c:=λd hd g c h=>by
 unfold cm0 at h
 split at h
 .cases h;exact zyO d (by omega)
 .cases h;exact zzC d (by omega)
 .cases h;exact zAP d (by omega)
 .cases h;exact v45 d (by omega)
 .cases h
theorem zAJ:∀d,10<=d->VC d 177 zol:=λd hd=>
 zaf (C:=zbo cm0 (λ_=>none) zaF) (G:=GC) (B:=6) (m:=4) rfl rfl rfl ziT (λd _=>vFn d) (λus p r hc hp ht=>by
  unfold zol at hc
  split at hc
  .cases hc;exact zAe _ _
  .cases hc) (λ_ _=>rfl) rfl rfl d hd
theorem zAS:∀d,9<=d->VC d 215 zou:=λd hd=>
 zaf (C:=zbo cm0 (λ_=>none) zaF) (G:=GC) (B:=6) (m:=3) rfl rfl rfl ziT (λd _=>vFn d) (λus p r hc hp ht=>by
  unfold zou at hc
  split at hc
  .split at hc
   .rename_i q;cases hc;rw [ze6 q];exact zAn _ _ _ hp
   .cases hc
  .cases hc) (λ_ _=>rfl) rfl rfl d hd
theorem zAK:∀d,9<=d->VC d 179 zom:=λd hd=>
 zaf (C:=zbo cm0 (λ_=>none) zaF) (G:=GC) (B:=6) (m:=3) rfl rfl rfl ziT (λd _=>vFn d) (λus p r hc hp ht=>by
  unfold zom at hc
  split at hc
  .split at hc
   .rename_i q;cases hc;rw [ze6 q];exact zAf _ _ _
   .cases hc
  .cases hc) (λ_ _=>rfl) rfl rfl d hd
theorem zAL:∀d,9<=d->VC d 180 zon:=λd hd=>
 zaf (C:=zbo cm0 (λ_=>none) zaF) (G:=GC) (B:=6) (m:=3) rfl rfl rfl ziT (λd _=>vFn d) (λus p r hc hp ht=>by
  unfold zon at hc
  split at hc
  .split at hc
   .rename_i q;cases hc;rw [ze6 q];exact zAg _ _
   .cases hc
  .cases hc) (λ_ _=>rfl) rfl rfl d hd
theorem zAU:∀d,9<=d->VC d 217 zow:=λd hd=>
 zaf (C:=zbo cm0 (λ_=>none) zaF) (G:=GC) (B:=6) (m:=3) rfl rfl rfl ziT (λd _=>vFn d) (λus p r hc hp ht=>by
  unfold zow at hc
  split at hc
  .split at hc
   .rename_i q;cases hc;rw [ze6 q];exact zAp _ _
   .cases hc
  .cases hc) (λ_ _=>rfl) rfl rfl d hd
theorem zAN:∀d,9<=d->VC d 183 zoo:=λd hd=>
 zaf (C:=zbo cm0 (λ_=>none) zaF) (G:=GC) (B:=6) (m:=3) rfl rfl rfl ziT (λd _=>vFn d) (λus p r hc hp ht=>by
  unfold zoo at hc
  split at hc
  .split at hc
   .rename_i q;cases hc;rw [ze6 q];exact zAi _ _ _ hp
   .cases hc
  .cases hc) (λ_ _=>rfl) rfl rfl d hd
theorem zAQ:∀d,9<=d->VC d 187 zor:=λd hd=>
 zaf (C:=zbo cm0 (λ_=>none) zaF) (G:=GC) (B:=6) (m:=3) rfl rfl rfl ziT (λd _=>vFn d) (λus p r hc hp ht=>by
  unfold zor at hc
  split at hc
  .cases hc;exact zAl _
  .cases hc) (λ_ _=>rfl) rfl rfl d hd
theorem zAR:∀d,9<=d->VC d 188 zos:=λd hd=>
 zaf (C:=zbo cm0 (λ_=>none) zaF) (G:=GC) (B:=6) (m:=3) rfl rfl rfl ziT (λd _=>vFn d) (λus p r hc hp ht=>by
  unfold zos at hc
  split at hc
  .cases hc;exact zAm _ _ hp.1 hp.2.1 hp.2.2
  .cases hc) (λ_ _=>rfl) rfl rfl d hd
theorem zAX:∀d,9<=d->VC d 222 zoz:=λd hd=>
 zaf (C:=zbo cm0 (λ_=>none) zaF) (G:=GC) (B:=6) (m:=3) rfl rfl rfl ziT (λd _=>vFn d) (λus p r hc hp ht=>by
  unfold zoz at hc
  split at hc
  .cases hc;exact zAs _
  .cases hc) (λ_ _=>rfl) rfl rfl d hd
open Classical in
theorem zAM:∀d,12<=d->VC d 181 zjg:=λd hd us p r hc hp=>by
 have hc0:=hc
 unfold zjg at hc;split at hc
 .rename_i q x
  exact zaf (C:=zbo cm0 (λ_=>none) (zvx (cNm x))) (G:=GC) (B:=6) (m:=6) (g:=181) (c:=λus=>if us= [q,.dpt 69 x] then zjg us else none) rfl rfl rfl ziT (λd _=>vFn d) (λus p r hc hp ht=>by
   split at hc
   .rename_i e;subst e
    unfold zjg at hc
    simp only at hc
    split at hc
    .rename_i h;cases hc;rw [ze6 h];exact zAh _ _ _ hp.1 hp.2
    .cases hc
   .cases hc) (λ_ _=>rfl) rfl rfl d hd _ p r (by show (if _ then _ else _)=_;rw [if_pos rfl];exact hc0) hp
 .cases hc
theorem zjk (g:FuncId) (h1:zbV Tryz.prog g [undef]=none) (h2:Nat.beq g 18=false):zg9 Tryz.prog GC g:=⟨rfl,h1,by show cond (Nat.beq g 18) _ _=none;rw [h2];rfl,λ_=>rfl,rfl,rfl⟩
theorem zx6:zg9 Tryz.prog GC 215:=zjk 215 (by kernel_rfl) rfl
theorem zxZ:zg9 Tryz.prog GC 179:=zjk 179 (by kernel_rfl) rfl
theorem zx0:zg9 Tryz.prog GC 180:=zjk 180 (by kernel_rfl) rfl
theorem zx1:zg9 Tryz.prog GC 181:=zjk 181 (by kernel_rfl) rfl
theorem zx2:zg9 Tryz.prog GC 183:=zjk 183 (by kernel_rfl) rfl
theorem zx8:zg9 Tryz.prog GC 217:=zjk 217 (by kernel_rfl) rfl
theorem zxW:zg9 Tryz.prog GC 114:=zjk 114 (by kernel_rfl) rfl
theorem zxY:zg9 Tryz.prog GC 177:=zjk 177 (by kernel_rfl) rfl
theorem zx4:zg9 Tryz.prog GC 187:=zjk 187 (by kernel_rfl) rfl
theorem zx5:zg9 Tryz.prog GC 188:=zjk 188 (by kernel_rfl) rfl
theorem zyb:zg9 Tryz.prog GC 222:=zjk 222 (by kernel_rfl) rfl
theorem zx7:zg9 Tryz.prog GC 216:=zjk 216 (by kernel_rfl) rfl
theorem zya:zg9 Tryz.prog GC 220:=zjk 220 (by kernel_rfl) rfl
theorem zx3:zg9 Tryz.prog GC 184:=zjk 184 (by kernel_rfl) rfl
theorem zyc:zg9 Tryz.prog GC 223:=zjk 223 (by kernel_rfl) rfl
theorem zx9:zg9 Tryz.prog GC 218:=zjk 218 (by kernel_rfl) rfl
theorem zxX:zg9 Tryz.prog GC 174:=zjk 174 (by kernel_rfl) rfl
theorem vR:∀d,12<=d->VF d zxR:=λd hd=>zca λf us p r hc hp=>by
 unfold zxR at hc;split at hc
 .split at hc
  .rename_i h;cases hc;rw [ze6 h]
   obtain ⟨nm,rfl,hl⟩:=hp.out
   exact ⟨_,_,_,zou,_,rfl,zx6,zAS d (by omega),rfl,hl⟩
  .cases hc
 .cases hc
theorem vNm:∀d,12<=d->VF d zue:=λd hd=>zca λf us p r hc hp=>by
 unfold zue at hc;split at hc
 .split at hc
  .rename_i h;cases hc;rw [ze6 h]
   obtain ⟨ho,htg⟩:=hp
   rcases ho.out with ⟨x,rfl⟩|rfl| ⟨x,rfl,hx⟩| ⟨x,rfl,hx⟩|rfl
   .exact ⟨_,_,_,zom,True,rfl,zxZ,zAK d (by omega),(by rw [show zdd _ _=_ from propext (zmq x _)];rfl),trivial⟩
   .exact ⟨_,_,_,zon,True,rfl,zx0,zAL d (by omega),(by rw [show zdd _ _=_ from propext (zmr _)];rfl),trivial⟩
   .exact ⟨_,_,_,zjg,_,rfl,zx1,zAM d (by omega),(by rw [show zdd _ _=_ from propext (zms x _)];rfl),And.intro htg hx⟩
   .exact ⟨_,_,_,zoo,_,rfl,zx2,zAN d (by omega),(by rw [show zdd _ _=_ from propext (zmt x _)];rfl),hx⟩
   .exact ⟨_,_,_,zow,True,rfl,zx8,zAU d (by omega),(by rw [show zdd _ _=_ from propext (zeV _)];rfl),trivial⟩
  .cases hc
 .cases hc
theorem vC:∀d,12<=d->VF d zxP:=λd hd=>zca λf us p r hc hp=>by
 unfold zxP at hc;split at hc
 .cases hc
  rcases hp.out with rfl|rfl
  .exact ⟨_,_,_,zlN,True,rfl,zxW,zzC d (by omega),rfl,trivial⟩
  .exact ⟨_,_,_,zol,True,rfl,zxY,zAJ d (by omega),rfl,trivial⟩
 .cases hc
theorem vK:∀d,12<=d->VF d zxQ:=λd hd=>zca λf us p r hc hp=>by
 unfold zxQ at hc;split at hc
 .cases hc
  obtain ⟨ho,hb⟩:=hp
  rcases ho.out with rfl| ⟨x,rfl,hx,hx'⟩
  .exact ⟨_,_,_,zor,True,rfl,zx4,zAQ d (by omega),rfl,trivial⟩
  .exact ⟨_,_,_,zos,_,rfl,zx5,zAR d (by omega),rfl,hb,hx,hx'⟩
 .cases hc
theorem vB:∀d,12<=d->VF d zxO:=λd hd=>zca λf us p r hc hp=>by
 unfold zxO at hc;split at hc
 .cases hc
  have hp:f= .fn 222 [] []:=hp
  subst hp
  exact ⟨_,_,_,zoz,True,rfl,zyb,zAX d (by omega),rfl,trivial⟩
 .cases hc
theorem vF1:∀d,12<=d->∀t c,cF1 t=some c->VF d c:=λd hd t c h=>by
 unfold cF1 at h
 split at h
 .cases h;exact vR d hd
 .cases h;exact vNm d hd
 .cases h;exact vC d hd
 .cases h;exact vK d hd
 .cases h;exact vB d hd
 .cases h
theorem zAT:∀d,15<=d->VC d 216 zov:=λd hd=>
 zaf (C:=zbo cm0 cF1 zaF) (G:=GC) (B:=12) (m:=3) rfl rfl rfl (λd hd=>ziT d (by omega)) vF1 (λus p r hc hp ht=>by
  unfold zov at hc
  split at hc
  .split at hc
   .rename_i q1 q2;cases hc;rw [ze6 q1,ze6 q2];exact zAo _ _ _ _ _ hp
   .cases hc
  .cases hc) (λ_ _=>rfl) rfl rfl d hd
theorem zAW:∀d,15<=d->VC d 220 zoy:=λd hd=>
 zaf (C:=zbo cm0 cF1 zaF) (G:=GC) (B:=12) (m:=3) rfl rfl rfl (λd hd=>ziT d (by omega)) vF1 (λus p r hc hp ht=>by
  unfold zoy at hc
  split at hc
  .split at hc
   .rename_i q1 q2;cases hc;rw [ze6 q1,ze6 q2];exact zAr _ _ _ _ _ _ hp.1 hp.2.1 hp.2.2
   .cases hc
  .cases hc) (λ_ _=>rfl) rfl rfl d hd
theorem zAO:∀d,15<=d->VC d 184 zop:=λd hd=>
 zaf (C:=zbo cm0 cF1 zaF) (G:=GC) (B:=12) (m:=3) rfl rfl rfl (λd hd=>ziT d (by omega)) vF1 (λus p r hc hp ht=>by
  unfold zop at hc
  split at hc
  .split at hc
   .rename_i q1 q2;cases hc;rw [ze6 q1,ze6 q2];exact zAj _ _ _ _
   .cases hc
  .cases hc) (λ_ _=>rfl) rfl rfl d hd
theorem zAY:∀d,15<=d->VC d 223 zoA:=λd hd=>
 zaf (C:=zbo cm0 cF1 zaF) (G:=GC) (B:=12) (m:=3) rfl rfl rfl (λd hd=>ziT d (by omega)) vF1 (λus p r hc hp ht=>by
  unfold zoA at hc
  split at hc
  .split at hc
   .rename_i q1 q2;cases hc;rw [ze6 q1,ze6 q2];exact zAt _ _ _ _ _ _ hp.1 hp.2
   .cases hc
  .cases hc) (λ_ _=>rfl) rfl rfl d hd
theorem zlR {d:Nat} (hd:15<=d) {f:D} (ho:ztq f) {a b:GD} {i j:Int} (ha:a.tg.len<=100) (hb:b.tg.len<=100):∃(g:FuncId) (ts:List TypeId) (ds:List D) (c:Con) (p':Prop),f= .fn g ts ds/\zg9 Tryz.prog GC g/\VC d g c/\c ([pV a i,pV b j]++zgk ts ds)=some (p',.int .i64 (zbs f a b i j))/\p':=by
 rcases ho.out with ⟨r,rfl,hr⟩| ⟨n,la,rfl,hn⟩|rfl| ⟨k,rfl,hk⟩
 .exact ⟨_,_,_,zov,_,rfl,zx7,zAT d (by omega),rfl,hr⟩
 .exact ⟨_,_,_,zoy,_,rfl,zya,zAW d (by omega),(by rw [zcr];rfl),And.intro hn (And.intro ha hb)⟩
 .exact ⟨_,_,_,zop,True,rfl,zx3,zAO d (by omega),(by rw [zjS];rfl),trivial⟩
 .exact ⟨_,_,_,zoA,_,rfl,zyc,zAY d (by omega),(by rw [zgM];rfl),And.intro rfl hk⟩
theorem vT1:∀d,15<=d->VF d zuf:=λd hd=>zca λf us p r hc hp=>by
 unfold zuf at hc;split at hc
 .split at hc
  .rename_i q1 q2;cases hc;rw [ze6 q1,ze6 q2]
   exact zlR hd hp.1 hp.2.1 hp.2.2
  .cases hc
 .cases hc
theorem vF2:∀d,15<=d->∀t c,cF2 t=some c->VF d c:=λd hd t c h=>by
 unfold cF2 at h
 split at h
 .cases h;exact vT1 d hd
 .exact vF1 d (by omega) _ c h
theorem zAV:∀d,19<=d->VC d 218 zox:=λd hd=>
 zaf (C:=zbo cm0 cF2 zaF) (G:=GC) (B:=15) (m:=4) rfl rfl rfl (λd hd=>ziT d (by omega)) vF2 (λus p r hc hp ht=>by
  unfold zox at hc
  split at hc
  .split at hc
   .rename_i q1 q2;cases hc;rw [ze6 q1,ze6 q2];exact zAq _ _ _ _ _ _ hp.1 hp.2.1 hp.2.2.1 hp.2.2.2
   .cases hc
  .cases hc) (λ_ _=>rfl) rfl rfl d hd
theorem zu3 {f:D} (h:ztq f):∃g ts ds,f= .fn g ts ds/\g≠218:=by
 rcases h.out with ⟨r,rfl,hr⟩| ⟨n,la,rfl,hn⟩|rfl| ⟨k,rfl,hk⟩
 .exact ⟨_,_,_,rfl,by decide⟩
 .exact ⟨_,_,_,rfl,by decide⟩
 .exact ⟨_,_,_,rfl,by decide⟩
 .exact ⟨_,_,_,rfl,by decide⟩
theorem vT2:∀d,19<=d->VF d zug:=λd hd=>zca λf us p r hc hp=>by
 unfold zug at hc;split at hc
 .split at hc
  .rename_i q1 q2;cases hc;rw [ze6 q1,ze6 q2]
   rcases hp.1.out with h| ⟨u,c,rfl,hu,hcc⟩
   .have e:∀a b i j,zcR f a b i j=zbs f a b i j:=λa b i j=>by
     obtain ⟨g,ts,ds,rfl,hg⟩:=zu3 h
     exact zc3 hg a b i j
    rw [e]
    exact zlR (by omega) h hp.2.1 hp.2.2
   .exact ⟨_,_,_,zox,_,rfl,zx9,zAV d (by omega),(by rw [zgN];rfl),And.intro hu (And.intro hcc hp.2)⟩
  .cases hc
 .cases hc
theorem vF3:∀d,19<=d->∀t c,cF3 t=some c->VF d c:=λd hd t c h=>by
 unfold cF3 at h
 split at h
 .cases h;exact vT2 d hd
 .cases h
theorem zAI:∀d,22<=d->VC d 174 zok:=λd hd=>
 zaf (C:=zbo cm0 cF3 zaF) (G:=GC) (B:=19) (m:=3) rfl rfl rfl (λd hd=>ziT d (by omega)) vF3 (λus p r hc hp ht=>by
  unfold zok at hc
  split at hc
  .split at hc
   .rename_i q1 q2;cases hc;rw [ze6 q1,ze6 q2];exact zAd _ _ _ _ _ _ hp.1 hp.2.1 hp.2.2
   .cases hc
  .cases hc) (λ_ _=>rfl) rfl rfl d hd
theorem vA:∀d,22<=d->VF d zxN:=λd hd=>zca λf us p r hc hp=>by
 unfold zxN at hc;split at hc
 .split at hc
  .rename_i q1 q2;cases hc;rw [ze6 q1,ze6 q2]
   obtain ⟨s,t,rfl,ht⟩:=hp.1.out
   exact ⟨_,_,_,zok,_,rfl,zxX,zAI d (by omega),rfl,ht,hp.2.1,hp.2.2⟩
  .cases hc
 .cases hc
theorem vF4:∀d,22<=d->∀t c,cF4 t=some c->VF d c:=λd hd t c h=>by
 unfold cF4 at h
 split at h
 .cases h;exact vA d hd
 .cases h
open Classical in
theorem v92:∀d,25<=d->VC d 92 zoG:=λd hd us p r hc hp=>by
 have hc0:=hc
 unfold zoG at hc;split at hc
 .rename_i ts q1 q2
  split at hc
  .rename_i a i b j h1 h2
   exact zaf (C:=zbo cm0 cF4 (zqp (λk=>zk0 (el ts k) a b i j))) (G:=GC) (B:=22) (m:=3) (g:=92) (c:=λus=>if us= [.dat 127 ts,q1,q2] then zoG us else none) rfl rfl rfl (λd hd=>ziT d (by omega)) vF4 (λus p r hc hp ht=>by
    split at hc
    .rename_i e;subst e
     unfold zoG at hc
     simp only [h1,h2] at hc
     cases hc
     rw [ze6 h1,ze6 h2];exact s92 _ _ _ _ _ hp.1.1 hp.1.2 hp.2.1 hp.2.2
    .cases hc) (λ_ _=>rfl) rfl rfl d hd _ p r (by show (if _ then _ else _)=_;rw [if_pos rfl];exact hc0) hp
  .cases hc
 .cases hc
theorem zzE:∀d,11<=d->VC d 143 zlQ:=λd hd=>
 zaf (C:=zbo cm0 (λ_=>none) zaF) (G:=GC) (B:=6) (m:=5) rfl rfl rfl ziT (λd _=>vFn d) (λus p r hc hp ht=>by
  unfold zlQ at hc
  split at hc
  .cases hc;exact zz8 _ _ _ _ _
  .cases hc) (λ_ _=>rfl) rfl rfl d hd
theorem zzD:∀d,9<=d->VC d 142 zlP:=λd hd=>
 zaf (C:=zbo cm0 (λ_=>none) zaF) (G:=GC) (B:=6) (m:=3) rfl rfl rfl ziT (λd _=>vFn d) (λus p r hc hp ht=>by
  unfold zlP at hc
  split at hc
  .cases hc;exact zz7 _ _
  .cases hc) (λ_ _=>rfl) rfl rfl d hd
theorem zBj:∀d,25<=d->∀g c,cn0 g=some c->VC d g c:=λd hd g c h=>by
 unfold cn0 at h
 split at h
 .cases h;exact zzE d (by omega)
 .cases h;exact zzD d (by omega)
 .exact zzl d (by omega) _ c h
theorem v93:∀d,30<=d->VC d 93 zoI:=λd hd=>
 zaf (C:=ctx cn0 zec) (G:=GC) (B:=25) (m:=5) rfl rfl rfl zBj (λ_ _ _ _ h=>(zeQ h).elim) (λus p r hc hp ht=>by
  unfold zoI at hc
  split at hc
  .cases hc;exact s93 _ hp
  .cases hc) (λ_ _=>rfl) rfl rfl d hd
theorem v91:∀d,29<=d->VC d 91 zrD:=λd hd=>
 zaf (C:=ctx cc4 zec) (G:=GC) (B:=25) (m:=4) rfl rfl rfl zzl (λ_ _ _ _ h=>(zeQ h).elim) (λus p r hc hp ht=>by
  unfold zrD at hc
  split at hc
  .cases hc;exact s91 _ hp
  .cases hc) (λ_ _=>rfl) rfl rfl d hd
theorem zzI:∀d,30<=d->∀g c,cn1 g=some c->VC d g c:=λd hd g c h=>by
 unfold cn1 at h
 split at h
 .cases h;exact zzE d (by omega)
 .cases h;exact zzD d (by omega)
 .cases h;exact v93 d (by omega)
 .cases h;exact v92 d (by omega)
 .cases h;exact v91 d (by omega)
 .exact zzl d (by omega) _ c h
theorem v31:∀d,34<=d->VC d 31 zt9:=λd hd=>
 zaf (C:=ctx cn1 zec) (G:=GC) (B:=30) (m:=4) rfl rfl rfl zzI (λ_ _ _ _ h=>(zeQ h).elim) (λus p r hc hp ht=>by
  unfold zt9 at hc
  split at hc
  .split at hc
   .rename_i q1 q2;cases hc;rw [zxq q1,zxq q2];exact s31 _ _ _ _ _ hp.1 hp.2.1 hp.2.2
   .cases hc
  .cases hc) (λ_ _=>rfl) rfl rfl d hd
theorem zBk:∀d,34<=d->∀g c,cn2 g=some c->VC d g c:=λd hd g c h=>by
 unfold cn2 at h
 split at h
 .cases h;exact v31 d (by omega)
 .exact zzI d (by omega) _ c h
theorem v32:∀d,38<=d->VC d 32 zua:=λd hd=>
 zaf (C:=ctx cn2 zec) (G:=GC) (B:=34) (m:=4) rfl rfl rfl zBk (λ_ _ _ _ h=>(zeQ h).elim) (λus p r hc hp ht=>by
  unfold zua at hc
  split at hc
  .split at hc
   .rename_i q1 q2;cases hc;rw [zxq q1,zxq q2];exact s32 _ _ _ _ _ hp.1 hp.2.1 hp.2.2
   .cases hc
  .cases hc) (λ_ _=>rfl) rfl rfl d hd
end
end Go.Ev

end

section
open Go.Proofs
namespace Go.Ev
noncomputable section
set_option maxRecDepth 100000
theorem zzF:∀d,25<=d->VC d 92 zoH:=λd hd=>v92 d hd
theorem zAZ (d:Nat):VC d 242 zoB:=by
 intro us p r hc hp
 unfold zoB at hc
 split at hc
 .cases hc;exact hp.elim
 .cases hc
theorem zzJ:∀d,30<=d->∀g c,or0 g=some c->VC d g c:=λd hd g c h=>by
 unfold or0 at h
 split at h
 .cases h;exact v93 d (by omega)
 .cases h;exact zzF d (by omega)
 .cases h;exact zAZ d
 .cases h
theorem v97:∀d,5<=d->VC d 97 zuc:=λd hd=>
 zat (C:=zoN (λ_=>none) .nil .nil) (G:=GC) (B:=2) (m:=3) rfl rfl rfl (λd _=>zg7 d) (λus p r hc hp ht=>by
  unfold zuc at hc;split at hc
  .cases hc;exact s97 _ hp
  .cases hc) (λ_ _=>rfl) rfl rfl d hd
theorem zuH {c l:D} (h:l.len=0):grD c l= .nil:=by unfold grD;rw [h];rfl
open Classical in
theorem v96:∀d,37<=d->VC d 96 zjh:=λd hd us p r hc hp=>by
 have hc0:=hc
 unfold zjh at hc;split at hc
 .rename_i c l
  by_cases q:l.len=0
  .exact zat (C:=zxl or0) (G:=GC) (B:=30) (m:=7) (g:=96) (c:=λus=>if us= [.dat 22 c,.dat 130 l] then zjh us else none) rfl rfl rfl zzJ (λus p r hc hp ht=>by
    split at hc
    .rename_i e;subst e;cases hc;rw [zuH q];exact zAw _ _ hp.1.1 q
    .cases hc) (λ_ _=>rfl) rfl rfl d hd _ p r (by show (if _ then _ else _)=_;rw [if_pos rfl];exact hc0) hp
  .exact zat (C:=zoN or0 c l) (G:=GC) (B:=30) (m:=7) (g:=96) (c:=λus=>if us= [.dat 22 c,.dat 130 l] then zjh us else none) rfl rfl rfl zzJ (λus p r hc hp ht=>by
    split at hc
    .rename_i e;subst e;cases hc;exact s96 _ _ hp.1.1 hp.1.2 (by omega) hp.2.1 hp.2.2
    .cases hc) (λ_ _=>rfl) rfl rfl d hd _ p r (by show (if _ then _ else _)=_;rw [if_pos rfl];exact hc0) hp
 .cases hc
theorem zAE:∀d,6<=d->VC d 147 zoh:=λd hd=>
 zat (C:=zkk (λ_=>none) .nil .nil) (G:=GC) (B:=2) (m:=4) rfl rfl rfl (λd _=>zg7 d) (λus p r hc hp ht=>by
  unfold zoh at hc;split at hc
  .cases hc;exact zz9 _ hp
  .cases hc) (λ_ _=>rfl) rfl rfl d hd
theorem zBl:∀d,38<=d->∀g c,os0 g=some c->VC d g c:=λd hd g c h=>by
 unfold os0 at h
 split at h
 .cases h;exact v96 d (by omega)
 .cases h;exact v97 d (by omega)
 .cases h;exact zAE d (by omega)
 .cases h;exact zzF d (by omega)
 .cases h;exact v93 d (by omega)
 .cases h;exact v98 d (by omega)
 .cases h;exact v91 d (by omega)
 .cases h
theorem v99:∀d,41<=d->VC d 99 zud:=λd hd=>
 zat (C:=zkk os0 .nil .nil) (G:=GC) (B:=38) (m:=3) rfl rfl rfl zBl (λus p r hc hp ht=>by
  unfold zud at hc;split at hc
  .cases hc;exact s99 _ _ hp
  .cases hc) (λ_ _=>rfl) rfl rfl d hd
end
end Go.Ev

end

section
open Go.Proofs
namespace Go.Ev
noncomputable section
structure ztD (l:D):Prop where
 out:l.len<=100/\∀i,i<l.len->zaE (el l i)
def zzK (l:D) (n:Nat):List D:=(List.range n).map λi=>zxT (el l i)
def ofC (s:List UInt8) (g:D) (n:Nat):List Nat:=(List.range n).filter λx=>decide ((gAt (el g x)).ct=s)
def ofL (s:List UInt8) (g:D) (n:Nat):List D:=(ofC s g n).map (plG g)
def lgN (ll:D):Nat->Nat
 |0=>0
 |n+1=>max (lgN ll n) (el ll n).len
def tkR (ll:D) (r:Nat):Nat->List D
 |0=> []
 |k+1=>if r<(el ll k).len then tkR ll r k++ [.int (el (el ll k) r).asInt] else tkR ll r k
def ttL (ll:D):Nat->List D
 |0=> []
 |r+1=>ttL ll r++tkR ll r ll.len
def zlM:Con:=λ| [.str s,.dat 23 g]=>some (g.len<=100,.dat 130 (.list (ofL s g g.len)))|_=>none
def zyM (s:List UInt8) (g:D):FuncId->Nat->Option Ann
 |97,3=>some {τ:=Nat,slots:=λ_ _ x=> [(11,.int .i64 x)],blks:=λS _ x=> [(zi0 S 3,.arr 126 (plL (slD S 0) x++(zc4 S 3).drop x))],inv:=λS _ x=>x<=(slD S 0).len,meas:=λS _ x=>(slD S 0).len-x}
 |135,2=>some {τ:=Nat,slots:=λ_ _ x=> [(8,.int .i64 x)],blks:=λ_ _ _=> [],inv:=λS _ x=>x<=(slD S 0).len/\∀i,i<x->zzP (el (slD S 0) i),meas:=λS _ x=>(slD S 0).len-x}
 |77,3=>some {hs:=2,τ:=Nat,slots:=λ_ i x=>match i with|0=> [(8,.int .i64 0),(3,.val (.slice none 0 0))]|_=> [(8,.int .i64 x),(3,.slc 60 (.lit 0) (.sym x) none)],blks:=λS i x=>match i with|0=> []|_=> [(60,.arr 22 (zzK (slD S 0) x))],inv:=λS i x=>match i with|0=>x=0|_=>0<x/\x<=(slD S 0).len,meas:=λS _ x=>(slD S 0).len-x}
 |138,4=>some {τ:=Nat,slots:=λ_ _ x=> [(17,.int .i64 x)],blks:=λ_ _ _=> [],inv:=λS _ x=>x<=(slD S 0).len/\∀i,i<x->zvh (el (slD S 0) i) (el (slD S 1) i),meas:=λS _ x=>(slD S 0).len-x}
 |200,2=>some {τ:=Nat,slots:=λ_ _ x=> [(8,.int .i64 x)],blks:=λ_ _ _=> [],inv:=λ_ _ x=>x<=g.len/\∀i,i<x->(gAt (el g i)).ct=s,meas:=λ_ _ x=>g.len-x}
 |150,5=>some {τ:=Nat,slots:=λ_ _ j=> [(6,.int .i64 j),(5,.int .i64 (ofC s g j).length)],blks:=λS _ j=> [(zi0 S 0,.arr 126 (ofL s g j++(plL g g.len).drop (ofC s g j).length))],inv:=λ_ _ j=>j<=g.len,meas:=λ_ _ j=>g.len-j}
 |105,3=>some {τ:=Nat,slots:=λS _ x=> [(12,.int .i64 x),(3,.int .i64 (lgN (slD S 0) x))],blks:=λ_ _ _=> [],inv:=λS _ x=>x<=(slD S 0).len,meas:=λS _ x=>(slD S 0).len-x}
 |105,9=>some {hs:=2,τ:=Nat,slots:=λS i r=>match i with|0=> [(22,.int .i64 r),(6,.val (.slice none 0 0))]|_=> [(22,.int .i64 r),(6,.slc 60 (.lit 0) (.sym (ttL (slD S 0) r).length) none)],blks:=λS i r=>match i with|0=> []|_=> [(60,.arr 3 (ttL (slD S 0) r))],inv:=λS i r=>match i with|0=>r<=lgN (slD S 0) (slD S 0).len/\ttL (slD S 0) r= []|_=>r<=lgN (slD S 0) (slD S 0).len/\0<(ttL (slD S 0) r).length,meas:=λS _ r=>lgN (slD S 0) (slD S 0).len-r}
 |105,12=>some {hs:=2,τ:=Nat,slots:=λS i k=>match i with|0=> [(27,.int .i64 k),(6,.val (.slice none 0 0))]|_=> [(27,.int .i64 k),(6,.slc 60 (.lit 0) (.sym (ttL (slD S 0) (slI S 7).toNat++tkR (slD S 0) (slI S 7).toNat k).length) none)],blks:=λS i k=>match i with|0=> []|_=> [(60,.arr 3 (ttL (slD S 0) (slI S 7).toNat++tkR (slD S 0) (slI S 7).toNat k))],inv:=λS i k=>match i with|0=>k<=(slD S 0).len/\ttL (slD S 0) (slI S 7).toNat++tkR (slD S 0) (slI S 7).toNat k= []|_=>k<=(slD S 0).len/\0<(ttL (slD S 0) (slI S 7).toNat++tkR (slD S 0) (slI S 7).toNat k).length,meas:=λS _ k=>(slD S 0).len-k}
 |f,n=>zec f n
def zxm (con:FuncId->Option Con) (s:List UInt8) (g:D):Ctx:=ctx con (zyM s g)
instance (con:FuncId->Option Con) (s:List UInt8) (g:D):Nonempty (NoF (zxm con s g)):=⟨⟨λ_ _ h=>zeQ h⟩⟩
end
end Go.Ev

end

section
open Go.Proofs
namespace Go.Ev
noncomputable section
open Classical in
def alK (ct nm g:D) (k:Nat):Int:=
 if sAt nm k≠ []/\¬zaY (sAt nm k) then 4 else if zbG (nm.sub 0 k) (sAt nm k) then 5 else if (zbm (el ct k)).2≠0 then (zbm (el ct k)).2 else (lnD (el ct k) (.list (ofL (sAt nm k) g g.len))).2
def alR (ct nm g:D) (k:Nat):D:=(lnD (el ct k) (.list (ofL (sAt nm k) g g.len))).1
def alL (ct nm g:D) (n:Nat):List D:=(List.range n).map (alR ct nm g)
structure zsm (ct nm g:D) (n:Nat):Prop where
 out:∀k,k<n->alK ct nm g k=0
def zgu (f:Nat->Int):Nat->Nat->Int
 |0,_=>0
 |m+1,i=>if f i≠0 then f i else zgu f m (i+1)
open Classical in
def rsN (nm g:D):Nat->List D
 |0=> []
 |x+1=>if zbG nm (gAt (el g x)).ct then rsN nm g x else rsN nm g x++ [.int (x:Nat)]
def alC (ct nm g:D):D:= .list (alL ct nm g ct.len)
def zb4 (ct nm g:D) (x:Nat):List D:=ttL (alC ct nm g) (lgN (alC ct nm g) ct.len)++rsN nm g x
def alD (ct nm g:D):D×Int:=
 if 16<ct.len\/64<g.len then (.nil,7) else if ct.len≠nm.len then (.nil,2) else if zgu (alK ct nm g) ct.len 0≠0 then (.nil,zgu (alK ct nm g) ct.len 0) else (zbC (zb4 ct nm g g.len),0)
structure zu8 (ct nm g:D):Prop where
 out:ztD ct/\nm.len<=100/\g.len<=100/\(g.len<=64->g.len<=20/\tgG g)
def zrC:Con:=λ| [.dat 28 ct,.dat 29 nm,.dat 23 g]=>some (zu8 ct nm g,.tup [.dat 34 (alD ct nm g).1,.int .i64 (alD ct nm g).2])|_=>none
def zyN (ct nm g:D):FuncId->Nat->Option Ann
 |43,7=>some {τ:=Nat,slots:=λ_ _ x=> [(38,.int .i64 x)],blks:=λS _ x=> [(zi0 S 8,.arr 34 (alL ct nm g x++(zc4 S 8).drop x))],inv:=λ_ _ x=>x<=ct.len/\zsm ct nm g x,meas:=λ_ _ x=>ct.len-x}
 |105,3=>some {τ:=Nat,slots:=λ_ _ x=> [(12,.int .i64 x),(3,.int .i64 (lgN (alC ct nm g) x))],blks:=λ_ _ _=> [],inv:=λ_ _ x=>x<=ct.len,meas:=λ_ _ x=>ct.len-x}
 |105,9=>some {hs:=2,τ:=Nat,slots:=λ_ i r=>match i with|0=> [(22,.int .i64 r),(6,.val (.slice none 0 0))]|_=> [(22,.int .i64 r),(6,.slc 60 (.lit 0) (.sym (ttL (alC ct nm g) r).length) none)],blks:=λ_ i r=>match i with|0=> []|_=> [(60,.arr 3 (ttL (alC ct nm g) r))],inv:=λ_ i r=>match i with|0=>r<=lgN (alC ct nm g) ct.len/\ttL (alC ct nm g) r= []|_=>r<=lgN (alC ct nm g) ct.len/\0<(ttL (alC ct nm g) r).length,meas:=λ_ _ r=>lgN (alC ct nm g) ct.len-r}
 |105,12=>some {hs:=2,τ:=Nat,slots:=λS i k=>match i with|0=> [(27,.int .i64 k),(6,.val (.slice none 0 0))]|_=> [(27,.int .i64 k),(6,.slc 60 (.lit 0) (.sym (ttL (alC ct nm g) (slI S 7).toNat++tkR (alC ct nm g) (slI S 7).toNat k).length) none)],blks:=λS i k=>match i with|0=> []|_=> [(60,.arr 3 (ttL (alC ct nm g) (slI S 7).toNat++tkR (alC ct nm g) (slI S 7).toNat k))],inv:=λS i k=>match i with|0=>k<=ct.len/\ttL (alC ct nm g) (slI S 7).toNat++tkR (alC ct nm g) (slI S 7).toNat k= []|_=>k<=ct.len/\0<(ttL (alC ct nm g) (slI S 7).toNat++tkR (alC ct nm g) (slI S 7).toNat k).length,meas:=λ_ _ k=>ct.len-k}
 |43,23=>some {hs:=2,τ:=Nat,slots:=λ_ i x=>match i with|0=> [(98,.int .i64 x),(15,.val (.slice none 0 0))]|_=> [(98,.int .i64 x),(15,.slc 61 (.lit 0) (.sym (zb4 ct nm g x).length) none)],blks:=λ_ i x=>match i with|0=> []|_=> [(61,.arr 3 (zb4 ct nm g x))],inv:=λ_ i x=>match i with|0=>x<=g.len/\zb4 ct nm g x= []|_=>x<=g.len/\0<(zb4 ct nm g x).length,meas:=λ_ _ x=>g.len-x,dead:=λS=>match S.fr.get 15 with|some (.slc b _ _ _)=> [b]|_=> []}
 |f,n=>zec f n
def zxn (con:FuncId->Option Con) (ct nm g:D):Ctx:=ctx con (zyN ct nm g)
instance (con:FuncId->Option Con) (ct nm g:D):Nonempty (NoF (zxn con ct nm g)):=⟨⟨λ_ _ h=>zeQ h⟩⟩
def tv0:FuncId->Option Con
 |98=>some zoJ
 |102=>some zlO
 |103=>some zjf
 |104=>some zlM
 |99=>some zud
 |_=>none
end
end Go.Ev

end

section
open Go.Proofs
namespace Go.Ev
noncomputable section
def iX (l:D) (s:List UInt8):Int:=if idx l s<l.len then (idx l s:Nat) else-1
def zoF:Con:=λ| [.dat 29 l,.str s]=>some (l.len<=100,.int .i64 (iX l s))|_=>none
def zoC:Con:=λ| [.dat 40 l]=>some (zq3 l,.ownr 69 false (0<(mL (m8 l) (m8 l).len).length) (mL (m8 l) (m8 l).len))|_=>none
def zoD (g:D):Con:=λ| [.dat 48 l,.int .i64 n]=>some ((zvB l/\0<=n/\n<=64)/\g=gsD n l,.dat 23 g)|_=>none
def zfB:D:= .sct [.int 8,.str [],.bool (false=true),.nil,.int 0]
def tcD (l:D):D:= .list (mL (m8 l) (m8 l).len++ [zfB])
def tcL (L:D) (n:Nat):List D:=(List.range n).map λi=>tcD (el L i)
def tnL (n:Nat):List D:=(List.range n).map λi=> .str (zes (i:Nat))
def kN (nm g:D) (v:Nat):Nat:=if idx nm (gAt (el g v)).ct<nm.len then idx nm (gAt (el g v)).ct else 4
def zas (f:Nat->Int):List D:= [.int (f 0),.int (f 1),.int (f 2),.int (f 3),.int (f 4)]
def toZ (nm g:D) (x k:Nat):Int:=(((List.range x).filter λi=>decide (kN nm g i=k)).length:Nat)
def cnZ (nm g:D) (ls:List Nat) (p k:Nat):Int:=(((ls.take p).filter λi=>decide (kN nm g i=k)).length:Nat)
def lfZ (nm g:D) (ls:List Nat) (p k:Nat):Int:=toZ nm g g.len k-cnZ nm g ls p k
def laZ (nm g:D) (ls:List Nat):Nat->Nat->Int
 |0,_=> -1
 |p+1,k=>if kN nm g (atN ls p)=k then (atN ls p:Nat) else laZ nm g ls p k
def tkB (n:Nat) (ls:List Nat) (p:Nat):List D:=(List.range n).map λv=> .bool (v∈ls.take p)
def zoE (ct nm g:D) (ls:List Nat):Con:=λ| [.dat 28 a,.dat 29 b,.dat 23 c]=>some (a=ct/\b=nm/\c=g,.tup [.dat 34 (iD ls),.int .i64 0])|_=>none
def zyJ (L nm g:D) (ls:List Nat):FuncId->Nat->Option Ann
 |11,5=>some {hs:=2,τ:=Nat,slots:=λ_ i x=>match i with|0=> [(31,.int .i64 0),(6,.val (.slice none 0 0))]|_=> [(31,.int .i64 x),(6,.slc 60 (.lit 0) (.sym x) none)],blks:=λS i x=>match i with|0=> [(slB S 7,.box 29 [.val (.slice none 0 0)])]|_=> [(60,.arr 22 (tcL L x)),(slB S 7,.box 29 [.slc 61 (.lit 0) (.sym x) none]),(61,.arr 9 (tnL x))],inv:=λ_ i x=>match i with|0=>x=0|_=>0<x/\x<=L.len,meas:=λ_ _ x=>L.len-x}
 |11,19=>some {τ:=Nat,slots:=λ_ _ x=> [(76,.int .i64 x)],blks:=λS _ x=> [(zi0 S 14,.arr 3 (zas (toZ nm g x)))],inv:=λ_ _ x=>x<=g.len,meas:=λ_ _ x=>g.len-x}
 |11,24=>some {τ:=Nat,slots:=λ_ _ p=> [(90,.int .i64 p)],blks:=λS _ p=> [(zi0 S 12,.arr 4 (tkB g.len ls p)),(zi0 S 13,.arr 3 (zas (cnZ nm g ls p))),(zi0 S 14,.arr 3 (zas (lfZ nm g ls p))),(zi0 S 15,.arr 3 (zas (laZ nm g ls p)))],inv:=λ_ _ p=>p<=ls.length,meas:=λ_ _ p=>ls.length-p}
 |11,34=>some {τ:=Nat,slots:=λ_ _ y=> [(153,.int .i64 y)],blks:=λ_ _ _=> [],inv:=λS _ y=>y<=(slD S 6).len,meas:=λS _ y=>(slD S 6).len-y}
 |45,2=>some {τ:=Nat,slots:=λ_ _ x=> [(8,.int .i64 x)],blks:=λ_ _ _=> [],inv:=λS _ x=>x<=(slD S 0).len/\∀i,i<x->sAt (slD S 0) i≠slS S 1,meas:=λS _ x=>(slD S 0).len-x}
 |_,_=>none
def onN:Ann:={τ:=Unit,slots:=λ_ _ _=> [],blks:=λ_ _ _=> [],inv:=λ_ _ _=>True,meas:=λ_ _ _=>0}
def tcF (L:D):D:=zbC (tcL L L.len)
def tnF (L:D):D:=zbC (tnL L.len)
def zxb (ct nm g:D):FuncId->Nat->Option Ann
 |11,10=>some {τ:=Unit,slots:=λ_ _ _=> [(6,.dat 28 ct)],blks:=λS _ _=> [(slB S 7,.box 29 [.dat 29 nm])],inv:=λ_ _ _=>True,meas:=λ_ _ _=>0}
 |11,13=>some onN
 |11,28=>some onN
 |11,30=>some {τ:=Unit,slots:=λS _ _=> [(20,.int .i64 (kN nm g (slI S 19).toNat))],blks:=λ_ _ _=> [],inv:=λ_ _ _=>True,meas:=λ_ _ _=>0}
 |11,33=>some onN
 |11,38=>some onN
 |_,_=>none
def zxa:FuncId->Nat->List (Tmp×TypeId)×List (Tmp×Nat×TypeId)
 |11,10=>([(6,28)],[(7,0,29)])
 |_,_=>([],[])
def zku (con:FuncId->Option Con) (L ct nm g:D) (ls:List Nat):Ctx:={ctx con (zyJ L nm g ls) with join:=zxb ct nm g,frzJ:=zxa}
instance (con:FuncId->Option Con) (L ct nm g:D) (ls:List Nat):Nonempty (NoF (zku con L ct nm g ls)):=⟨⟨λ_ _ h=>zeQ h⟩⟩
def tk0 (ct nm g:D) (ls:List Nat):FuncId->Option Con
 |29=>some zoC
 |30=>some (zzs (zoD g))
 |43=>some (zoE ct nm g ls)
 |45=>some zoF
 |32=>some zua
 |_=>none
end
end Go.Ev

end

section
open Go.Proofs
namespace Go.Ev
noncomputable section
set_option maxRecDepth 100000
set_option maxHeartbeats 4000000
theorem zwA {ll:D} (h:zdx ll):∀n,n<=ll.len->lgN ll n<=100
 |0,_=>Nat.zero_le _
 |n+1,hn=>by
  have a:=zwA h n (by omega)
  have b:=h.out.2 n (by omega)
  show max _ _<=100;omega
theorem zAA {ll:D} {r k:Nat} (h:(r:Int)<(el ll k).len):ttL ll r++tkR ll r (k+1)=(ttL ll r++tkR ll r k)++ [.int (el (el ll k) r).asInt]:=by
 have e:tkR ll r (k+1)=tkR ll r k++ [.int (el (el ll k) r).asInt]:=by show (if _ then _ else _)=_;rw [if_pos (by omega)]
 rw [e,List.append_assoc]
theorem zAz {ll:D} {r k:Nat} (h:(r:Int)<(el ll k).len->False):ttL ll r++tkR ll r (k+1)=ttL ll r++tkR ll r k:=by
 have h:¬(r:Int)<(el ll k).len:=h
 have e:tkR ll r (k+1)=tkR ll r k:=by show (if _ then _ else _)=_;rw [if_neg (by omega)]
 rw [e]
theorem zq0 (ll:D) (r:Nat):∀k,(tkR ll r k).length<=k
 |0=>Nat.le_refl _
 |k+1=>by
  have:=zq0 ll r k
  show (if _ then _ else _:List D).length<=_
  split
  .rw [List.length_append,List.length_singleton];omega
  .omega
theorem zq2 {ll:D} (h:zdx ll):∀r,(ttL ll r).length<=100*r
 |0=>Nat.le_refl _
 |r+1=>by
  have a:=zq2 h r
  have b:=zq0 ll r ll.len
  have c:=h.out.1
  show (ttL ll r++_).length<=_
  rw [List.length_append];omega
end
end Go.Ev

end

section
open Go.Proofs
namespace Go.Ev
noncomputable section
set_option maxRecDepth 100000
set_option maxHeartbeats 4000000
def zo1 (g:D) (x:Nat) (x_1:Nat) (s:List UInt8):Prop:=
 (((zad (plL g x++List.drop x (List.replicate g.len (D.sct [D.sct [D.str [],D.str [],D.str [],D.int 0,D.int 0,D.str [],D.bool (false=true),D.bool (false=true),D.nil],D.int 0]))) x_1).fld 0).fld 2).asStr=
 s->False
def zo2 (x:Nat):Prop:=
 (-9223372036854775808)<=(x:Int)+1/\(x:Int)+1<9223372036854775808
theorem zyR:∀(s:List UInt8) (g:D),zag (zxm (λ_=>none) s g) 6 (104:FuncId) [V.str s,V.dat (23:TypeId) g] (V.dat (130:TypeId) (D.list (ofL s g g.len)))=(0<=(g.len:Int)/\(g.len:Int)<=
(g.len:Int)/\(g.len:Int)<=16777216/\(zkk (λ_=>none) D.nil D.nil).P.types[126].bytes*g.len<=281474976710656/\(∃(x:Nat),x.le g.len/\(0=(x:Int)/\True)/\List.replicate g.len (D.sct [D.sct [D.str
[],D.str [],D.str [],D.int 0,D.int 0,D.str [],D.bool (false=true),D.bool (false=true),D.nil],D.int 0])=plL g x++List.drop x (List.replicate g.len (D.sct [D.sct [D.str [],D.str [],D.str [],D.int 0,
D.int 0,D.str [],D.bool (false=true),D.bool (false=true),D.nil],D.int 0]))/\True)/\∀(x:Nat),x.le g.len->g.len-x<LIM/\((x:Int)<(g.len:Int)->0<=(x:Int)/\(x:Int)<(g.len:Int)/\0<=(x:
Int)/\(x:Int)<(g.len:Int)/\x<(plL g x++List.drop x (List.replicate g.len (D.sct [D.sct [D.str [],D.str [],D.str [],D.int 0,D.int 0,D.str [],D.bool (false=true),D.bool (false=true),D.nil],D.int
0]))).length/\(zo2 x)/\∃(y:Nat),y.le g.len/\g.len-y<g.len-x/\((x:Int)+1=(y:Int)/\True)/\(plL g x++List.drop x (List.replicate g.len (D.sct [D.sct [D.str [],D.str [],D.str [],D.int 0,D.int
0,D.str [],D.bool (false=true),D.bool (false=true),D.nil],D.int 0]))).set x (D.sct [gD (gAt (el g x)),D.int (x:Int)])=plL g y++List.drop y (List.replicate g.len (D.sct [D.sct [D.str [],D.str [],D.str
[],D.int 0,D.int 0,D.str [],D.bool (false=true),D.bool (false=true),D.nil],D.int 0]))/\True)/\(((x:Int)<(g.len:Int)->False)->(∃(x:Nat),(x<=g.len/\∀(i:Nat),i<x->(gAt (el g i)).ct=s)/\
(0=(x:Int)/\True)/\True)/\∀(x_1:Nat),(x_1<=g.len/\∀(i:Nat),i<x_1->(gAt (el g i)).ct=s)->g.len-x_1<LIM/\((x_1:Int)<(g.len:Int)->0<=(x_1:Int)/\(x_1:Int)<(g.len:Int)/\x_1<(plL
g x++List.drop x (List.replicate g.len (D.sct [D.sct [D.str [],D.str [],D.str [],D.int 0,D.int 0,D.str [],D.bool (false=true),D.bool (false=true),D.nil],D.int 0]))).length/\((zo1 g x x_1 s)->((x_1:
Int)=(-1)->0+g.len<=(plL g x++List.drop x (List.replicate g.len (D.sct [D.sct [D.str [],D.str [],D.str [],D.int 0,D.int 0,D.str [],D.bool (false=true),D.bool (false=true),D.nil],D.int 0]))).length/\
D.list (List.take g.len (plL g x++List.drop x (List.replicate g.len (D.sct [D.sct [D.str [],D.str [],D.str [],D.int 0,D.int 0,D.str [],D.bool (false=true),D.bool (false=true),D.nil],D.int 0]))))=D.list
(ofL s g g.len))/\(((x_1:Int)=(-1)->False)->fits64 ((x_1:Int)+1)/\(∃(x_2:Nat),x_2.le g.len/\((x_1:Int)+1=(x_2:Int)/\(x_1:Int)=(↑(ofC s g x_2).length:Int)/\True)/\plL g x++List.drop x
(List.replicate g.len (D.sct [D.sct [D.str [],D.str [],D.str [],D.int 0,D.int 0,D.str [],D.bool (false=true),D.bool (false=true),D.nil],D.int 0]))=ofL s g x_2++List.drop (ofC s g x_2).length (plL g
g.len)/\True)/\∀(x:Nat),x.le g.len->g.len-x<LIM/\((x:Int)<(g.len:Int)->0<=(x:Int)/\(x:Int)<(g.len:Int)/\x<(ofL s g x++List.drop (ofC s g x).length (plL g g.len)).length/\((((((zad (ofL
s g x++List.drop (ofC s g x).length (plL g g.len)) x).fld 0).fld 2).asStr=s->False)->False)->0<=(↑(ofC s g x).length:Int)/\(↑(ofC s g x).length:Int)<(g.len:Int)/\(ofC s g x).length<(ofL s g x++
List.drop (ofC s g x).length (plL g g.len)).length/\fits64 ((↑(ofC s g x).length:Int)+1)/\(zo2 x)/\∃(y:Nat),y.le g.len/\g.len-y<g.len-x/\((x:Int)+1=(y:Int)/\(↑(ofC s g x).length:Int)+1
=(↑(ofC s g y).length:Int)/\True)/\(ofL s g x++List.drop (ofC s g x).length (plL g g.len)).set (ofC s g x).length (pl (zad (ofL s g x++List.drop (ofC s g x).length (plL g g.len)) x))=ofL s g y++List.drop
(ofC s g y).length (plL g g.len)/\True)/\(((((((zad (ofL s g x++List.drop (ofC s g x).length (plL g g.len)) x).fld 0).fld 2).asStr=s->False)->False)->False)->(zo2 x)/\∃(y:Nat),y.le g.len/\g.len-y<
g.len-x/\((x:Int)+1=(y:Int)/\(↑(ofC s g x).length:Int)=(↑(ofC s g y).length:Int)/\True)/\ofL s g x++List.drop (ofC s g x).length (plL g g.len)=ofL s g y++List.drop (ofC s g y).length (plL g
g.len)/\True))/\(((x:Int)<(g.len:Int)->False)->0<=(↑(ofC s g x).length:Int)/\(↑(ofC s g x).length:Int)<=(g.len:Int)/\((g.len:Int)-(g.len:Int)).NonNeg/\g.len-(ofC s g x).length<=16777216/\
(ofC s g x).length+(g.len-(ofC s g x).length)<=(ofL s g x++List.drop (ofC s g x).length (plL g g.len)).length/\(g.len-(ofC s g x).length=0->(0:Int)<=0/\0<=(↑(ofC s g x).length:Int)/\((g.len:Int)-
(↑(ofC s g x).length:Int)).NonNeg/\0+0+(ofC s g x).length<=(ofL s g x++List.drop (ofC s g x).length (plL g g.len)).length/\D.list (List.take (ofC s g x).length (List.drop (0+0) (ofL s g x++List.drop (ofC s
g x).length (plL g g.len))))=D.list (ofL s g g.len))/\(0<g.len-(ofC s g x).length->(0:Int)<=0/\0<=(↑(ofC s g x).length:Int)/\((g.len:Int)-(↑(ofC s g x).length:Int)).NonNeg/\0+0+(ofC s g
x).length<=(List.take (ofC s g x).length (ofL s g x++List.drop (ofC s g x).length (plL g g.len))++List.replicate (g.len-(ofC s g x).length) (D.sct [D.sct [D.str [],D.str [],D.str [],D.int 0,D.int 0,D.str [],
D.bool (false=true),D.bool (false=true),D.nil],D.int 0])++List.drop ((ofC s g x).length+(g.len-(ofC s g x).length)) (ofL s g x++List.drop (ofC s g x).length (plL g g.len))).length/\D.list (List.take (ofC
s g x).length (List.drop (0+0) (List.take (ofC s g x).length (ofL s g x++List.drop (ofC s g x).length (plL g g.len))++List.replicate (g.len-(ofC s g x).length) (D.sct [D.sct [D.str [],D.str [],D.str [],D.int
0,D.int 0,D.str [],D.bool (false=true),D.bool (false=true),D.nil],D.int 0])++List.drop ((ofC s g x).length+(g.len-(ofC s g x).length)) (ofL s g x++List.drop (ofC s g x).length (plL g g.len)))))=D.list
(ofL s g g.len)))))/\(((zo1 g x x_1 s)->False)->fits64 ((x_1:Int)+1)/\∃(y:Nat),(y<=g.len/\∀(i:Nat),i<y->(gAt (el g i)).ct=s)/\g.len-y<g.len-x_1/\((x_1:Int)+1=(y:Int)/\True)/\
True))/\(((x_1:Int)<(g.len:Int)->False)->0+g.len<=(plL g x++List.drop x (List.replicate g.len (D.sct [D.sct [D.str [],D.str [],D.str [],D.int 0,D.int 0,D.str [],D.bool (false=true),D.bool (false=
true),D.nil],D.int 0]))).length/\D.list (List.take g.len (plL g x++List.drop x (List.replicate g.len (D.sct [D.sct [D.str [],D.str [],D.str [],D.int 0,D.int 0,D.str [],D.bool (false=true),D.bool (false=
true),D.nil],D.int 0]))))=D.list (ofL s g g.len)))):=by intros;kernel_rfl
theorem zu0 {s:List UInt8} {g:D} {x:Nat} (h:(gAt (el g x)).ct=s):ofC s g (x+1)=ofC s g x++ [x]:=by
 unfold ofC;rw [List.range_succ,List.filter_append];simp only [List.filter_cons,h,decide_true,if_true,List.filter_nil]
theorem zpW {s:List UInt8} {g:D} {x:Nat} (h:¬(gAt (el g x)).ct=s):ofC s g (x+1)=ofC s g x:=by
 unfold ofC;rw [List.range_succ,List.filter_append];simp only [List.filter_cons,h,decide_false,List.filter_nil,List.append_nil,Bool.false_eq_true,if_false]
theorem zem (s:List UInt8) (g:D) (n:Nat):(ofC s g n).length<=n:=by
 have:=List.length_filter_le (λx=>decide ((gAt (el g x)).ct=s)) (List.range n)
 rw [List.length_range] at this;exact this
theorem zkS {s:List UInt8} {g:D} {n:Nat} (h:∀i,i<n->(gAt (el g i)).ct=s):ofC s g n=List.range n:=
 List.filter_eq_self.2 λx hx=>decide_eq_true (h x (List.mem_range.1 hx))
theorem zcI (s:List UInt8) (g:D) (n:Nat):(ofL s g n).length=(ofC s g n).length:=by unfold ofL;rw [List.length_map]
theorem zpX {s:List UInt8} {g:D} {n:Nat} (h:∀i,i<n->(gAt (el g i)).ct=s):ofL s g n=plL g n:=by unfold ofL plL;rw [zkS h]
theorem zw0 {A B:List D} {d:D} (h:A.length<B.length):(A++B.drop A.length).set A.length d=A++ [d]++B.drop (A.length+1):=by
 rw [List.set_append_right _ _ (Nat.le_refl _),Nat.sub_self,List.drop_eq_getElem_cons h,List.set_cons_zero,List.append_assoc];rfl
def rwD (s:List UInt8) (g:D) (x:Nat):List D:=ofL s g x++List.drop (ofC s g x).length (plL g g.len)
theorem ztB {s:List UInt8} {g:D} {x:Nat} (h:x<=g.len):(rwD s g x).length=g.len:=by
 have:=zem s g x
 unfold rwD;rw [List.length_append,zcI,List.length_drop,zcq];omega
theorem zyE {s:List UInt8} {g:D} {x:Nat} (h:x<g.len):zad (rwD s g x) x=plG g x:=by
 have k:=zem s g x
 have e:(rwD s g x)[x]? =(plL g g.len)[x]? :=by
  unfold rwD
  rw [List.getElem?_append_right (by rw [zcI];exact k),List.getElem?_drop,zcI]
  congr 1;omega
 unfold zad;rw [e]
 exact ztt h
theorem zwL (g:D) (x:Nat):((((plG g x).fld 0).fld 2).asStr)=(gAt (el g x)).ct:=rfl
theorem zz1 {s:List UInt8} {g:D} {x:Nat} (hx:x<g.len) (h:(gAt (el g x)).ct=s):(rwD s g x).set (ofC s g x).length (plG g x)=rwD s g (x+1):=by
 have k:=zem s g x
 have e:ofL s g (x+1)=ofL s g x++ [plG g x]:=by unfold ofL;rw [zu0 h,List.map_append];rfl
 unfold rwD
 rw [e,zu0 h,List.length_append,List.length_singleton,<-zcI]
 exact zw0 (by rw [zcI,zcq];omega)
theorem zz0 {s:List UInt8} {g:D} {x:Nat} (h:¬(gAt (el g x)).ct=s):rwD s g x=rwD s g (x+1):=by
 unfold rwD ofL;rw [zpW h]
theorem zsA {s:List UInt8} {g:D} {x:Nat}:(rwD s g x).take (ofC s g x).length=ofL s g x:=by
 unfold rwD;rw [List.take_append_of_le_length (by rw [zcI];exact Nat.le_refl _),List.take_of_length_le (by rw [zcI];exact Nat.le_refl _)]
theorem zuZ (a:Int):(a-a).NonNeg:=Int.le_refl a
theorem zz4 (s:List UInt8) (g:D) (h:g.len<=100):zag (zxm (λ_=>none) s g) 6 104 [.str s,.dat 23 g] (.dat 130 (.list (ofL s g g.len))):=by
 have hb:(zkk (λ_=>none) D.nil D.nil).P.types[(126:Nat)].bytes=120:=by kernel_rfl
 rw [zyR,hb];unfold zo1
 have T:True:=trivial
 refine ⟨by omega,by omega,by omega,by omega,⟨0,Nat.zero_le _,⟨rfl,T⟩,rfl,T⟩,λx hx=> ?_⟩
 have hx:x<=g.len:=hx
 have ln:∀z:D,(plL g x++List.drop x (List.replicate g.len z)).length=g.len:=λz=>by rw [List.length_append,zcq,List.length_drop,List.length_replicate];omega
 refine ⟨zfU (by omega),λhlt=>⟨by omega,hlt,by omega,hlt,by rw [ln];omega,⟨by omega,by omega⟩,x+1,(by show x+1<=g.len;omega),by omega,⟨by omega,T⟩, ?_,T⟩,λhge=> ?_⟩
 .rw [zio (B:= []) (zcq g x) (by omega),zmj];rfl
 .have e:=zcc hx hge
  subst e
  have er:∀z:D,plL g g.len++List.drop g.len (List.replicate g.len z)=plL g g.len:=λz=>by rw [List.drop_of_length_le (by rw [List.length_replicate];exact Nat.le_refl _),List.append_nil]
  rw [er]
  refine ⟨⟨0,⟨Nat.zero_le _,λi hi=>absurd hi (Nat.not_lt_zero _)⟩,⟨rfl,T⟩,T⟩,λa ha=>⟨zfU (by omega),λhlt=>⟨by omega,hlt,by rw [zcq];omega, ?_⟩,λhge=> ?_⟩⟩
  .rw [ztt (by omega),zwL]
   refine ⟨λhne=>⟨λk=>by omega,λ_=>⟨⟨by omega,by omega⟩,⟨a+1,(by show a+1<=g.len;omega),⟨by omega, ?_,T⟩, ?_,T⟩,λx hx=> ?_⟩⟩,λheq=>⟨⟨by omega,by omega⟩,a+1,⟨by omega,λi hi=> ?_⟩,by omega,⟨by omega,T⟩,T⟩⟩
   .rw [zpW hne,zkS ha.2,List.length_range]
   .rw [show ofL s g (a+1)=ofL s g a by unfold ofL;rw [zpW hne],zpX ha.2,zpW hne,zkS ha.2,List.length_range]
    have e1:plL g a=(plL g g.len).take a:=by
     unfold plL;rw [<-List.map_take,List.take_range];congr 2;omega
    rw [e1,List.take_append_drop]
   .have hx:x<=g.len:=hx
    have k:=zem s g x
    have k2:=zem s g g.len
    have kl:=ztB (s:=s) (g:=g) (x:=x) hx
    have kt:∀z w:List D,List.take (ofC s g g.len).length (List.drop (0+0) (List.take (ofC s g g.len).length (rwD s g g.len)++z++w))=ofL s g g.len:=λz w=>by
     have l0:(List.take (ofC s g g.len).length (rwD s g g.len)).length=(ofC s g g.len).length:=by rw [zsA,zcI]
     rw [List.drop_zero,List.append_assoc,List.take_append_of_le_length (by rw [l0];exact Nat.le_refl _),List.take_take,Nat.min_self,zsA]
    refine ⟨zfU (by omega),λhlt=>⟨by omega,hlt,by show x<(rwD s g x).length;omega, ?_⟩,λhge=> ?_⟩
    .rw [show zad (ofL s g x++List.drop (ofC s g x).length (plL g g.len)) x=plG g x from zyE (by omega),zwL]
     refine ⟨λq=> ?_,λq=>⟨⟨by omega,by omega⟩,x+1,(by show x+1<=g.len;omega),by omega,⟨by omega,by rw [zpW λe=>q λn=>n e],T⟩,zz0 λe=>q λn=>n e,T⟩⟩
     have q:(gAt (el g x)).ct=s:=Classical.byContradiction q
     exact ⟨by omega,by omega,by show _<(rwD s g x).length;omega,⟨by omega,by omega⟩,⟨by omega,by omega⟩,x+1,(by show x+1<=g.len;omega),by omega,⟨by omega,by rw [zu0 q,List.length_append,List.length_singleton];rfl,T⟩,zz1 (by omega) q,T⟩
    .have e:=zcc hx hge
     subst e
     have kl:=ztB (s:=s) (g:=g) (x:=g.len) (Nat.le_refl _)
     refine ⟨by omega,by omega,zuZ _,by omega,by show _<=(rwD s g g.len).length;omega,λhz=>⟨Int.le_refl _,by omega,(by omega:((ofC s g g.len).length:Int)<=g.len),by show _<=(rwD s g g.len).length;omega, ?_⟩,λhz=>⟨Int.le_refl _,by omega,(by omega:((ofC s g g.len).length:Int)<=g.len), ?_, ?_⟩⟩
     .rw [List.drop_zero];exact congrArg D.list zsA
     .have l0:(List.take (ofC s g g.len).length (rwD s g g.len)).length=(ofC s g g.len).length:=by rw [zsA,zcI]
      show _<=(List.take (ofC s g g.len).length (rwD s g g.len)++_++_).length
      rw [List.length_append,List.length_append,l0];omega
     .exact congrArg D.list (kt _ _)
   .rcases Nat.lt_or_ge i a with w|w
    .exact ha.2 i w
    .have:i=a:=by omega
     subst this;exact Classical.byContradiction heq
  .have e:=zcc ha.1 hge
   subst e
   exact ⟨by rw [zcq];omega,by rw [List.take_of_length_le (by rw [zcq];exact Nat.le_refl _),zpX ha.2]⟩
end
end Go.Ev

end
