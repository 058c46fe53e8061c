/- Part of the proof. -/
import Derived.Test.YtdojhafbgoimeaaGreatDoorCoreCcC
import Derived.Test.YtdojhafbgoimeaaGreatDoorCoreAwake
import Derived.Test.YtdojhafbgoimeaaGreatDoorCoreG26
import Derived.Test.YtdojhafbgoimeaaGreatDoorCoreSeF
import Derived.Test.YtdojhafbgoimeaaGreatDoorCoreG30
import Derived.Test.YtdojhafbgoimeaaGreatDoorRows
import Derived.Test.YtdojhafbgoimeaaGreatDoorCoreKit
import Derived.Test.YtdojhafbgoimeaaGreatDoorProg
import Derived.Test.YtdojhafbgoimeaaGreatDoorCoreG0
import Derived.OpenShut
import Derived.LaidSub
import Derived.MakeChecks

section
open Go.Proofs
namespace Go.Ev
noncomputable section
set_option maxRecDepth 100000
def GC:Msk:={bits:=GB,fast:=false,ora:=λg=>cond (Nat.beq g 18) (some (.bool true)) none}
abbrev VC (d:Nat) (g:FuncId) (c:Con):Prop:=zfd Tryz.prog GC (ev Tryz.prog GC d) g c
theorem zc4 (d:Nat):∀g c,(λ_:FuncId=>(none:Option Con)) g=some c->VC d g c:=λ_ _ h=>by cases h
theorem zy8:∀d,5<=d->VC d 103 zhb:=λd hd=>
 zae (C:=ctx (λ_=>none) zaY) (G:=GC) (B:=2) (m:=3) rfl rfl rfl (λd _=>zc4 d) (λus p r hc hp ht=>by
  unfold zhb at hc;split at hc
  .cases hc;exact zA0 _ _ hp
  .cases hc) (λ_ _=>rfl) rfl rfl d hd
theorem zA5:∀d,5<=d->VC d 137 zhb:=λd hd=>
 zae (C:=ctx (λ_=>none) zaY) (G:=GC) (B:=2) (m:=3) rfl rfl rfl (λd _=>zc4 d) (λus p r hc hp ht=>by
  unfold zhb at hc;split at hc
  .cases hc;exact zz5 _ _ hp
  .cases hc) (λ_ _=>rfl) rfl rfl d hd
theorem zAK:∀d,5<=d->VC d 136 zh1:=λd hd=>
 zae (C:=ctx (λ_=>none) zaY) (G:=GC) (B:=2) (m:=3) rfl rfl rfl (λd _=>zc4 d) (λus p r hc hp ht=>by
  unfold zh1 at hc;split at hc
  .cases hc;exact zz6 _
  .cases hc) (λ_ _=>rfl) rfl rfl d hd
theorem v81:∀d,5<=d->VC d 81 zvC:=λd hd=>
 zae (C:=ctx (λ_=>none) zaY) (G:=GC) (B:=2) (m:=3) rfl rfl rfl (λd _=>zc4 d) (λus p r hc hp ht=>by
  unfold zvC at hc;split at hc
  .cases hc;exact s81 _ _ hp
  .cases hc) (λ_ _=>rfl) rfl rfl d hd
theorem zBm:∀d,5<=d->VC d 201 zhT:=λd hd=>
 zae (C:=ctx (λ_=>none) zaY) (G:=GC) (B:=2) (m:=3) rfl rfl rfl (λd _=>zc4 d) (λus p r hc hp ht=>by
  unfold zhT at hc;split at hc
  .cases hc;exact zAW _ _ _ _ _
  .cases hc) (λ_ _=>rfl) rfl rfl d hd
theorem zA6:∀d,5<=d->VC d 168 zhT:=λd hd=>
 zae (C:=ctx (λ_=>none) zaY) (G:=GC) (B:=2) (m:=3) rfl rfl rfl (λd _=>zc4 d) (λus p r hc hp ht=>by
  unfold zhT at hc;split at hc
  .cases hc;exact zAi _ _ _ _ _
  .cases hc) (λ_ _=>rfl) rfl rfl d hd
theorem vN (d:Nat) (g:FuncId):VC d g zxm:=by
 intro us p r hc hp σ H vs hst hl
 unfold zxm at hc
 split at hc
 .cases hc;exact hp.elim
 .cases hc
theorem zzw (d:Nat):∀g c,cc0 g=some c->VC d g c:=λg c h=>by
 unfold cc0 at h
 split at h
 .cases h;exact vN d _
 .cases h;exact vN d _
 .cases h
theorem zAG:∀d,8<=d->VC d 102 zh1:=λd hd=>
 zae (C:=ctx cc0 zaY) (G:=GC) (B:=2) (m:=6) rfl rfl rfl (λd _=>zzw d) (λus p r hc hp ht=>by
  unfold zh1 at hc;split at hc
  .cases hc;exact zAL _
  .cases hc) (λ_ _=>rfl) rfl rfl d hd
theorem zuu:∀d,8<=d->∀g c,cc1 g=some c->VC d g c:=λd hd g c h=>by
 unfold cc1 at h
 split at h
 .cases h;exact zy8 d (by omega)
 .cases h;exact zA5 d (by omega)
 .cases h;exact zAK d (by omega)
 .cases h;exact zAG d (by omega)
 .cases h;exact v81 d (by omega)
 .cases h;exact zBm d (by omega)
 .cases h;exact zA6 d (by omega)
 .cases h
theorem zAm:∀d,11<=d->VC d 169 zqL:=λd hd=>
 zae (C:=ctx cc1 zaY) (G:=GC) (B:=8) (m:=3) rfl rfl rfl zuu (λus p r hc hp ht=>by
  unfold zqL at hc;split at hc
  .cases hc;exact zzS _ hp
  .cases hc) (λ_ _=>rfl) rfl rfl d hd
theorem zzu:∀d,14<=d->VC d 170 zo0:=λd hd=>by
 intro us p r hc hp
 unfold zo0 at hc;split at hc
 .rename_i c s
  cases hc
  have:=zae (C:=ctx cc1 (zow s)) (G:=GC) (B:=8) (m:=6) (g:=170) (c:=λus=>match us with| [.dat 22 c',.str s']=>some (zan c'/\s'=s,.prop (zaO c' c'.len s'))|_=>none) rfl rfl rfl zuu (λus p r hc hp ht=>by
   split at hc
   .cases hc;obtain ⟨h1,rfl⟩:=hp;exact zz0 _ _ h1
   .cases hc) (λ_ _=>rfl) rfl rfl d hd
  exact this [.dat 22 c,.str s] _ _ rfl ⟨hp,rfl⟩
 .cases hc
theorem zAE:∀d,11<=d->VC d 124 zqk:=λd hd=>
 zae (C:=ctx cc1 zaY) (G:=GC) (B:=8) (m:=3) rfl rfl rfl zuu (λus p r hc hp ht=>by
  unfold zqk at hc;split at hc
  .cases hc;exact zAX _ _ _ _ _ _ _ _ _ _ hp
  .cases hc) (λ_ _=>rfl) rfl rfl d hd
theorem zxu:∀d,14<=d->∀g c,cc2 g=some c->VC d g c:=λd hd g c h=>by
 unfold cc2 at h
 split at h
 .cases h;exact zAm d (by omega)
 .cases h;exact zzu d (by omega)
 .cases h;exact zAE d (by omega)
 .exact zuu d (by omega) _ c h
theorem zzp:∀d,20<=d->VC d 130 zp5:=λd hd=>
 zae (C:=ctx cc2 zaY) (G:=GC) (B:=14) (m:=6) rfl rfl rfl zxu (λus p r hc hp ht=>by
  unfold zp5 at hc;split at hc
  .cases hc;exact zAB _ _ _ _ _ _ hp.1 hp.2
  .cases hc) (λ_ _=>rfl) rfl rfl d hd
theorem zzZ:∀d,11<=d->VC d 154 zpm:=λd hd=>
 zae (C:=ctx cc1 zaY) (G:=GC) (B:=8) (m:=3) rfl rfl rfl zuu (λus p r hc hp ht=>by
  unfold zpm at hc;split at hc
  .cases hc;exact zzN _ _ hp.1 hp.2
  .cases hc) (λ_ _=>rfl) rfl rfl d hd
theorem v69:∀d,19<=d->VC d 69 zrO:=λd hd=>
 zae (C:=ctx cc2 zaY) (G:=GC) (B:=14) (m:=5) rfl rfl rfl zxu (λus p r hc hp ht=>by
  unfold zrO at hc;split at hc
  .cases hc;exact s69 _ _ hp
  .cases hc) (λ_ _=>rfl) rfl rfl d hd
theorem v60:∀d,7<=d->VC d 60 zrE:=λd hd=>
 zae (C:=ctx (λ_=>none) zaY) (G:=GC) (B:=2) (m:=5) rfl rfl rfl (λd _=>zc4 d) (λus p r hc hp ht=>by
  unfold zrE at hc;split at hc
  .cases hc;exact s60 _ hp
  .cases hc) (λ_ _=>rfl) rfl rfl d hd
theorem v7:∀d,10<=d->VC d 15 zso:=λd hd=>
 zae (C:=ctx (λ_=>none) zpq) (G:=GC) (B:=2) (m:=8) rfl rfl rfl (λd _=>zc4 d) (λus p r hc hp ht=>by
  unfold zso at hc;split at hc
  .cases hc;exact sl7 _
  .cases hc) (λ_ _=>rfl) rfl rfl d hd
theorem zxG:∀d,20<=d->∀g c,cc3 g=some c->VC d g c:=λd hd g c h=>by
 unfold cc3 at h
 split at h
 .cases h;exact zzp d (by omega)
 .cases h;exact zzZ d (by omega)
 .cases h;exact v69 d (by omega)
 .cases h;exact v60 d (by omega)
 .cases h;exact v7 d (by omega)
 .exact zxu d (by omega) _ c h
theorem v98:∀d,25<=d->VC d 98 zjI:=λd hd=>
 zae (C:=ctx cc3 zaY) (G:=GC) (B:=20) (m:=5) rfl rfl rfl zxG (λus p r hc hp ht=>by
  unfold zjI at hc;split at hc
  .cases hc;exact s98 _ hp
  .cases hc) (λ_ _=>rfl) rfl rfl d hd
theorem zzi:∀d,25<=d->VC d 117 zjI:=λd hd=>
 zae (C:=ctx cc3 zaY) (G:=GC) (B:=20) (m:=5) rfl rfl rfl zxG (λus p r hc hp ht=>by
  unfold zjI at hc;split at hc
  .cases hc;exact zAy _ hp
  .cases hc) (λ_ _=>rfl) rfl rfl d hd
theorem zw4:∀d,25<=d->∀g c,cc4 g=some c->VC d g c:=λd hd g c h=>by
 unfold cc4 at h
 split at h
 .cases h;exact v98 d (by omega)
 .cases h;exact zzi d (by omega)
 .exact zxG d (by omega) _ c h
end
end Go.Ev

end

section
open Go.Proofs
namespace Go.Ev
noncomputable section
set_option maxRecDepth 100000
abbrev VF (d:Nat) (cf:D->Con):Prop:=zjA Tryz.prog GC (ev Tryz.prog GC d) cf
theorem vFn (d:Nat):∀t c,(λ_:TypeId=>(none:Option (D->Con))) t=some c->VF d c:=λ_ _ h=>(zd9 h).elim
theorem ztI {v:V} {g:GD} (h:gOf v=some g):v=gV g:=by
 unfold gOf at h
 split at h
 .cases h;rfl
 .cases h
theorem zfG {v:V} {g:GD} {p:Int} (h:pOf v=some (g,p)):v=pV g p:=by
 unfold pOf at h
 split at h
 .cases h;rfl
 .cases h
theorem zzn:∀d,6<=d->VC d 114 zm4:=λd hd=>
 zaf (C:=zbs (λ_=>none) (λ_=>none) zaC) (G:=GC) (B:=2) (m:=4) rfl rfl rfl (λd _=>zc4 d) (λd _=>vFn d) (λus p r hc hp ht=>by
  unfold zm4 at hc
  split at hc
  .cases hc;exact zz7 _ _
  .cases hc) (λ_ _=>rfl) rfl rfl d hd
theorem zzY:∀d,6<=d->VC d 185 zpE:=λd hd=>
 zaf (C:=zbs (λ_=>none) (λ_=>none) zaC) (G:=GC) (B:=2) (m:=4) rfl rfl rfl (λd _=>zc4 d) (λd _=>vFn d) (λus p r hc hp ht=>by
  unfold zpE at hc
  split at hc
  .cases hc;exact zAa _ _
  .cases hc) (λ_ _=>rfl) rfl rfl d hd
theorem v45:∀d,5<=d->VC d 45 zuh:=λd hd=>
 zaf (C:=zbs (λ_=>none) (λ_=>none) zaC) (G:=GC) (B:=2) (m:=3) rfl rfl rfl (λd _=>zc4 d) (λd _=>vFn d) (λus p r hc hp ht=>by
  unfold zuh at hc
  split at hc
  .cases hc;exact s45 _ _ hp
  .cases hc) (λ_ _=>rfl) rfl rfl d hd
theorem zzJ:∀d,5<=d->VC d 202 zq3:=λd hd=>
 zaf (C:=zbs (λ_=>none) (λ_=>none) zaC) (G:=GC) (B:=2) (m:=3) rfl rfl rfl (λd _=>zc4 d) (λd _=>vFn d) (λus p r hc hp ht=>by
  unfold zq3 at hc
  split at hc
  .cases hc;exact zBh _ _ hp
  .cases hc) (λ_ _=>rfl) rfl rfl d hd
theorem zjk:∀d,6<=d->∀g c,cm0 g=some c->VC d g c:=λd hd g c h=>by
 unfold cm0 at h
 split at h
 .cases h;exact zy8 d (by omega)
 .cases h;exact zzn d (by omega)
 .cases h;exact zzY d (by omega)
 .cases h;exact v45 d (by omega)
 .cases h
theorem zAJ:∀d,10<=d->VC d 177 zoY:=λd hd=>
 zaf (C:=zbs cm0 (λ_=>none) zaC) (G:=GC) (B:=6) (m:=4) rfl rfl rfl zjk (λd _=>vFn d) (λus p r hc hp ht=>by
  unfold zoY at hc
  split at hc
  .cases hc;exact zzL _ _
  .cases hc) (λ_ _=>rfl) rfl rfl d hd
theorem zAU:∀d,9<=d->VC d 215 zqA:=λd hd=>
 zaf (C:=zbs cm0 (λ_=>none) zaC) (G:=GC) (B:=6) (m:=3) rfl rfl rfl zjk (λd _=>vFn d) (λus p r hc hp ht=>by
  unfold zqA at hc
  split at hc
  .split at hc
   .rename_i q;cases hc;rw [zfG q];exact zzt _ _ _ hp
   .cases hc
  .cases hc) (λ_ _=>rfl) rfl rfl d hd
theorem zBf:∀d,9<=d->VC d 179 zov:=λd hd=>
 zaf (C:=zbs cm0 (λ_=>none) zaC) (G:=GC) (B:=6) (m:=3) rfl rfl rfl zjk (λd _=>vFn d) (λus p r hc hp ht=>by
  unfold zov at hc
  split at hc
  .split at hc
   .rename_i q;cases hc;rw [zfG q];exact zzH _ _ _
   .cases hc
  .cases hc) (λ_ _=>rfl) rfl rfl d hd
theorem zzQ:∀d,9<=d->VC d 180 zqu:=λd hd=>
 zaf (C:=zbs cm0 (λ_=>none) zaC) (G:=GC) (B:=6) (m:=3) rfl rfl rfl zjk (λd _=>vFn d) (λus p r hc hp ht=>by
  unfold zqu at hc
  split at hc
  .split at hc
   .rename_i q;cases hc;rw [zfG q];exact zzV _ _
   .cases hc
  .cases hc) (λ_ _=>rfl) rfl rfl d hd
theorem zAu:∀d,9<=d->VC d 217 zq5:=λd hd=>
 zaf (C:=zbs cm0 (λ_=>none) zaC) (G:=GC) (B:=6) (m:=3) rfl rfl rfl zjk (λd _=>vFn d) (λus p r hc hp ht=>by
  unfold zq5 at hc
  split at hc
  .split at hc
   .rename_i q;cases hc;rw [zfG q];exact zzT _ _
   .cases hc
  .cases hc) (λ_ _=>rfl) rfl rfl d hd
theorem zAc:∀d,9<=d->VC d 183 zpB:=λd hd=>
 zaf (C:=zbs cm0 (λ_=>none) zaC) (G:=GC) (B:=6) (m:=3) rfl rfl rfl zjk (λd _=>vFn d) (λus p r hc hp ht=>by
  unfold zpB at hc
  split at hc
  .split at hc
   .rename_i q;cases hc;rw [zfG q];exact zz9 _ _ _ hp
   .cases hc
  .cases hc) (λ_ _=>rfl) rfl rfl d hd
theorem zzz:∀d,9<=d->VC d 187 zqv:=λd hd=>
 zaf (C:=zbs cm0 (λ_=>none) zaC) (G:=GC) (B:=6) (m:=3) rfl rfl rfl zjk (λd _=>vFn d) (λus p r hc hp ht=>by
  unfold zqv at hc
  split at hc
  .cases hc;exact zAY _
  .cases hc) (λ_ _=>rfl) rfl rfl d hd
theorem zz4:∀d,9<=d->VC d 188 zq7:=λd hd=>
 zaf (C:=zbs cm0 (λ_=>none) zaC) (G:=GC) (B:=6) (m:=3) rfl rfl rfl zjk (λd _=>vFn d) (λus p r hc hp ht=>by
  unfold zq7 at hc
  split at hc
  .cases hc;exact zzE _ _ hp.1 hp.2.1 hp.2.2
  .cases hc) (λ_ _=>rfl) rfl rfl d hd
theorem zAF:∀d,9<=d->VC d 222 zre:=λd hd=>
 zaf (C:=zbs cm0 (λ_=>none) zaC) (G:=GC) (B:=6) (m:=3) rfl rfl rfl zjk (λd _=>vFn d) (λus p r hc hp ht=>by
  unfold zre at hc
  split at hc
  .cases hc;exact zz1 _
  .cases hc) (λ_ _=>rfl) rfl rfl d hd
open Classical in
theorem zAl:∀d,12<=d->VC d 181 zjF:=λd hd us p r hc hp=>by
 have hc0:=hc
 unfold zjF at hc;split at hc
 .rename_i q x
  exact zaf (C:=zbs cm0 (λ_=>none) (zvl (cNm x))) (G:=GC) (B:=6) (m:=6) (g:=181) (c:=λus=>if us= [q,.dpt 69 x] then zjF us else none) rfl rfl rfl zjk (λd _=>vFn d) (λus p r hc hp ht=>by
   split at hc
   .rename_i e;subst e
    unfold zjF at hc
    simp only at hc
    split at hc
    .rename_i h;cases hc;rw [zfG h];exact zzG _ _ _ hp.1 hp.2
    .cases hc
   .cases hc) (λ_ _=>rfl) rfl rfl d hd _ p r (by show (if _ then _ else _)=_;rw [if_pos rfl];exact hc0) hp
 .cases hc
theorem zks (g:FuncId) (h1:zca Tryz.prog g [undef]=none) (h2:Nat.beq g 18=false):zhD Tryz.prog GC g:=⟨rfl,h1,by show cond (Nat.beq g 18) _ _=none;rw [h2];rfl,λ_=>rfl,rfl,rfl⟩
theorem zxQ:zhD Tryz.prog GC 215:=zks 215 (by kernel_rfl) rfl
theorem zx0:zhD Tryz.prog GC 179:=zks 179 (by kernel_rfl) rfl
theorem zyF:zhD Tryz.prog GC 180:=zks 180 (by kernel_rfl) rfl
theorem zxH:zhD Tryz.prog GC 181:=zks 181 (by kernel_rfl) rfl
theorem zx2:zhD Tryz.prog GC 183:=zks 183 (by kernel_rfl) rfl
theorem zyG:zhD Tryz.prog GC 217:=zks 217 (by kernel_rfl) rfl
theorem zxq:zhD Tryz.prog GC 114:=zks 114 (by kernel_rfl) rfl
theorem zx8:zhD Tryz.prog GC 177:=zks 177 (by kernel_rfl) rfl
theorem zyS:zhD Tryz.prog GC 187:=zks 187 (by kernel_rfl) rfl
theorem zxY:zhD Tryz.prog GC 188:=zks 188 (by kernel_rfl) rfl
theorem zxZ:zhD Tryz.prog GC 222:=zks 222 (by kernel_rfl) rfl
theorem zyT:zhD Tryz.prog GC 216:=zks 216 (by kernel_rfl) rfl
theorem zyr:zhD Tryz.prog GC 220:=zks 220 (by kernel_rfl) rfl
theorem zyC:zhD Tryz.prog GC 184:=zks 184 (by kernel_rfl) rfl
theorem zyp:zhD Tryz.prog GC 223:=zks 223 (by kernel_rfl) rfl
theorem zyi:zhD Tryz.prog GC 218:=zks 218 (by kernel_rfl) rfl
theorem zyE:zhD Tryz.prog GC 174:=zks 174 (by kernel_rfl) rfl
theorem vR:∀d,12<=d->VF d zyO:=λd hd=>zcj λf us p r hc hp=>by
 unfold zyO at hc;split at hc
 .split at hc
  .rename_i h;cases hc;rw [zfG h]
   obtain ⟨nm,rfl,hl⟩:=hp.out
   exact ⟨_,_,_,zqA,_,rfl,zxQ,zAU d (by omega),rfl,hl⟩
  .cases hc
 .cases hc
theorem vNm:∀d,12<=d->VF d zux:=λd hd=>zcj λf us p r hc hp=>by
 unfold zux at hc;split at hc
 .split at hc
  .rename_i h;cases hc;rw [zfG h]
   obtain ⟨ho,htg⟩:=hp
   rcases ho.out with ⟨x,rfl⟩|rfl| ⟨x,rfl,hx⟩| ⟨x,rfl,hx⟩|rfl
   .exact ⟨_,_,_,zov,True,rfl,zx0,zBf d (by omega),(by rw [show zdK _ _=_ from propext (zmT x _)];rfl),trivial⟩
   .exact ⟨_,_,_,zqu,True,rfl,zyF,zzQ d (by omega),(by rw [show zdK _ _=_ from propext (zm6 _)];rfl),trivial⟩
   .exact ⟨_,_,_,zjF,_,rfl,zxH,zAl d (by omega),(by rw [show zdK _ _=_ from propext (zmo x _)];rfl),And.intro htg hx⟩
   .exact ⟨_,_,_,zpB,_,rfl,zx2,zAc d (by omega),(by rw [show zdK _ _=_ from propext (zmG x _)];rfl),hx⟩
   .exact ⟨_,_,_,zq5,True,rfl,zyG,zAu d (by omega),(by rw [show zdK _ _=_ from propext (zfo _)];rfl),trivial⟩
  .cases hc
 .cases hc
theorem vC:∀d,12<=d->VF d zyL:=λd hd=>zcj λf us p r hc hp=>by
 unfold zyL at hc;split at hc
 .cases hc
  rcases hp.out with rfl|rfl
  .exact ⟨_,_,_,zm4,True,rfl,zxq,zzn d (by omega),rfl,trivial⟩
  .exact ⟨_,_,_,zoY,True,rfl,zx8,zAJ d (by omega),rfl,trivial⟩
 .cases hc
theorem vK:∀d,12<=d->VF d zyM:=λd hd=>zcj λf us p r hc hp=>by
 unfold zyM at hc;split at hc
 .cases hc
  obtain ⟨ho,hb⟩:=hp
  rcases ho.out with rfl| ⟨x,rfl,hx,hx'⟩
  .exact ⟨_,_,_,zqv,True,rfl,zyS,zzz d (by omega),rfl,trivial⟩
  .exact ⟨_,_,_,zq7,_,rfl,zxY,zz4 d (by omega),rfl,hb,hx,hx'⟩
 .cases hc
theorem vB:∀d,12<=d->VF d zxC:=λd hd=>zcj λf us p r hc hp=>by
 unfold zxC at hc;split at hc
 .cases hc
  have hp:f= .fn 222 [] []:=hp
  subst hp
  exact ⟨_,_,_,zre,True,rfl,zxZ,zAF d (by omega),rfl,trivial⟩
 .cases hc
theorem vF1:∀d,12<=d->∀t c,cF1 t=some c->VF d c:=λd hd t c h=>by
 unfold cF1 at h
 split at h
 .cases h;exact vR d hd
 .cases h;exact vNm d hd
 .cases h;exact vC d hd
 .cases h;exact vK d hd
 .cases h;exact vB d hd
 .cases h
theorem zAD:∀d,15<=d->VC d 216 zrr:=λd hd=>
 zaf (C:=zbs cm0 cF1 zaC) (G:=GC) (B:=12) (m:=3) rfl rfl rfl (λd hd=>zjk d (by omega)) vF1 (λus p r hc hp ht=>by
  unfold zrr at hc
  split at hc
  .split at hc
   .rename_i q1 q2;cases hc;rw [zfG q1,zfG q2];exact zBe _ _ _ _ _ hp
   .cases hc
  .cases hc) (λ_ _=>rfl) rfl rfl d hd
theorem zzA:∀d,15<=d->VC d 220 zq2:=λd hd=>
 zaf (C:=zbs cm0 cF1 zaC) (G:=GC) (B:=12) (m:=3) rfl rfl rfl (λd hd=>zjk d (by omega)) vF1 (λus p r hc hp ht=>by
  unfold zq2 at hc
  split at hc
  .split at hc
   .rename_i q1 q2;cases hc;rw [zfG q1,zfG q2];exact zAg _ _ _ _ _ _ hp.1 hp.2.1 hp.2.2
   .cases hc
  .cases hc) (λ_ _=>rfl) rfl rfl d hd
theorem zzr:∀d,15<=d->VC d 184 zqE:=λd hd=>
 zaf (C:=zbs cm0 cF1 zaC) (G:=GC) (B:=12) (m:=3) rfl rfl rfl (λd hd=>zjk d (by omega)) vF1 (λus p r hc hp ht=>by
  unfold zqE at hc
  split at hc
  .split at hc
   .rename_i q1 q2;cases hc;rw [zfG q1,zfG q2];exact zzB _ _ _ _
   .cases hc
  .cases hc) (λ_ _=>rfl) rfl rfl d hd
theorem zzF:∀d,15<=d->VC d 223 zqD:=λd hd=>
 zaf (C:=zbs cm0 cF1 zaC) (G:=GC) (B:=12) (m:=3) rfl rfl rfl (λd hd=>zjk d (by omega)) vF1 (λus p r hc hp ht=>by
  unfold zqD at hc
  split at hc
  .split at hc
   .rename_i q1 q2;cases hc;rw [zfG q1,zfG q2];exact zAV _ _ _ _ _ _ hp.1 hp.2
   .cases hc
  .cases hc) (λ_ _=>rfl) rfl rfl d hd
theorem zlY {d:Nat} (hd:15<=d) {f:D} (ho:ztN f) {a b:GD} {i j:Int} (ha:a.tg.len<=100) (hb:b.tg.len<=100):∃(g:FuncId) (ts:List TypeId) (ds:List D) (c:Con) (p':Prop),f= .fn g ts ds/\zhD Tryz.prog GC g/\VC d g c/\c ([pV a i,pV b j]++zhB ts ds)=some (p',.int .i64 (zby f a b i j))/\p':=by
 rcases ho.out with ⟨r,rfl,hr⟩| ⟨n,la,rfl,hn⟩|rfl| ⟨k,rfl,hk⟩
 .exact ⟨_,_,_,zrr,_,rfl,zyT,zAD d (by omega),rfl,hr⟩
 .exact ⟨_,_,_,zq2,_,rfl,zyr,zzA d (by omega),(by rw [zcE];rfl),And.intro hn (And.intro ha hb)⟩
 .exact ⟨_,_,_,zqE,True,rfl,zyC,zzr d (by omega),(by rw [zkc];rfl),trivial⟩
 .exact ⟨_,_,_,zqD,_,rfl,zyp,zzF d (by omega),(by rw [zht];rfl),And.intro rfl hk⟩
theorem vT1:∀d,15<=d->VF d zuA:=λd hd=>zcj λf us p r hc hp=>by
 unfold zuA at hc;split at hc
 .split at hc
  .rename_i q1 q2;cases hc;rw [zfG q1,zfG q2]
   exact zlY hd hp.1 hp.2.1 hp.2.2
  .cases hc
 .cases hc
theorem vF2:∀d,15<=d->∀t c,cF2 t=some c->VF d c:=λd hd t c h=>by
 unfold cF2 at h
 split at h
 .cases h;exact vT1 d hd
 .exact vF1 d (by omega) _ c h
theorem zzs:∀d,19<=d->VC d 218 zpl:=λd hd=>
 zaf (C:=zbs cm0 cF2 zaC) (G:=GC) (B:=15) (m:=4) rfl rfl rfl (λd hd=>zjk d (by omega)) vF2 (λus p r hc hp ht=>by
  unfold zpl at hc
  split at hc
  .split at hc
   .rename_i q1 q2;cases hc;rw [zfG q1,zfG q2];exact zzM _ _ _ _ _ _ hp.1 hp.2.1 hp.2.2.1 hp.2.2.2
   .cases hc
  .cases hc) (λ_ _=>rfl) rfl rfl d hd
theorem zuQ {f:D} (h:ztN f):∃g ts ds,f= .fn g ts ds/\g≠218:=by
 rcases h.out with ⟨r,rfl,hr⟩| ⟨n,la,rfl,hn⟩|rfl| ⟨k,rfl,hk⟩
 .exact ⟨_,_,_,rfl,by decide⟩
 .exact ⟨_,_,_,rfl,by decide⟩
 .exact ⟨_,_,_,rfl,by decide⟩
 .exact ⟨_,_,_,rfl,by decide⟩
theorem vT2:∀d,19<=d->VF d zuN:=λd hd=>zcj λf us p r hc hp=>by
 unfold zuN at hc;split at hc
 .split at hc
  .rename_i q1 q2;cases hc;rw [zfG q1,zfG q2]
   rcases hp.1.out with h| ⟨u,c,rfl,hu,hcc⟩
   .have e:∀a b i j,zdh f a b i j=zby f a b i j:=λa b i j=>by
     obtain ⟨g,ts,ds,rfl,hg⟩:=zuQ h
     exact zdD hg a b i j
    rw [e]
    exact zlY (by omega) h hp.2.1 hp.2.2
   .exact ⟨_,_,_,zpl,_,rfl,zyi,zzs d (by omega),(by rw [zg6];rfl),And.intro hu (And.intro hcc hp.2)⟩
  .cases hc
 .cases hc
theorem vF3:∀d,19<=d->∀t c,cF3 t=some c->VF d c:=λd hd t c h=>by
 unfold cF3 at h
 split at h
 .cases h;exact vT2 d hd
 .cases h
theorem zAO:∀d,22<=d->VC d 174 zqG:=λd hd=>
 zaf (C:=zbs cm0 cF3 zaC) (G:=GC) (B:=19) (m:=3) rfl rfl rfl (λd hd=>zjk d (by omega)) vF3 (λus p r hc hp ht=>by
  unfold zqG at hc
  split at hc
  .split at hc
   .rename_i q1 q2;cases hc;rw [zfG q1,zfG q2];exact zBi _ _ _ _ _ _ hp.1 hp.2.1 hp.2.2
   .cases hc
  .cases hc) (λ_ _=>rfl) rfl rfl d hd
theorem vA:∀d,22<=d->VF d zyf:=λd hd=>zcj λf us p r hc hp=>by
 unfold zyf at hc;split at hc
 .split at hc
  .rename_i q1 q2;cases hc;rw [zfG q1,zfG q2]
   obtain ⟨s,t,rfl,ht⟩:=hp.1.out
   exact ⟨_,_,_,zqG,_,rfl,zyE,zAO d (by omega),rfl,ht,hp.2.1,hp.2.2⟩
  .cases hc
 .cases hc
theorem vF4:∀d,22<=d->∀t c,cF4 t=some c->VF d c:=λd hd t c h=>by
 unfold cF4 at h
 split at h
 .cases h;exact vA d hd
 .cases h
open Classical in
theorem v92:∀d,25<=d->VC d 92 zpd:=λd hd us p r hc hp=>by
 have hc0:=hc
 unfold zpd at hc;split at hc
 .rename_i ts q1 q2
  split at hc
  .rename_i a i b j h1 h2
   exact zaf (C:=zbs cm0 cF4 (zh0 (λk=>zoj (el ts k) a b i j))) (G:=GC) (B:=22) (m:=3) (g:=92) (c:=λus=>if us= [.dat 127 ts,q1,q2] then zpd us else none) rfl rfl rfl (λd hd=>zjk d (by omega)) vF4 (λus p r hc hp ht=>by
    split at hc
    .rename_i e;subst e
     unfold zpd at hc
     simp only [h1,h2] at hc
     cases hc
     rw [zfG h1,zfG h2];exact s92 _ _ _ _ _ hp.1.1 hp.1.2 hp.2.1 hp.2.2
    .cases hc) (λ_ _=>rfl) rfl rfl d hd _ p r (by show (if _ then _ else _)=_;rw [if_pos rfl];exact hc0) hp
  .cases hc
 .cases hc
theorem zy5:∀d,11<=d->VC d 143 zmc:=λd hd=>
 zaf (C:=zbs cm0 (λ_=>none) zaC) (G:=GC) (B:=6) (m:=5) rfl rfl rfl zjk (λd _=>vFn d) (λus p r hc hp ht=>by
  unfold zmc at hc
  split at hc
  .cases hc;exact zAR _ _ _ _ _
  .cases hc) (λ_ _=>rfl) rfl rfl d hd
theorem zzk:∀d,9<=d->VC d 142 zmk:=λd hd=>
 zaf (C:=zbs cm0 (λ_=>none) zaC) (G:=GC) (B:=6) (m:=3) rfl rfl rfl zjk (λd _=>vFn d) (λus p r hc hp ht=>by
  unfold zmk at hc
  split at hc
  .cases hc;exact zBc _ _
  .cases hc) (λ_ _=>rfl) rfl rfl d hd
theorem zAe:∀d,25<=d->∀g c,cn0 g=some c->VC d g c:=λd hd g c h=>by
 unfold cn0 at h
 split at h
 .cases h;exact zy5 d (by omega)
 .cases h;exact zzk d (by omega)
 .exact zw4 d (by omega) _ c h
theorem v93:∀d,30<=d->VC d 93 zpX:=λd hd=>
 zaf (C:=ctx cn0 zb0) (G:=GC) (B:=25) (m:=5) rfl rfl rfl zAe (λ_ _ _ _ h=>(zd9 h).elim) (λus p r hc hp ht=>by
  unfold zpX at hc
  split at hc
  .cases hc;exact s93 _ hp
  .cases hc) (λ_ _=>rfl) rfl rfl d hd
theorem v91:∀d,29<=d->VC d 91 zjJ:=λd hd=>
 zaf (C:=ctx cc4 zb0) (G:=GC) (B:=25) (m:=4) rfl rfl rfl zw4 (λ_ _ _ _ h=>(zd9 h).elim) (λus p r hc hp ht=>by
  unfold zjJ at hc
  split at hc
  .cases hc;exact s91 _ hp
  .cases hc) (λ_ _=>rfl) rfl rfl d hd
theorem v63:∀d,29<=d->VC d 63 zjJ:=λd hd=>
 zaf (C:=ctx cc4 zb0) (G:=GC) (B:=25) (m:=4) rfl rfl rfl zw4 (λ_ _ _ _ h=>(zd9 h).elim) (λus p r hc hp ht=>by
  unfold zjJ at hc
  split at hc
  .cases hc;exact s63 _ hp
  .cases hc) (λ_ _=>rfl) rfl rfl d hd
theorem zzI:∀d,6<=d->VC d 153 zql:=λd hd=>
 zaf (C:=ctx (λ_=>none) zb0) (G:=GC) (B:=2) (m:=4) rfl rfl rfl (λd _=>zc4 d) (λ_ _ _ _ h=>(zd9 h).elim) (λus p r hc hp ht=>by
  unfold zql at hc
  split at hc
  .cases hc;exact zA4 _ hp
  .cases hc) (λ_ _=>rfl) rfl rfl d hd
theorem zBg:∀d,12<=d->VC d 157 zrk:=λd hd=>
 zaf (C:=ctx cc1 zb0) (G:=GC) (B:=8) (m:=4) rfl rfl rfl zuu (λ_ _ _ _ h=>(zd9 h).elim) (λus p r hc hp ht=>by
  unfold zrk at hc
  split at hc
  .cases hc;exact zAZ _ _ hp
  .cases hc) (λ_ _=>rfl) rfl rfl d hd
open Classical in
theorem zA7:∀d,12<=d->VC d 205 zkh:=λd hd us p r hc hp=>by
 have hc0:=hc
 unfold zkh at hc;split at hc
 .rename_i k s la nm n q
  split at hc
  .rename_i g h1
   exact zaf (C:=ctx cc1 (zoV nm g.tg)) (G:=GC) (B:=8) (m:=4) (g:=205) (c:=λus=>if us= [.agg [.int .u8 k,.str s,.prop la,.dat 29 nm,.int .i64 n],q] then zkh us else none) rfl rfl rfl zuu (λ_ _ _ _ h=>(zd9 h).elim) (λus p r hc hp ht=>by
    split at hc
    .rename_i e;subst e
     unfold zkh at hc
     simp only [h1] at hc
     cases hc
     rw [ztI h1];exact zAr _ _ _ _ _ _ hp.1 hp.2
    .cases hc) (λ_ _=>rfl) rfl rfl d hd _ p r (by show (if _ then _ else _)=_;rw [if_pos rfl];exact hc0) hp
  .cases hc
 .cases hc
theorem zxb:∀d,30<=d->∀g c,cn1 g=some c->VC d g c:=λd hd g c h=>by
 unfold cn1 at h
 split at h
 .cases h;exact zy5 d (by omega)
 .cases h;exact zzk d (by omega)
 .cases h;exact v93 d (by omega)
 .cases h;exact v92 d (by omega)
 .cases h;exact v91 d (by omega)
 .cases h;exact v63 d (by omega)
 .cases h;exact zzJ d (by omega)
 .cases h;exact zzI d (by omega)
 .cases h;exact zBg d (by omega)
 .cases h;exact zA7 d (by omega)
 .exact zw4 d (by omega) _ c h
theorem zzW:∀d,34<=d->VC d 156 zoR:=λd hd=>
 zaf (C:=ctx cn1 zb0) (G:=GC) (B:=30) (m:=4) rfl rfl rfl zxb (λ_ _ _ _ h=>(zd9 h).elim) (λus p r hc hp ht=>by
  unfold zoR at hc
  split at hc
  .split at hc
   .rename_i q1 q2;cases hc;rw [ztI q1,ztI q2];exact zAz _ _ _ _ _ _ _ _ _ hp.1 hp.2.1 hp.2.2.1 hp.2.2.2
   .cases hc
  .cases hc) (λ_ _=>rfl) rfl rfl d hd
theorem zzj:∀d,34<=d->VC d 116 zmi:=λd hd=>
 zaf (C:=ctx cn1 zb0) (G:=GC) (B:=30) (m:=4) rfl rfl rfl zxb (λ_ _ _ _ h=>(zd9 h).elim) (λus p r hc hp ht=>by
  unfold zmi at hc
  split at hc
  .split at hc
   .rename_i q;cases hc;rw [ztI q];exact zAs _ hp
   .cases hc
  .cases hc) (λ_ _=>rfl) rfl rfl d hd
theorem zza:∀d,34<=d->VC d 125 zmn:=λd hd=>
 zaf (C:=ctx cn1 zb0) (G:=GC) (B:=30) (m:=4) rfl rfl rfl zxb (λ_ _ _ _ h=>(zd9 h).elim) (λus p r hc hp ht=>by
  unfold zmn at hc
  split at hc
  .split at hc
   .rename_i q1 q2;cases hc;rw [ztI q1,ztI q2];exact zAh _ _ hp
   .cases hc
  .cases hc) (λ_ _=>rfl) rfl rfl d hd
theorem v58:∀d,8<=d->VC d 58 zvo:=λd hd=>
 zaf (C:=ctx (λ_=>none) zb0) (G:=GC) (B:=2) (m:=6) rfl rfl rfl (λd _=>zc4 d) (λ_ _ _ _ h=>(zd9 h).elim) (λus p r hc hp ht=>by
  unfold zvo at hc
  split at hc
  .cases hc;exact s58 ⟨_,_,_,_,_,_,_,_,_⟩
  .cases hc) (λ_ _=>rfl) rfl rfl d hd
theorem zzd:∀d,34<=d->∀g c,cn2 g=some c->VC d g c:=λd hd g c h=>by
 unfold cn2 at h
 split at h
 .cases h;exact zzW d (by omega)
 .cases h;exact zzj d (by omega)
 .cases h;exact zza d (by omega)
 .cases h;exact v58 d (by omega)
 .exact zxb d (by omega) _ c h
open Classical in
theorem zAS:∀d,38<=d->VC d 121 zjG:=λd hd us p r hc hp=>by
 have hc0:=hc
 unfold zjG at hc;split at hc
 .rename_i c q1 q2 i j
  split at hc
  .rename_i a b h1 h2
   exact zaf (C:=ctx cn2 (zh0 (clE c a b i j))) (G:=GC) (B:=34) (m:=4) (g:=121) (c:=λus=>if us= [.dat 22 c,q1,q2,.int .i64 i,.int .i64 j] then zjG us else none) rfl rfl rfl zzd (λ_ _ _ _ h=>(zd9 h).elim) (λus p r hc hp ht=>by
    split at hc
    .rename_i e;subst e
     unfold zjG at hc
     simp only [h1,h2] at hc
     cases hc
     rw [ztI h1,ztI h2];exact zAH _ _ _ _ _ hp.1.1 hp.1.2 hp.2.1 hp.2.2
    .cases hc) (λ_ _=>rfl) rfl rfl d hd _ p r (by show (if _ then _ else _)=_;rw [if_pos rfl];exact hc0) hp
  .cases hc
 .cases hc
end
end Go.Ev

end

section
open Go.Proofs
namespace Go.Ev
noncomputable section
set_option maxRecDepth 100000
theorem vc3:∀(c g:D),zac (zbp os5 c g) 3 (3:FuncId) [V.dat (22:TypeId) c,V.dat (23:TypeId) g] (V.prop True)=(True/\(((zkH c->False)->False)->((g.len:Int)<=64->g.len<=64/\(((zfQ g 12->
False)->False)->((70<(g.len:Int)->False)->(zkH c/\tgB g/\(g.len<=64->zfQ g 12))/\(True->(true=true↔True))/\((True->False)->(false=true↔True)))/\(70<(g.len:Int)->(true=true↔True)))/\
((zfQ g 12->False)->(true=true↔True)))/\(((g.len:Int)<=64->False)->((70<(g.len:Int)->False)->(zkH c/\tgB g/\(g.len<=64->zfQ g 12))/\(True->(true=true↔True))/\((True->False)->(false=
true↔True)))/\(70<(g.len:Int)->(true=true↔True))))/\((zkH c->False)->(true=true↔True))):=by intros;kernel_rfl
theorem s3o (c g:D) (h:tgC g):zac (zbp os5 c g) 3 3 [.dat 22 c,.dat 23 g] (.prop True):=by
 rw [vc3]
 have e1:(true=true↔True):=⟨λ_=>trivial,λ_=>rfl⟩
 have fin:(True->(true=true↔True))/\((True->False)->(false=true↔True)):=⟨λ_=>e1,λk=>(k trivial).elim⟩
 have hB:((70:Int)<g.len->False)->tgB g:=λk=>⟨by have k:¬(70:Int)<g.len:=k;omega,h.out⟩
 refine ⟨trivial,λhc=>⟨λhl=>⟨by omega,λhg=>⟨λh70=>⟨⟨Classical.byContradiction hc,hB h70,λ_=>Classical.byContradiction hg⟩,fin⟩,λ_=>e1⟩,λ_=>e1⟩,λhl=>⟨λh70=>⟨⟨Classical.byContradiction hc,hB h70,λk=>(hl (by omega)).elim⟩,fin⟩,λ_=>e1⟩⟩,λ_=>e1⟩
theorem zzc:∀d,25<=d->VC d 92 zoF:=λd hd=>v92 d hd
theorem zzR (d:Nat):VC d 242 zp0:=by
 intro us p r hc hp
 unfold zp0 at hc
 split at hc
 .cases hc;exact hp.elim
 .cases hc
theorem zzl:∀d,30<=d->∀g c,or0 g=some c->VC d g c:=λd hd g c h=>by
 unfold or0 at h
 split at h
 .cases h;exact v93 d (by omega)
 .cases h;exact zzc d (by omega)
 .cases h;exact zzR d
 .cases h
theorem v97:∀d,5<=d->VC d 97 zuw:=λd hd=>
 zae (C:=zpN (λ_=>none) .nil .nil) (G:=GC) (B:=2) (m:=3) rfl rfl rfl (λd _=>zc4 d) (λus p r hc hp ht=>by
  unfold zuw at hc;split at hc
  .cases hc;exact s97 _ hp
  .cases hc) (λ_ _=>rfl) rfl rfl d hd
theorem zuI {c l:D} (h:l.len=0):grD c l= .nil:=by unfold grD;rw [h];rfl
open Classical in
theorem v96:∀d,37<=d->VC d 96 zkn:=λd hd us p r hc hp=>by
 have hc0:=hc
 unfold zkn at hc;split at hc
 .rename_i c l
  by_cases q:l.len=0
  .exact zae (C:=zxh or0) (G:=GC) (B:=30) (m:=7) (g:=96) (c:=λus=>if us= [.dat 22 c,.dat 130 l] then zkn us else none) rfl rfl rfl zzl (λus p r hc hp ht=>by
    split at hc
    .rename_i e;subst e;cases hc;rw [zuI q];exact zAq _ _ hp.1.1 q
    .cases hc) (λ_ _=>rfl) rfl rfl d hd _ p r (by show (if _ then _ else _)=_;rw [if_pos rfl];exact hc0) hp
  .exact zae (C:=zpN or0 c l) (G:=GC) (B:=30) (m:=7) (g:=96) (c:=λus=>if us= [.dat 22 c,.dat 130 l] then zkn us else none) rfl rfl rfl zzl (λus p r hc hp ht=>by
    split at hc
    .rename_i e;subst e;cases hc;exact s96 _ _ hp.1.1 hp.1.2 (by omega) hp.2.1 hp.2.2
    .cases hc) (λ_ _=>rfl) rfl rfl d hd _ p r (by show (if _ then _ else _)=_;rw [if_pos rfl];exact hc0) hp
 .cases hc
theorem zAN:∀d,6<=d->VC d 147 zom:=λd hd=>
 zae (C:=zbp (λ_=>none) .nil .nil) (G:=GC) (B:=2) (m:=4) rfl rfl rfl (λd _=>zc4 d) (λus p r hc hp ht=>by
  unfold zom at hc;split at hc
  .cases hc;exact zBk _ hp
  .cases hc) (λ_ _=>rfl) rfl rfl d hd
theorem zto:∀d,38<=d->∀g c,os0 g=some c->VC d g c:=λd hd g c h=>by
 unfold os0 at h
 split at h
 .cases h;exact v96 d (by omega)
 .cases h;exact v97 d (by omega)
 .cases h;exact zAN d (by omega)
 .cases h;exact zAS d (by omega)
 .cases h;exact zzc d (by omega)
 .cases h;exact v93 d (by omega)
 .cases h;exact v98 d (by omega)
 .cases h;exact zzi d (by omega)
 .cases h;exact v91 d (by omega)
 .cases h;exact v63 d (by omega)
 .cases h;exact zzj d (by omega)
 .cases h;exact zza d (by omega)
 .cases h
theorem v99:∀d,41<=d->VC d 99 zur:=λd hd=>
 zae (C:=zbp os0 .nil .nil) (G:=GC) (B:=38) (m:=3) rfl rfl rfl zto (λus p r hc hp ht=>by
  unfold zur at hc;split at hc
  .cases hc;exact s99 _ _ hp
  .cases hc) (λ_ _=>rfl) rfl rfl d hd
theorem v34:∀d,42<=d->VC d 34 zvr:=λd hd=>
 zae (C:=zbp os0 .nil .nil) (G:=GC) (B:=38) (m:=4) rfl rfl rfl zto (λus p r hc hp ht=>by
  unfold zvr at hc;split at hc
  .cases hc;exact s34 _ _ hp
  .cases hc) (λ_ _=>rfl) rfl rfl d hd
open Classical in
theorem zA2:∀d,41<=d->VC d 155 zl1:=λd hd us p r hc hp=>by
 have hc0:=hc
 unfold zl1 at hc;split at hc
 .rename_i c g x y
  exact zae (C:=zbp os0 c g) (G:=GC) (B:=38) (m:=3) (g:=155) (c:=λus=>if us= [.dat 22 c,.dat 23 g,.int .i64 x,.int .i64 y] then zl1 us else none) rfl rfl rfl zto (λus p r hc hp ht=>by
   split at hc
   .rename_i e;subst e;cases hc;exact zzK _ _ _ _ hp.1 hp.2.1 hp.2.2
   .cases hc) (λ_ _=>rfl) rfl rfl d hd _ p r (by show (if _ then _ else _)=_;rw [if_pos rfl];exact hc0) hp
 .cases hc
theorem zBl:∀d,5<=d->VC d 120 zrq:=λd hd=>
 zae (C:=zbp (λ_=>none) .nil .nil) (G:=GC) (B:=2) (m:=3) rfl rfl rfl (λd _=>zc4 d) (λus p r hc hp ht=>by
  unfold zrq at hc;split at hc
  .cases hc;exact zzC _ hp
  .cases hc) (λ_ _=>rfl) rfl rfl d hd
theorem zz3:∀d,5<=d->VC d 118 zqc:=λd hd=>
 zae (C:=zbp (λ_=>none) .nil .nil) (G:=GC) (B:=2) (m:=3) rfl rfl rfl (λd _=>zc4 d) (λus p r hc hp ht=>by
  unfold zqc at hc;split at hc
  .cases hc;exact zAj _ hp
  .cases hc) (λ_ _=>rfl) rfl rfl d hd
theorem v28:∀d,5<=d->VC d 28 znz:=λd hd=>
 zae (C:=zbp (λ_=>none) .nil .nil) (G:=GC) (B:=2) (m:=3) rfl rfl rfl (λd _=>zc4 d) (λus p r hc hp ht=>by
  unfold znz at hc;split at hc
  .cases hc;exact s28 _ _ hp
  .cases hc) (λ_ _=>rfl) rfl rfl d hd
theorem zzX:∀d,5<=d->VC d 122 znz:=λd hd=>
 zae (C:=zbp (λ_=>none) .nil .nil) (G:=GC) (B:=2) (m:=3) rfl rfl rfl (λd _=>zc4 d) (λus p r hc hp ht=>by
  unfold znz at hc;split at hc
  .cases hc;exact zA8 _ _ hp
  .cases hc) (λ_ _=>rfl) rfl rfl d hd
theorem zwU:∀d,42<=d->∀g c,os1 g=some c->VC d g c:=λd hd g c h=>by
 unfold os1 at h
 split at h
 .cases h;exact v99 d (by omega)
 .cases h;exact v34 d (by omega)
 .cases h;exact zA2 d (by omega)
 .cases h;exact zBl d (by omega)
 .cases h;exact zz3 d (by omega)
 .cases h;exact v28 d (by omega)
 .cases h;exact zzX d (by omega)
 .exact zto d (by omega) _ c h
open Classical in
theorem zAt:∀d,46<=d->VC d 119 zlT:=λd hd us p r hc hp=>by
 have hc0:=hc
 unfold zlT at hc;split at hc
 .rename_i c g e
  exact zae (C:=zbp os1 c g) (G:=GC) (B:=42) (m:=4) (g:=119) (c:=λus=>if us= [.dat 22 c,.dat 23 g,.dat 34 e] then zlT us else none) rfl rfl rfl zwU (λus p r hc hp ht=>by
   split at hc
   .rename_i e;subst e;cases hc;exact zAo _ _ _ hp.1 hp.2.1 hp.2.2
   .cases hc) (λ_ _=>rfl) rfl rfl d hd _ p r (by show (if _ then _ else _)=_;rw [if_pos rfl];exact hc0) hp
 .cases hc
theorem zy6:∀d,46<=d->∀g c,os2 g=some c->VC d g c:=λd hd g c h=>by
 unfold os2 at h
 split at h
 .cases h;exact zAt d (by omega)
 .exact zwU d (by omega) _ c h
open Classical in
theorem v64:∀d,49<=d->VC d 64 zsc:=λd hd us p r hc hp=>by
 have hc0:=hc
 unfold zsc at hc;split at hc
 .rename_i c g
  exact zae (C:=zbp os2 c g) (G:=GC) (B:=46) (m:=3) (g:=64) (c:=λus=>if us= [.dat 22 c,.dat 23 g] then zsc us else none) rfl rfl rfl zy6 (λus p r hc hp ht=>by
   split at hc
   .rename_i e;subst e;cases hc;exact s64 _ _ hp.1 hp.2.1 hp.2.2
   .cases hc) (λ_ _=>rfl) rfl rfl d hd _ p r (by show (if _ then _ else _)=_;rw [if_pos rfl];exact hc0) hp
 .cases hc
theorem zy7:∀d,49<=d->∀g c,os3 g=some c->VC d g c:=λd hd g c h=>by
 unfold os3 at h
 split at h
 .cases h;exact v64 d (by omega)
 .exact zy6 d (by omega) _ c h
theorem v36:∀d,45<=d->VC d 36 zut:=λd hd=>
 zae (C:=zbp os1 .nil .nil) (G:=GC) (B:=42) (m:=3) rfl rfl rfl zwU (λus p r hc hp ht=>by
  unfold zut at hc;split at hc
  .cases hc;exact s36 _ _ hp
  .cases hc) (λ_ _=>rfl) rfl rfl d hd
open Classical in
theorem v35:∀d,46<=d->VC d 35 zsH:=λd hd us p r hc hp=>by
 have hc0:=hc
 unfold zsH at hc;split at hc
 .rename_i c g
  exact zae (C:=zbp os1 c g) (G:=GC) (B:=42) (m:=4) (g:=35) (c:=λus=>if us= [.dat 22 c,.dat 23 g] then zsH us else none) rfl rfl rfl zwU (λus p r hc hp ht=>by
   split at hc
   .rename_i e;subst e;cases hc;exact s35 _ _ hp
   .cases hc) (λ_ _=>rfl) rfl rfl d hd _ p r (by show (if _ then _ else _)=_;rw [if_pos rfl];exact hc0) hp
 .cases hc
open Classical in
theorem v68:∀d,42<=d->VC d 68 zr6:=λd hd us p r hc hp=>by
 have hc0:=hc
 unfold zr6 at hc;split at hc
 .rename_i c g
  exact zae (C:=zbp os0 c g) (G:=GC) (B:=38) (m:=4) (g:=68) (c:=λus=>if us= [.dat 22 c,.dat 23 g] then zr6 us else none) rfl rfl rfl zto (λus p r hc hp ht=>by
   split at hc
   .rename_i e;subst e;cases hc;exact s68 _ _ hp
   .cases hc) (λ_ _=>rfl) rfl rfl d hd _ p r (by show (if _ then _ else _)=_;rw [if_pos rfl];exact hc0) hp
 .cases hc
open Classical in
theorem v62:∀d,52<=d->VC d 62 zrZ:=λd hd us p r hc hp=>by
 have hc0:=hc
 unfold zrZ at hc;split at hc
 .rename_i c g
  exact zae (C:=zbp os3 c g) (G:=GC) (B:=49) (m:=3) (g:=62) (c:=λus=>if us= [.dat 22 c,.dat 23 g] then zrZ us else none) rfl rfl rfl zy7 (λus p r hc hp ht=>by
   split at hc
   .rename_i e;subst e;cases hc;exact s62 _ _ hp
   .cases hc) (λ_ _=>rfl) rfl rfl d hd _ p r (by show (if _ then _ else _)=_;rw [if_pos rfl];exact hc0) hp
 .cases hc
theorem v66:∀d,6<=d->VC d 66 zuf:=λd hd=>
 zae (C:=zbp (λ_=>none) .nil .nil) (G:=GC) (B:=2) (m:=4) rfl rfl rfl (λd _=>zc4 d) (λus p r hc hp ht=>by
  unfold zuf at hc;split at hc
  .cases hc;exact s66 _ _ hp.1 hp.2
  .cases hc) (λ_ _=>rfl) rfl rfl d hd
open Classical in
theorem v65:∀d,41<=d->VC d 65 zsm:=λd hd us p r hc hp=>by
 have hc0:=hc
 unfold zsm at hc;split at hc
 .rename_i c g
  exact zae (C:=zbp os0 c g) (G:=GC) (B:=38) (m:=3) (g:=65) (c:=λus=>if us= [.dat 22 c,.dat 23 g] then zsm us else none) rfl rfl rfl zto (λus p r hc hp ht=>by
   split at hc
   .rename_i e;subst e;cases hc;exact s65 _ _ hp.1 hp.2.1 hp.2.2
   .cases hc) (λ_ _=>rfl) rfl rfl d hd _ p r (by show (if _ then _ else _)=_;rw [if_pos rfl];exact hc0) hp
 .cases hc
theorem v61:∀d,41<=d->VC d 61 zum:=λd hd=>
 zae (C:=zbp os0 .nil .nil) (G:=GC) (B:=38) (m:=3) rfl rfl rfl zto (λus p r hc hp ht=>by
  unfold zum at hc;split at hc
  .cases hc;exact s61 _ hp
  .cases hc) (λ_ _=>rfl) rfl rfl d hd
theorem v70:∀d,41<=d->VC d 70 zuy:=λd hd=>
 zae (C:=zbp os0 .nil .nil) (G:=GC) (B:=38) (m:=3) rfl rfl rfl zto (λus p r hc hp ht=>by
  unfold zuy at hc;split at hc
  .cases hc;exact s70 _ _ hp
  .cases hc) (λ_ _=>rfl) rfl rfl d hd
theorem v67:∀d,45<=d->VC d 67 zuJ:=λd hd=>
 zae (C:=zbp os1 .nil .nil) (G:=GC) (B:=42) (m:=3) rfl rfl rfl zwU (λus p r hc hp ht=>by
  unfold zuJ at hc;split at hc
  .cases hc;exact s67 _ _ hp
  .cases hc) (λ_ _=>rfl) rfl rfl d hd
theorem zAP:∀d,52<=d->∀g c,os4 g=some c->VC d g c:=λd hd g c h=>by
 unfold os4 at h
 split at h
 .cases h;exact v36 d (by omega)
 .cases h;exact v35 d (by omega)
 .cases h;exact v68 d (by omega)
 .cases h;exact v62 d (by omega)
 .cases h;exact v66 d (by omega)
 .cases h;exact v65 d (by omega)
 .cases h;exact v61 d (by omega)
 .cases h;exact v70 d (by omega)
 .cases h;exact v67 d (by omega)
 .cases h;exact v60 d (by omega)
 .cases h;exact v69 d (by omega)
 .exact zy7 d (by omega) _ c h
open Classical in
theorem v17:∀d,55<=d->VC d 17 zsP:=λd hd us p r hc hp=>by
 have hc0:=hc
 unfold zsP at hc;split at hc
 .rename_i c g
  exact zae (C:=zbp os4 c g) (G:=GC) (B:=52) (m:=3) (g:=17) (c:=λus=>if us= [.dat 22 c,.dat 23 g] then zsP us else none) rfl rfl rfl zAP (λus p r hc hp ht=>by
   split at hc
   .rename_i e;subst e;cases hc;exact s17 _ _ hp.1 hp.2.1 hp.2.2
   .cases hc) (λ_ _=>rfl) rfl rfl d hd _ p r (by show (if _ then _ else _)=_;rw [if_pos rfl];exact hc0) hp
 .cases hc
theorem v16:∀d,40<=d->VC d 16 zpv:=λd hd=>
 zae (C:=zbp cn2 .nil .nil) (G:=GC) (B:=34) (m:=6) rfl rfl rfl zzd (λus p r hc hp ht=>by
  unfold zpv at hc;split at hc
  .cases hc;exact zAk _ _ (by omega)
  .cases hc) (λ_ _=>rfl) rfl rfl d hd
theorem zzD:∀d,55<=d->∀g c,os5 g=some c->VC d g c:=λd hd g c h=>by
 unfold os5 at h
 split at h
 .cases h;exact v7 d (by omega)
 .cases h;exact zpp (v16 d (by omega))
 .cases h;exact v17 d (by omega)
 .cases h
open Classical in
theorem v3:∀d,58<=d->VC d 3 zvQ:=λd hd us p r hc hp=>by
 have hc0:=hc
 unfold zvQ at hc;split at hc
 .rename_i c g
  exact zae (C:=zbp os5 c g) (G:=GC) (B:=55) (m:=3) (g:=3) (c:=λus=>if us= [.dat 22 c,.dat 23 g] then zvQ us else none) rfl rfl rfl zzD (λus p r hc hp ht=>by
   split at hc
   .rename_i e;subst e;cases hc;exact s3o _ _ hp
   .cases hc) (λ_ _=>rfl) rfl rfl d hd _ p r (by show (if _ then _ else _)=_;rw [if_pos rfl];exact hc0) hp
 .cases hc
theorem zx5 {d:D} (h:okD Tryz.prog 19 53 d):(gAt d).tg.len<=8796093022208:=by
 unfold okD at h;rw [Tryz.underlying53] at h
 obtain ⟨ds,rfl,hl,hf⟩:=h
 have hl:ds.length=9:=hl
 obtain ⟨x,hx⟩:∃x,ds[8]? =some x:=⟨ds[8],List.getElem?_eq_getElem _⟩
 have k:okD Tryz.prog 18 29 x:=hf 8 _ x rfl hx
 unfold okD at k;rw [Tryz.underlying29] at k
 have e:(gAt (.sct ds)).tg=x:=by show zai ds 8=x;unfold zai;rw [hx];rfl
 rw [e]
 rcases k with rfl| ⟨l,rfl,⟨_,hb⟩,_⟩
 .exact Nat.zero_le _
 .have e16:Tryz.prog.bytesOf 9=16:=by kernel_rfl
  rw [e16] at hb
  show l.length<=_;unfold reachBytes at hb;omega
theorem zyX {d:D} (h:okD Tryz.prog 20 23 d):tgC d:=⟨λi hi=>by
 unfold okD at h;rw [Tryz.underlying23] at h
 rcases h with rfl| ⟨l,rfl,_,h⟩
 .exact absurd hi (Nat.not_lt_zero _)
 .have hi:i<l.length:=hi
  refine zx5 (h i _ ?_)
  show l[i]? =some (zai l i)
  exact zbX hi⟩
end
end Go.Ev

end

section
open Go.Proofs Go.Proofs.YtdojhafbgoimeaaGreatDoor
namespace Go.Ev
noncomputable section
open Go.ChangeShapes Go.WideShapes Go.ChangeAt Go.RowKit
theorem zsb {P:Program} {w:World} {n e:Nat} {k:IntKind} {t:TypeId} {fuel:Nat} {cs:List Value} {zs:List Int} {p:List MemPlace} {enc:TypeId×Value->Unit} {base:Nat} {sp:Nat->Bool} {held:Bool}
  (ht:P.underlying t=some (.array n e)) (he:P.underlying e=some (.int k)) (hc1:P.cellsOf e=1) (hct:P.cellsOf t=n)
  (h:DataW.trod enc P w base sp held fuel t cs=some (.agg (zs.map λz=> .lit (.int k z)),p)):cs=zs.map (Value.int k):=by
 obtain ⟨xs,m,_,ex,hlen,hxl,hel⟩:=DataW.trod_array ht h
 have e3:(zs.map λz=>(DataW.lit (.int k z):DataW Unit))=xs.map (·.1):=DataW.agg.inj (Prod.mk.inj ex).1
 have hzl:zs.length=n:=by have:=congrArg List.length e3;simp at this;omega
 rw [hct] at hlen
 refine List.ext_getElem? λi=> ?_
 by_cases hi:i<n
 .have k0:=hel i hi
  rw [hc1,Nat.mul_one,List.getElem?_eq_getElem (by omega:i<xs.length)] at k0
  obtain ⟨z,e1,e2,_⟩:=DataW.trod_int he k0
  have h0:((cs.drop i).take 1)[0]? =some (.int k z):=by rw [e1];rfl
  have h1:cs[i]? =some (.int k z):=by simpa using h0
  have h2:(zs.map λz=>(DataW.lit (.int k z):DataW Unit))[i]? =(xs.map (·.1))[i]? :=by rw [e3]
  rw [List.getElem?_map,List.getElem?_map,List.getElem?_eq_getElem (by omega:i<zs.length),List.getElem?_eq_getElem (by omega:i<xs.length),e2] at h2
  simp only [Option.map_some,Option.some.injEq,DataW.lit.injEq,Lit.int.injEq,true_and] at h2
  rw [h1,List.getElem?_map,List.getElem?_eq_getElem (by omega:i<zs.length),Option.map_some,h2]
 .rw [List.getElem?_eq_none (by omega),List.getElem?_eq_none (by simp;omega)]
theorem zs3 {s:ByteArray} {l:List UInt8} (h:s.data.toList=l):s=⟨⟨l⟩⟩:=by subst h;rfl
theorem znV {P:Program} {w:World} {t ts ti tb:TypeId} {fuel:Nat} {c:List Value} {s:List UInt8} {a b:Int} {x y z:Bool} {p:List MemPlace} {enc:TypeId×Value->Unit} {base:Nat} {sp:Nat->Bool} {held:Bool} {fs:Array Field} {f0 f1 f2 f3 f4 f5:Field}
  (ht:P.underlying t=some (.struct fs)) (hf:fs= #[f0,f1,f2,f3,f4,f5]) (ho:f0.offset=0/\f1.offset=1/\f2.offset=2/\f3.offset=3/\f4.offset=4/\f5.offset=5)
  (hty:f0.type=ts/\f1.type=ti/\f2.type=ti/\f3.type=tb/\f4.type=tb/\f5.type=tb) (hs:P.underlying ts=some .string) (hi:P.underlying ti=some (.int .i64)) (hb:P.underlying tb=some .bool)
  (hc:P.cellsOf ts=1/\P.cellsOf ti=1/\P.cellsOf tb=1/\P.cellsOf t=6)
  (h:DataW.trod enc P w base sp held fuel t c=some (.agg [.lit (.string s),.lit (.int .i64 a),.lit (.int .i64 b),.lit (.bool x),.lit (.bool y),.lit (.bool z)],p)):
  c= [.string ⟨⟨s⟩⟩,.int .i64 a,.int .i64 b,.bool x,.bool y,.bool z]:=by
 obtain ⟨xs,m,_,ex,hlen,hxl,hel⟩:=DataW.trod_struct ht h
 subst hf
 rw [hc.2.2.2] at hlen
 have hxl:xs.length=6:=hxl
 match xs,hxl with
 | [x0,x1,x2,x3,x4,x5],_=>
  have e3:=DataW.agg.inj (Prod.mk.inj ex).1
  simp only [List.map_cons,List.map_nil,List.cons.injEq,and_true] at e3
  obtain ⟨g0,g1,g2,g3,g4,g5⟩:=e3
  match c,hlen with
  | [c0,c1,c2,c3,c4,c5],_=>
   have k0:=hel 0 f0 rfl
   have k1:=hel 1 f1 rfl
   have k2:=hel 2 f2 rfl
   have k3:=hel 3 f3 rfl
   have k4:=hel 4 f4 rfl
   have k5:=hel 5 f5 rfl
   rw [ho.1,hty.1,hc.1] at k0
   rw [ho.2.1,hty.2.1,hc.2.1] at k1
   rw [ho.2.2.1,hty.2.2.1,hc.2.1] at k2
   rw [ho.2.2.2.1,hty.2.2.2.1,hc.2.2.1] at k3
   rw [ho.2.2.2.2.1,hty.2.2.2.2.1,hc.2.2.1] at k4
   rw [ho.2.2.2.2.2,hty.2.2.2.2.2,hc.2.2.1] at k5
   obtain ⟨v0,d0,q0,_⟩:=DataW.trod_string hs k0
   obtain ⟨v1,d1,q1,_⟩:=DataW.trod_int hi k1
   obtain ⟨v2,d2,q2,_⟩:=DataW.trod_int hi k2
   obtain ⟨v3,d3,q3⟩:=DataW.trod_bool hb k3
   obtain ⟨v4,d4,q4⟩:=DataW.trod_bool hb k4
   obtain ⟨v5,d5,q5⟩:=DataW.trod_bool hb k5
   have d0:c0= .string v0:=(List.cons.inj d0).1
   have d1:c1= .int .i64 v1:=(List.cons.inj d1).1
   have d2:c2= .int .i64 v2:=(List.cons.inj d2).1
   have d3:c3= .bool v3:=(List.cons.inj d3).1
   have d4:c4= .bool v4:=(List.cons.inj d4).1
   have d5:c5= .bool v5:=(List.cons.inj d5).1
   subst q0 q1 q2 q3 q4 q5
   have r0:=Lit.string.inj (DataW.lit.inj g0)
   have r1:=(Lit.int.inj (DataW.lit.inj g1)).2
   have r2:=(Lit.int.inj (DataW.lit.inj g2)).2
   have r3:=Lit.bool.inj (DataW.lit.inj g3)
   have r4:=Lit.bool.inj (DataW.lit.inj g4)
   have r5:=Lit.bool.inj (DataW.lit.inj g5)
   subst r1 r2 r3 r4 r5
   rw [d0,d1,d2,d3,d4,d5,zs3 r0.symm]
theorem zmL {α:Type} {k:Nat}:∀(n:Nat) {a b:List α},a.length=n*k->b.length=n*k->(∀i,i<n->(a.drop (i*k)).take k=(b.drop (i*k)).take k)->a=b
 |0,a,b,ha,hb,_=>by rw [List.eq_nil_of_length_eq_zero (by omega:a.length=0),List.eq_nil_of_length_eq_zero (by omega:b.length=0)]
 |n+1,a,b,ha,hb,h=>by
  have h0:=h 0 (by omega)
  rw [Nat.zero_mul,List.drop_zero,List.drop_zero] at h0
  have ha':a.length=n*k+k:=by rw [ha,Nat.succ_mul]
  have hb':b.length=n*k+k:=by rw [hb,Nat.succ_mul]
  have h1:a.drop k=b.drop k:=zmL (k:=k) n (by rw [List.length_drop];omega) (by rw [List.length_drop];omega) λi hi=>by
   have:=h (i+1) (by omega)
   rw [List.drop_drop,List.drop_drop]
   rw [Nat.succ_mul,Nat.add_comm] at this
   exact this
  rw [<-List.take_append_drop k a,<-List.take_append_drop k b,h0,h1]
def ztP:List Int:= [1,10,100,1000,10000,100000,1000000,10000000,100000000,1000000000,10000000000,100000000000,1000000000000,10000000000000,100000000000000,1000000000000000,10000000000000000,100000000000000000,1000000000000000000,10000000000000000000]
abbrev zuT:List (String×DataW Unit):=Rows.courtOrdersRow.laid
theorem zsh {W:World} (h:laidMetH Tryz.prog zuT W):∃cs,W.var? Tryz.prog "internal/strconv.uint64pow10" =some cs/\cs.toList=ztK:=by
 rw [MakeChecks.laidMetH_plain _ _ _ (by kernel_rfl)] at h
 obtain ⟨ps,hl,_,_⟩:=h
 obtain ⟨_,_,_,_,_,_,_,_,_,_,hl,_⟩:=hl
 obtain ⟨_,_,_,_,_,_,_,_,_,_,hl,_⟩:=hl
 obtain ⟨g,t,cs,fuel,p,q,hg,ht,hv,hd,_,_⟩:=hl
 obtain rfl:=Option.some.inj ((show Tryz.prog.globalNamed "internal/strconv.uint64pow10" =some 6 by kernel_rfl).symm.trans hg)
 obtain rfl:=Option.some.inj ((show (Tryz.prog.globals[6]?).map (·.type)=some 270 by kernel_rfl).symm.trans ht)
 refine ⟨cs,hv, ?_⟩
 have e:(Rows.laid_internal_strconv_uint64pow10:DataW Unit)= .agg (ztP.map λz=> .lit (.int .u64 z)):=by kernel_rfl
 rw [e] at hd
 exact zsb (zs:=ztP) (n:=20) (e:=254) Tryz.underlying270 Tryz.underlying254 (by kernel_rfl) (by kernel_rfl) hd
theorem znQ {W:World} (h:laidMetH Tryz.prog zuT W):∃cs,W.var? Tryz.prog "trestle/court.forms" =some cs/\cs.toList=ztL:=by
 rw [MakeChecks.laidMetH_plain _ _ _ (by kernel_rfl)] at h
 obtain ⟨ps,hl,_,_⟩:=h
 obtain ⟨_,_,_,_,_,_,_,_,_,_,hl,_⟩:=hl
 obtain ⟨_,_,_,_,_,_,_,_,_,_,hl,_⟩:=hl
 obtain ⟨_,_,_,_,_,_,_,_,_,_,hl,_⟩:=hl
 obtain ⟨_,_,_,_,_,_,_,_,_,_,hl,_⟩:=hl
 obtain ⟨_,_,_,_,_,_,_,_,_,_,hl,_⟩:=hl
 obtain ⟨_,_,_,_,_,_,_,_,_,_,hl,_⟩:=hl
 obtain ⟨g,t,cs,fuel,p,q,hg,ht,hv,hd,_,_⟩:=hl
 obtain rfl:=Option.some.inj ((show Tryz.prog.globalNamed "trestle/court.forms" =some 0 by kernel_rfl).symm.trans hg)
 obtain rfl:=Option.some.inj ((show (Tryz.prog.globals[0]?).map (·.type)=some 196 by kernel_rfl).symm.trans ht)
 refine ⟨cs,hv, ?_⟩
 obtain ⟨xs,m,_,ex,hlen,hxl,hel⟩:=DataW.trod_array Tryz.underlying196 hd
 have hc6:Tryz.prog.cellsOf 195=6:=by kernel_rfl
 rw [show Tryz.prog.cellsOf 196=66 by kernel_rfl] at hlen
 rw [hc6] at hel
 match xs,hxl with
 | [x0,x1,x2,x3,x4,x5,x6,x7,x8,x9,x10],_=>
  have e3:=DataW.agg.inj (Prod.mk.inj ex).1
  simp only [List.map_cons,List.map_nil,List.cons.injEq,and_true] at e3
  obtain ⟨g0,g1,g2,g3,g4,g5,g6,g7,g8,g9,g10⟩:=e3
  have one:∀{c:List Value} {x:DataW Unit×List MemPlace} {s:List UInt8} {a b:Int} {u v z:Bool},DataW.trod (λ_=>()) Tryz.prog W 0 (λ_=>true) false m 195 c=some x->DataW.agg [.lit (.string s),.lit (.int .i64 a),.lit (.int .i64 b),.lit (.bool u),.lit (.bool v),.lit (.bool z)]=x.1->c= [.string ⟨⟨s⟩⟩,.int .i64 a,.int .i64 b,.bool u,.bool v,.bool z]:=λ{c x s a b u v z} h1 h2=>by
   obtain ⟨x1,x2⟩:=x
   cases h2
   exact znV Tryz.underlying195 rfl ⟨rfl,rfl,rfl,rfl,rfl,rfl⟩ ⟨rfl,rfl,rfl,rfl,rfl,rfl⟩ Tryz.underlying9 Tryz.underlying3 Tryz.underlying4 ⟨by kernel_rfl,by kernel_rfl,by kernel_rfl,hc6⟩ h1
  refine zmL (k:=6) 11 hlen (by rfl) λi hi=> ?_
  match i,hi with
  |0,h=>exact one (hel 0 h) g0
  |1,h=>exact one (hel 1 h) g1
  |2,h=>exact one (hel 2 h) g2
  |3,h=>exact one (hel 3 h) g3
  |4,h=>exact one (hel 4 h) g4
  |5,h=>exact one (hel 5 h) g5
  |6,h=>exact one (hel 6 h) g6
  |7,h=>exact one (hel 7 h) g7
  |8,h=>exact one (hel 8 h) g8
  |9,h=>exact one (hel 9 h) g9
  |10,h=>exact one (hel 10 h) g10
theorem zqe {W:World} (hsh:W.ShapedOpen Tryz.prog) {g e:Nat} {n:String} {cs:Array Value} (hg:Tryz.prog.globalNamed n=some g) (hlt:g<Tryz.prog.globals.size)
  (ht:(((begin Tryz.prog (λ_ _=>0) default).world.heap[g]?).bind Obj.row?).map (·.2)=some e) (hv:W.var? Tryz.prog n=some cs):∃arr fz,W.heap[g]? =some (.cells arr e fz)/\arr.toList=cs.toList:=by
 cases hr:((begin Tryz.prog (λ_ _=>0) default).world.heap[g]?).bind Obj.row? with
 |none=>rw [hr] at ht;cases ht
 |some y=>
  obtain ⟨zero,t⟩:=y
  rw [hr] at ht
  simp only [Option.map_some,Option.some.injEq] at ht
  subst ht
  obtain ⟨cs',h1,_,_⟩:=hsh.1 g zero _ hlt hr
  refine ⟨cs',_,h1, ?_⟩
  have:W.var? Tryz.prog n=some cs':=by
   unfold World.var?
   rw [hg]
   simp only [Option.bind_some,h1]
  rw [hv] at this
  rw [Option.some.inj this]
theorem laidG_of {W:World} (hsh:W.ShapedOpen Tryz.prog) (h:laidMetH Tryz.prog zuT W):LaidG W:=λx hx=>by
 rcases List.mem_cons.1 hx with hx|hx
 .subst hx
  refine ⟨by show 0<9;omega,by kernel_rfl, ?_⟩
  obtain ⟨cs,hv,hc⟩:=znQ h
  obtain ⟨arr,fz,h1,h2⟩:=zqe hsh (e:=196) (show Tryz.prog.globalNamed "trestle/court.forms" =some 0 by kernel_rfl) (Nat.le_of_ble_eq_true (by kernel_rfl)) (by kernel_rfl) hv
  exact ⟨arr,fz,h1,h2.trans hc⟩
 .have hx:=List.mem_singleton.1 hx
  subst hx
  refine ⟨by show 6<9;omega,by kernel_rfl, ?_⟩
  obtain ⟨cs,hv,hc⟩:=zsh h
  obtain ⟨arr,fz,h1,h2⟩:=zqe hsh (e:=270) (show Tryz.prog.globalNamed "internal/strconv.uint64pow10" =some 6 by kernel_rfl) (Nat.le_of_ble_eq_true (by kernel_rfl)) (by kernel_rfl) hv
  exact ⟨arr,fz,h1,h2.trans hc⟩
end
end Go.Ev

end
