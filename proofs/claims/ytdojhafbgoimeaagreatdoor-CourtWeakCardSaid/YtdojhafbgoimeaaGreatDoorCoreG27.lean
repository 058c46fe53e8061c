/- Part of the proof. -/
import Derived.Test.YtdojhafbgoimeaaGreatDoorCoreG24
import Derived.Test.YtdojhafbgoimeaaGreatDoorCoreAwake
import Derived.Test.YtdojhafbgoimeaaGreatDoorCoreG25
import Derived.Test.YtdojhafbgoimeaaGreatDoorCoreSeF
import Derived.Test.YtdojhafbgoimeaaGreatDoorCoreG22
import Derived.Test.YtdojhafbgoimeaaGreatDoorCoreKit

section
open Go.Proofs
namespace Go.Ev
noncomputable section
set_option maxRecDepth 100000
def GC:Msk:={bits:=GB,fast:=false,ora:=λg=>cond (Nat.beq g 18) (some (.bool true)) none}
abbrev VC (d:Nat) (g:FuncId) (c:Con):Prop:=zei Tryz.prog GC (ev Tryz.prog GC d) g c
theorem zdC (d:Nat):∀g c,(λ_:FuncId=>(none:Option Con)) g=some c->VC d g c:=λ_ _ h=>by cases h
theorem zvM:∀d,5<=d->VC d 103 zfV:=λd hd=>
 zap (C:=ctx (λ_=>none) zaR) (G:=GC) (B:=2) (m:=3) rfl rfl rfl (λd _=>zdC d) (λus p r hc hp ht=>by
  unfold zfV at hc;split at hc
  .cases hc;exact zv2 _ _ hp
  .cases hc) (λ_ _=>rfl) rfl rfl d hd
theorem zwN:∀d,5<=d->VC d 137 zfV:=λd hd=>
 zap (C:=ctx (λ_=>none) zaR) (G:=GC) (B:=2) (m:=3) rfl rfl rfl (λd _=>zdC d) (λus p r hc hp ht=>by
  unfold zfV at hc;split at hc
  .cases hc;exact zwa _ _ hp
  .cases hc) (λ_ _=>rfl) rfl rfl d hd
theorem zwM:∀d,5<=d->VC d 136 zg0:=λd hd=>
 zap (C:=ctx (λ_=>none) zaR) (G:=GC) (B:=2) (m:=3) rfl rfl rfl (λd _=>zdC d) (λus p r hc hp ht=>by
  unfold zg0 at hc;split at hc
  .cases hc;exact zv9 _
  .cases hc) (λ_ _=>rfl) rfl rfl d hd
theorem v81:∀d,5<=d->VC d 81 zrS:=λd hd=>
 zap (C:=ctx (λ_=>none) zaR) (G:=GC) (B:=2) (m:=3) rfl rfl rfl (λd _=>zdC d) (λus p r hc hp ht=>by
  unfold zrS at hc;split at hc
  .cases hc;exact s81 _ _ hp
  .cases hc) (λ_ _=>rfl) rfl rfl d hd
theorem zw5:∀d,5<=d->VC d 201 zg1:=λd hd=>
 zap (C:=ctx (λ_=>none) zaR) (G:=GC) (B:=2) (m:=3) rfl rfl rfl (λd _=>zdC d) (λus p r hc hp ht=>by
  unfold zg1 at hc;split at hc
  .cases hc;exact zwu _ _ _ _ _
  .cases hc) (λ_ _=>rfl) rfl rfl d hd
theorem zwS:∀d,5<=d->VC d 168 zg1:=λd hd=>
 zap (C:=ctx (λ_=>none) zaR) (G:=GC) (B:=2) (m:=3) rfl rfl rfl (λd _=>zdC d) (λus p r hc hp ht=>by
  unfold zg1 at hc;split at hc
  .cases hc;exact zwh _ _ _ _ _
  .cases hc) (λ_ _=>rfl) rfl rfl d hd
theorem vN (d:Nat) (g:FuncId):VC d g zt0:=by
 intro us p r hc hp σ H vs hst hl
 unfold zt0 at hc
 split at hc
 .cases hc;exact hp.elim
 .cases hc
theorem zxy (d:Nat):∀g c,cc0 g=some c->VC d g c:=λg c h=>by
 unfold cc0 at h
 split at h
 .cases h;exact vN d _
 .cases h;exact vN d _
 .cases h
theorem zwG:∀d,8<=d->VC d 102 zg0:=λd hd=>
 zap (C:=ctx cc0 zaR) (G:=GC) (B:=2) (m:=6) rfl rfl rfl (λd _=>zxy d) (λus p r hc hp ht=>by
  unfold zg0 at hc;split at hc
  .cases hc;exact zv1 _
  .cases hc) (λ_ _=>rfl) rfl rfl d hd
theorem zsU:∀d,8<=d->∀g c,cc1 g=some c->VC d g c:=λd hd g c h=>by
 unfold cc1 at h
 split at h
 .cases h;exact zvM d (by omega)
 .cases h;exact zwN d (by omega)
 .cases h;exact zwM d (by omega)
 .cases h;exact zwG d (by omega)
 .cases h;exact v81 d (by omega)
 .cases h;exact zw5 d (by omega)
 .cases h;exact zwS d (by omega)
 .cases h
theorem zwT:∀d,11<=d->VC d 169 znh:=λd hd=>
 zap (C:=ctx cc1 zaR) (G:=GC) (B:=8) (m:=3) rfl rfl rfl zsU (λus p r hc hp ht=>by
  unfold znh at hc;split at hc
  .cases hc;exact zwi _ hp
  .cases hc) (λ_ _=>rfl) rfl rfl d hd
theorem zwU:∀d,14<=d->VC d 170 zni:=λd hd=>by
 intro us p r hc hp
 unfold zni at hc;split at hc
 .rename_i c s
  cases hc
  have:=zap (C:=ctx cc1 (zoe s)) (G:=GC) (B:=8) (m:=6) (g:=170) (c:=λus=>match us with| [.dat 22 c',.str s']=>some (zaE c'/\s'=s,.prop (zaJ c' c'.len s'))|_=>none) rfl rfl rfl zsU (λus p r hc hp ht=>by
   split at hc
   .cases hc;obtain ⟨h1,rfl⟩:=hp;exact zwj _ _ h1
   .cases hc) (λ_ _=>rfl) rfl rfl d hd
  exact this [.dat 22 c,.str s] _ _ rfl ⟨hp,rfl⟩
 .cases hc
theorem zwJ:∀d,11<=d->VC d 124 zna:=λd hd=>
 zap (C:=ctx cc1 zaR) (G:=GC) (B:=8) (m:=3) rfl rfl rfl zsU (λus p r hc hp ht=>by
  unfold zna at hc;split at hc
  .cases hc;exact zv6 _ _ _ _ _ _ _ _ _ _ hp
  .cases hc) (λ_ _=>rfl) rfl rfl d hd
theorem zvB:∀d,14<=d->∀g c,cc2 g=some c->VC d g c:=λd hd g c h=>by
 unfold cc2 at h
 split at h
 .cases h;exact zwT d (by omega)
 .cases h;exact zwU d (by omega)
 .cases h;exact zwJ d (by omega)
 .exact zsU d (by omega) _ c h
theorem zwL:∀d,20<=d->VC d 130 znc:=λd hd=>
 zap (C:=ctx cc2 zaR) (G:=GC) (B:=14) (m:=6) rfl rfl rfl zvB (λus p r hc hp ht=>by
  unfold znc at hc;split at hc
  .cases hc;exact zv8 _ _ _ _ _ _ hp.1 hp.2
  .cases hc) (λ_ _=>rfl) rfl rfl d hd
theorem zwP:∀d,11<=d->VC d 154 zne:=λd hd=>
 zap (C:=ctx cc1 zaR) (G:=GC) (B:=8) (m:=3) rfl rfl rfl zsU (λus p r hc hp ht=>by
  unfold zne at hc;split at hc
  .cases hc;exact zwe _ _ hp.1 hp.2
  .cases hc) (λ_ _=>rfl) rfl rfl d hd
theorem v69:∀d,19<=d->VC d 69 zrR:=λd hd=>
 zap (C:=ctx cc2 zaR) (G:=GC) (B:=14) (m:=5) rfl rfl rfl zvB (λus p r hc hp ht=>by
  unfold zrR at hc;split at hc
  .cases hc;exact s69 _ _ hp
  .cases hc) (λ_ _=>rfl) rfl rfl d hd
theorem v60:∀d,7<=d->VC d 60 zrQ:=λd hd=>
 zap (C:=ctx (λ_=>none) zaR) (G:=GC) (B:=2) (m:=5) rfl rfl rfl (λd _=>zdC d) (λus p r hc hp ht=>by
  unfold zrQ at hc;split at hc
  .cases hc;exact s60 _ hp
  .cases hc) (λ_ _=>rfl) rfl rfl d hd
theorem v7:∀d,10<=d->VC d 15 zrL:=λd hd=>
 zap (C:=ctx (λ_=>none) znM) (G:=GC) (B:=2) (m:=8) rfl rfl rfl (λd _=>zdC d) (λus p r hc hp ht=>by
  unfold zrL at hc;split at hc
  .cases hc;exact sl7 _
  .cases hc) (λ_ _=>rfl) rfl rfl d hd
theorem zvC:∀d,20<=d->∀g c,cc3 g=some c->VC d g c:=λd hd g c h=>by
 unfold cc3 at h
 split at h
 .cases h;exact zwL d (by omega)
 .cases h;exact zwP d (by omega)
 .cases h;exact v69 d (by omega)
 .cases h;exact v60 d (by omega)
 .cases h;exact v7 d (by omega)
 .exact zvB d (by omega) _ c h
theorem v98:∀d,25<=d->VC d 98 zlT:=λd hd=>
 zap (C:=ctx cc3 zaR) (G:=GC) (B:=20) (m:=5) rfl rfl rfl zvC (λus p r hc hp ht=>by
  unfold zlT at hc;split at hc
  .cases hc;exact s98 _ hp
  .cases hc) (λ_ _=>rfl) rfl rfl d hd
theorem zwI:∀d,25<=d->VC d 117 zlT:=λd hd=>
 zap (C:=ctx cc3 zaR) (G:=GC) (B:=20) (m:=5) rfl rfl rfl zvC (λus p r hc hp ht=>by
  unfold zlT at hc;split at hc
  .cases hc;exact zv5 _ hp
  .cases hc) (λ_ _=>rfl) rfl rfl d hd
theorem zud:∀d,25<=d->∀g c,cc4 g=some c->VC d g c:=λd hd g c h=>by
 unfold cc4 at h
 split at h
 .cases h;exact v98 d (by omega)
 .cases h;exact zwI d (by omega)
 .exact zvC d (by omega) _ c h
end
end Go.Ev

end

section
open Go.Proofs
namespace Go.Ev
noncomputable section
set_option maxRecDepth 100000
abbrev VF (d:Nat) (cf:D->Con):Prop:=zim Tryz.prog GC (ev Tryz.prog GC d) cf
theorem vFn (d:Nat):∀t c,(λ_:TypeId=>(none:Option (D->Con))) t=some c->VF d c:=λ_ _ h=>(zde h).elim
theorem zps {v:V} {g:GD} (h:gOf v=some g):v=gV g:=by
 unfold gOf at h
 split at h
 .cases h;rfl
 .cases h
theorem zeP {v:V} {g:GD} {p:Int} (h:pOf v=some (g,p)):v=pV g p:=by
 unfold pOf at h
 split at h
 .cases h;rfl
 .cases h
theorem zvN:∀d,6<=d->VC d 114 zkI:=λd hd=>
 zad (C:=zbi (λ_=>none) (λ_=>none) zaA) (G:=GC) (B:=2) (m:=4) rfl rfl rfl (λd _=>zdC d) (λd _=>vFn d) (λus p r hc hp ht=>by
  unfold zkI at hc
  split at hc
  .cases hc;exact zv3 _ _
  .cases hc) (λ_ _=>rfl) rfl rfl d hd
theorem zw2:∀d,6<=d->VC d 185 znp:=λd hd=>
 zad (C:=zbi (λ_=>none) (λ_=>none) zaA) (G:=GC) (B:=2) (m:=4) rfl rfl rfl (λd _=>zdC d) (λd _=>vFn d) (λus p r hc hp ht=>by
  unfold znp at hc
  split at hc
  .cases hc;exact zwr _ _
  .cases hc) (λ_ _=>rfl) rfl rfl d hd
theorem v45:∀d,5<=d->VC d 45 zrO:=λd hd=>
 zad (C:=zbi (λ_=>none) (λ_=>none) zaA) (G:=GC) (B:=2) (m:=3) rfl rfl rfl (λd _=>zdC d) (λd _=>vFn d) (λus p r hc hp ht=>by
  unfold zrO at hc
  split at hc
  .cases hc;exact s45 _ _ hp
  .cases hc) (λ_ _=>rfl) rfl rfl d hd
theorem zw6:∀d,5<=d->VC d 202 zns:=λd hd=>
 zad (C:=zbi (λ_=>none) (λ_=>none) zaA) (G:=GC) (B:=2) (m:=3) rfl rfl rfl (λd _=>zdC d) (λd _=>vFn d) (λus p r hc hp ht=>by
  unfold zns at hc
  split at hc
  .cases hc;exact zwv _ _ hp
  .cases hc) (λ_ _=>rfl) rfl rfl d hd
theorem zif:∀d,6<=d->∀g c,cm0 g=some c->VC d g c:=λd hd g c h=>by
 unfold cm0 at h
 split at h
 .cases h;exact zvM d (by omega)
 .cases h;exact zvN d (by omega)
 .cases h;exact zw2 d (by omega)
 .cases h;exact v45 d (by omega)
 .cases h
theorem zwW:∀d,10<=d->VC d 177 znk:=λd hd=>
 zad (C:=zbi cm0 (λ_=>none) zaA) (G:=GC) (B:=6) (m:=4) rfl rfl rfl zif (λd _=>vFn d) (λus p r hc hp ht=>by
  unfold znk at hc
  split at hc
  .cases hc;exact zwl _ _
  .cases hc) (λ_ _=>rfl) rfl rfl d hd
theorem zw8:∀d,9<=d->VC d 215 znt:=λd hd=>
 zad (C:=zbi cm0 (λ_=>none) zaA) (G:=GC) (B:=6) (m:=3) rfl rfl rfl zif (λd _=>vFn d) (λus p r hc hp ht=>by
  unfold znt at hc
  split at hc
  .split at hc
   .rename_i q;cases hc;rw [zeP q];exact zwx _ _ _ hp
   .cases hc
  .cases hc) (λ_ _=>rfl) rfl rfl d hd
theorem zwX:∀d,9<=d->VC d 179 znl:=λd hd=>
 zad (C:=zbi cm0 (λ_=>none) zaA) (G:=GC) (B:=6) (m:=3) rfl rfl rfl zif (λd _=>vFn d) (λus p r hc hp ht=>by
  unfold znl at hc
  split at hc
  .split at hc
   .rename_i q;cases hc;rw [zeP q];exact zwm _ _ _
   .cases hc
  .cases hc) (λ_ _=>rfl) rfl rfl d hd
theorem zwY:∀d,9<=d->VC d 180 znm:=λd hd=>
 zad (C:=zbi cm0 (λ_=>none) zaA) (G:=GC) (B:=6) (m:=3) rfl rfl rfl zif (λd _=>vFn d) (λus p r hc hp ht=>by
  unfold znm at hc
  split at hc
  .split at hc
   .rename_i q;cases hc;rw [zeP q];exact zwn _ _
   .cases hc
  .cases hc) (λ_ _=>rfl) rfl rfl d hd
theorem zxa:∀d,9<=d->VC d 217 znv:=λd hd=>
 zad (C:=zbi cm0 (λ_=>none) zaA) (G:=GC) (B:=6) (m:=3) rfl rfl rfl zif (λd _=>vFn d) (λus p r hc hp ht=>by
  unfold znv at hc
  split at hc
  .split at hc
   .rename_i q;cases hc;rw [zeP q];exact zwz _ _
   .cases hc
  .cases hc) (λ_ _=>rfl) rfl rfl d hd
theorem zw0:∀d,9<=d->VC d 183 znn:=λd hd=>
 zad (C:=zbi cm0 (λ_=>none) zaA) (G:=GC) (B:=6) (m:=3) rfl rfl rfl zif (λd _=>vFn d) (λus p r hc hp ht=>by
  unfold znn at hc
  split at hc
  .split at hc
   .rename_i q;cases hc;rw [zeP q];exact zwp _ _ _ hp
   .cases hc
  .cases hc) (λ_ _=>rfl) rfl rfl d hd
theorem zw3:∀d,9<=d->VC d 187 znq:=λd hd=>
 zad (C:=zbi cm0 (λ_=>none) zaA) (G:=GC) (B:=6) (m:=3) rfl rfl rfl zif (λd _=>vFn d) (λus p r hc hp ht=>by
  unfold znq at hc
  split at hc
  .cases hc;exact zws _
  .cases hc) (λ_ _=>rfl) rfl rfl d hd
theorem zw4:∀d,9<=d->VC d 188 znr:=λd hd=>
 zad (C:=zbi cm0 (λ_=>none) zaA) (G:=GC) (B:=6) (m:=3) rfl rfl rfl zif (λd _=>vFn d) (λus p r hc hp ht=>by
  unfold znr at hc
  split at hc
  .cases hc;exact zwt _ _ hp.1 hp.2.1 hp.2.2
  .cases hc) (λ_ _=>rfl) rfl rfl d hd
theorem zxd:∀d,9<=d->VC d 222 zny:=λd hd=>
 zad (C:=zbi cm0 (λ_=>none) zaA) (G:=GC) (B:=6) (m:=3) rfl rfl rfl zif (λd _=>vFn d) (λus p r hc hp ht=>by
  unfold zny at hc
  split at hc
  .cases hc;exact zwC _
  .cases hc) (λ_ _=>rfl) rfl rfl d hd
open Classical in
theorem zwZ:∀d,12<=d->VC d 181 ziz:=λd hd us p r hc hp=>by
 have hc0:=hc
 unfold ziz at hc;split at hc
 .rename_i q x
  exact zad (C:=zbi cm0 (λ_=>none) (zsS (cNm x))) (G:=GC) (B:=6) (m:=6) (g:=181) (c:=λus=>if us= [q,.dpt 69 x] then ziz us else none) rfl rfl rfl zif (λd _=>vFn d) (λus p r hc hp ht=>by
   split at hc
   .rename_i e;subst e
    unfold ziz at hc
    simp only at hc
    split at hc
    .rename_i h;cases hc;rw [zeP h];exact zwo _ _ _ hp.1 hp.2
    .cases hc
   .cases hc) (λ_ _=>rfl) rfl rfl d hd _ p r (by show (if _ then _ else _)=_;rw [if_pos rfl];exact hc0) hp
 .cases hc
theorem ziD (g:FuncId) (h1:zbU Tryz.prog g [undef]=none) (h2:Nat.beq g 18=false):zgM Tryz.prog GC g:=⟨rfl,h1,by show cond (Nat.beq g 18) _ _=none;rw [h2];rfl,λ_=>rfl,rfl,rfl⟩
theorem zuz:zgM Tryz.prog GC 215:=ziD 215 (by kernel_rfl) rfl
theorem zus:zgM Tryz.prog GC 179:=ziD 179 (by kernel_rfl) rfl
theorem zut:zgM Tryz.prog GC 180:=ziD 180 (by kernel_rfl) rfl
theorem zuu:zgM Tryz.prog GC 181:=ziD 181 (by kernel_rfl) rfl
theorem zuv:zgM Tryz.prog GC 183:=ziD 183 (by kernel_rfl) rfl
theorem zuB:zgM Tryz.prog GC 217:=ziD 217 (by kernel_rfl) rfl
theorem zup:zgM Tryz.prog GC 114:=ziD 114 (by kernel_rfl) rfl
theorem zur:zgM Tryz.prog GC 177:=ziD 177 (by kernel_rfl) rfl
theorem zux:zgM Tryz.prog GC 187:=ziD 187 (by kernel_rfl) rfl
theorem zuy:zgM Tryz.prog GC 188:=ziD 188 (by kernel_rfl) rfl
theorem zuE:zgM Tryz.prog GC 222:=ziD 222 (by kernel_rfl) rfl
theorem zuA:zgM Tryz.prog GC 216:=ziD 216 (by kernel_rfl) rfl
theorem zuD:zgM Tryz.prog GC 220:=ziD 220 (by kernel_rfl) rfl
theorem zuw:zgM Tryz.prog GC 184:=ziD 184 (by kernel_rfl) rfl
theorem zuF:zgM Tryz.prog GC 223:=ziD 223 (by kernel_rfl) rfl
theorem zuC:zgM Tryz.prog GC 218:=ziD 218 (by kernel_rfl) rfl
theorem zuq:zgM Tryz.prog GC 174:=ziD 174 (by kernel_rfl) rfl
theorem vR:∀d,12<=d->VF d zuo:=λd hd=>zb5 λf us p r hc hp=>by
 unfold zuo at hc;split at hc
 .split at hc
  .rename_i h;cases hc;rw [zeP h]
   obtain ⟨nm,rfl,hl⟩:=hp.out
   exact ⟨_,_,_,znt,_,rfl,zuz,zw8 d (by omega),rfl,hl⟩
  .cases hc
 .cases hc
theorem vNm:∀d,12<=d->VF d zrU:=λd hd=>zb5 λf us p r hc hp=>by
 unfold zrU at hc;split at hc
 .split at hc
  .rename_i h;cases hc;rw [zeP h]
   obtain ⟨ho,htg⟩:=hp
   rcases ho.out with ⟨x,rfl⟩|rfl| ⟨x,rfl,hx⟩| ⟨x,rfl,hx⟩|rfl
   .exact ⟨_,_,_,znl,True,rfl,zus,zwX d (by omega),(by rw [show zdf _ _=_ from propext (zlg x _)];rfl),trivial⟩
   .exact ⟨_,_,_,znm,True,rfl,zut,zwY d (by omega),(by rw [show zdf _ _=_ from propext (zlh _)];rfl),trivial⟩
   .exact ⟨_,_,_,ziz,_,rfl,zuu,zwZ d (by omega),(by rw [show zdf _ _=_ from propext (zli x _)];rfl),And.intro htg hx⟩
   .exact ⟨_,_,_,znn,_,rfl,zuv,zw0 d (by omega),(by rw [show zdf _ _=_ from propext (zlj x _)];rfl),hx⟩
   .exact ⟨_,_,_,znv,True,rfl,zuB,zxa d (by omega),(by rw [show zdf _ _=_ from propext (zeC _)];rfl),trivial⟩
  .cases hc
 .cases hc
theorem vC:∀d,12<=d->VF d zum:=λd hd=>zb5 λf us p r hc hp=>by
 unfold zum at hc;split at hc
 .cases hc
  rcases hp.out with rfl|rfl
  .exact ⟨_,_,_,zkI,True,rfl,zup,zvN d (by omega),rfl,trivial⟩
  .exact ⟨_,_,_,znk,True,rfl,zur,zwW d (by omega),rfl,trivial⟩
 .cases hc
theorem vK:∀d,12<=d->VF d zun:=λd hd=>zb5 λf us p r hc hp=>by
 unfold zun at hc;split at hc
 .cases hc
  obtain ⟨ho,hb⟩:=hp
  rcases ho.out with rfl| ⟨x,rfl,hx,hx'⟩
  .exact ⟨_,_,_,znq,True,rfl,zux,zw3 d (by omega),rfl,trivial⟩
  .exact ⟨_,_,_,znr,_,rfl,zuy,zw4 d (by omega),rfl,hb,hx,hx'⟩
 .cases hc
theorem vB:∀d,12<=d->VF d zul:=λd hd=>zb5 λf us p r hc hp=>by
 unfold zul at hc;split at hc
 .cases hc
  have hp:f= .fn 222 [] []:=hp
  subst hp
  exact ⟨_,_,_,zny,True,rfl,zuE,zxd d (by omega),rfl,trivial⟩
 .cases hc
theorem vF1:∀d,12<=d->∀t c,cF1 t=some c->VF d c:=λd hd t c h=>by
 unfold cF1 at h
 split at h
 .cases h;exact vR d hd
 .cases h;exact vNm d hd
 .cases h;exact vC d hd
 .cases h;exact vK d hd
 .cases h;exact vB d hd
 .cases h
theorem zw9:∀d,15<=d->VC d 216 znu:=λd hd=>
 zad (C:=zbi cm0 cF1 zaA) (G:=GC) (B:=12) (m:=3) rfl rfl rfl (λd hd=>zif d (by omega)) vF1 (λus p r hc hp ht=>by
  unfold znu at hc
  split at hc
  .split at hc
   .rename_i q1 q2;cases hc;rw [zeP q1,zeP q2];exact zwy _ _ _ _ _ hp
   .cases hc
  .cases hc) (λ_ _=>rfl) rfl rfl d hd
theorem zxc:∀d,15<=d->VC d 220 znx:=λd hd=>
 zad (C:=zbi cm0 cF1 zaA) (G:=GC) (B:=12) (m:=3) rfl rfl rfl (λd hd=>zif d (by omega)) vF1 (λus p r hc hp ht=>by
  unfold znx at hc
  split at hc
  .split at hc
   .rename_i q1 q2;cases hc;rw [zeP q1,zeP q2];exact zwB _ _ _ _ _ _ hp.1 hp.2.1 hp.2.2
   .cases hc
  .cases hc) (λ_ _=>rfl) rfl rfl d hd
theorem zw1:∀d,15<=d->VC d 184 zno:=λd hd=>
 zad (C:=zbi cm0 cF1 zaA) (G:=GC) (B:=12) (m:=3) rfl rfl rfl (λd hd=>zif d (by omega)) vF1 (λus p r hc hp ht=>by
  unfold zno at hc
  split at hc
  .split at hc
   .rename_i q1 q2;cases hc;rw [zeP q1,zeP q2];exact zwq _ _ _ _
   .cases hc
  .cases hc) (λ_ _=>rfl) rfl rfl d hd
theorem zxe:∀d,15<=d->VC d 223 znz:=λd hd=>
 zad (C:=zbi cm0 cF1 zaA) (G:=GC) (B:=12) (m:=3) rfl rfl rfl (λd hd=>zif d (by omega)) vF1 (λus p r hc hp ht=>by
  unfold znz at hc
  split at hc
  .split at hc
   .rename_i q1 q2;cases hc;rw [zeP q1,zeP q2];exact zwD _ _ _ _ _ _ hp.1 hp.2
   .cases hc
  .cases hc) (λ_ _=>rfl) rfl rfl d hd
theorem zkL {d:Nat} (hd:15<=d) {f:D} (ho:zrf f) {a b:GD} {i j:Int} (ha:a.tg.len<=100) (hb:b.tg.len<=100):∃(g:FuncId) (ts:List TypeId) (ds:List D) (c:Con) (p':Prop),f= .fn g ts ds/\zgM Tryz.prog GC g/\VC d g c/\c ([pV a i,pV b j]++zfT ts ds)=some (p',.int .i64 (zbs f a b i j))/\p':=by
 rcases ho.out with ⟨r,rfl,hr⟩| ⟨n,la,rfl,hn⟩|rfl| ⟨k,rfl,hk⟩
 .exact ⟨_,_,_,znu,_,rfl,zuA,zw9 d (by omega),rfl,hr⟩
 .exact ⟨_,_,_,znx,_,rfl,zuD,zxc d (by omega),(by rw [zcn];rfl),And.intro hn (And.intro ha hb)⟩
 .exact ⟨_,_,_,zno,True,rfl,zuw,zw1 d (by omega),(by rw [zi2];rfl),trivial⟩
 .exact ⟨_,_,_,znz,_,rfl,zuF,zxe d (by omega),(by rw [zgn];rfl),And.intro rfl hk⟩
theorem vT1:∀d,15<=d->VF d zrV:=λd hd=>zb5 λf us p r hc hp=>by
 unfold zrV at hc;split at hc
 .split at hc
  .rename_i q1 q2;cases hc;rw [zeP q1,zeP q2]
   exact zkL hd hp.1 hp.2.1 hp.2.2
  .cases hc
 .cases hc
theorem vF2:∀d,15<=d->∀t c,cF2 t=some c->VF d c:=λd hd t c h=>by
 unfold cF2 at h
 split at h
 .cases h;exact vT1 d hd
 .exact vF1 d (by omega) _ c h
theorem zxb:∀d,19<=d->VC d 218 znw:=λd hd=>
 zad (C:=zbi cm0 cF2 zaA) (G:=GC) (B:=15) (m:=4) rfl rfl rfl (λd hd=>zif d (by omega)) vF2 (λus p r hc hp ht=>by
  unfold znw at hc
  split at hc
  .split at hc
   .rename_i q1 q2;cases hc;rw [zeP q1,zeP q2];exact zwA _ _ _ _ _ _ hp.1 hp.2.1 hp.2.2.1 hp.2.2.2
   .cases hc
  .cases hc) (λ_ _=>rfl) rfl rfl d hd
theorem zsw {f:D} (h:zrf f):∃g ts ds,f= .fn g ts ds/\g≠218:=by
 rcases h.out with ⟨r,rfl,hr⟩| ⟨n,la,rfl,hn⟩|rfl| ⟨k,rfl,hk⟩
 .exact ⟨_,_,_,rfl,by decide⟩
 .exact ⟨_,_,_,rfl,by decide⟩
 .exact ⟨_,_,_,rfl,by decide⟩
 .exact ⟨_,_,_,rfl,by decide⟩
theorem vT2:∀d,19<=d->VF d zrW:=λd hd=>zb5 λf us p r hc hp=>by
 unfold zrW at hc;split at hc
 .split at hc
  .rename_i q1 q2;cases hc;rw [zeP q1,zeP q2]
   rcases hp.1.out with h| ⟨u,c,rfl,hu,hcc⟩
   .have e:∀a b i j,zcP f a b i j=zbs f a b i j:=λa b i j=>by
     obtain ⟨g,ts,ds,rfl,hg⟩:=zsw h
     exact zc1 hg a b i j
    rw [e]
    exact zkL (by omega) h hp.2.1 hp.2.2
   .exact ⟨_,_,_,znw,_,rfl,zuC,zxb d (by omega),(by rw [zgo];rfl),And.intro hu (And.intro hcc hp.2)⟩
  .cases hc
 .cases hc
theorem vF3:∀d,19<=d->∀t c,cF3 t=some c->VF d c:=λd hd t c h=>by
 unfold cF3 at h
 split at h
 .cases h;exact vT2 d hd
 .cases h
theorem zwV:∀d,22<=d->VC d 174 znj:=λd hd=>
 zad (C:=zbi cm0 cF3 zaA) (G:=GC) (B:=19) (m:=3) rfl rfl rfl (λd hd=>zif d (by omega)) vF3 (λus p r hc hp ht=>by
  unfold znj at hc
  split at hc
  .split at hc
   .rename_i q1 q2;cases hc;rw [zeP q1,zeP q2];exact zwk _ _ _ _ _ _ hp.1 hp.2.1 hp.2.2
   .cases hc
  .cases hc) (λ_ _=>rfl) rfl rfl d hd
theorem vA:∀d,22<=d->VF d zuk:=λd hd=>zb5 λf us p r hc hp=>by
 unfold zuk at hc;split at hc
 .split at hc
  .rename_i q1 q2;cases hc;rw [zeP q1,zeP q2]
   obtain ⟨s,t,rfl,ht⟩:=hp.1.out
   exact ⟨_,_,_,znj,_,rfl,zuq,zwV d (by omega),rfl,ht,hp.2.1,hp.2.2⟩
  .cases hc
 .cases hc
theorem vF4:∀d,22<=d->∀t c,cF4 t=some c->VF d c:=λd hd t c h=>by
 unfold cF4 at h
 split at h
 .cases h;exact vA d hd
 .cases h
open Classical in
theorem v92:∀d,25<=d->VC d 92 znC:=λd hd us p r hc hp=>by
 have hc0:=hc
 unfold znC at hc;split at hc
 .rename_i ts q1 q2
  split at hc
  .rename_i a i b j h1 h2
   exact zad (C:=zbi cm0 cF4 (zoK (λk=>zlf (el ts k) a b i j))) (G:=GC) (B:=22) (m:=3) (g:=92) (c:=λus=>if us= [.dat 127 ts,q1,q2] then znC us else none) rfl rfl rfl (λd hd=>zif d (by omega)) vF4 (λus p r hc hp ht=>by
    split at hc
    .rename_i e;subst e
     unfold znC at hc
     simp only [h1,h2] at hc
     cases hc
     rw [zeP h1,zeP h2];exact s92 _ _ _ _ _ hp.1.1 hp.1.2 hp.2.1 hp.2.2
    .cases hc) (λ_ _=>rfl) rfl rfl d hd _ p r (by show (if _ then _ else _)=_;rw [if_pos rfl];exact hc0) hp
  .cases hc
 .cases hc
theorem zvP:∀d,11<=d->VC d 143 zkK:=λd hd=>
 zad (C:=zbi cm0 (λ_=>none) zaA) (G:=GC) (B:=6) (m:=5) rfl rfl rfl zif (λd _=>vFn d) (λus p r hc hp ht=>by
  unfold zkK at hc
  split at hc
  .cases hc;exact zwc _ _ _ _ _
  .cases hc) (λ_ _=>rfl) rfl rfl d hd
theorem zvO:∀d,9<=d->VC d 142 zkJ:=λd hd=>
 zad (C:=zbi cm0 (λ_=>none) zaA) (G:=GC) (B:=6) (m:=3) rfl rfl rfl zif (λd _=>vFn d) (λus p r hc hp ht=>by
  unfold zkJ at hc
  split at hc
  .cases hc;exact zwb _ _
  .cases hc) (λ_ _=>rfl) rfl rfl d hd
theorem zxz:∀d,25<=d->∀g c,cn0 g=some c->VC d g c:=λd hd g c h=>by
 unfold cn0 at h
 split at h
 .cases h;exact zvP d (by omega)
 .cases h;exact zvO d (by omega)
 .exact zud d (by omega) _ c h
theorem v93:∀d,30<=d->VC d 93 zrT:=λd hd=>
 zad (C:=ctx cn0 zbm) (G:=GC) (B:=25) (m:=5) rfl rfl rfl zxz (λ_ _ _ _ h=>(zde h).elim) (λus p r hc hp ht=>by
  unfold zrT at hc
  split at hc
  .cases hc;exact s93 _ hp
  .cases hc) (λ_ _=>rfl) rfl rfl d hd
theorem v91:∀d,29<=d->VC d 91 zlS:=λd hd=>
 zad (C:=ctx cc4 zbm) (G:=GC) (B:=25) (m:=4) rfl rfl rfl zud (λ_ _ _ _ h=>(zde h).elim) (λus p r hc hp ht=>by
  unfold zlS at hc
  split at hc
  .cases hc;exact s91 _ hp
  .cases hc) (λ_ _=>rfl) rfl rfl d hd
theorem v63:∀d,29<=d->VC d 63 zlS:=λd hd=>
 zad (C:=ctx cc4 zbm) (G:=GC) (B:=25) (m:=4) rfl rfl rfl zud (λ_ _ _ _ h=>(zde h).elim) (λus p r hc hp ht=>by
  unfold zlS at hc
  split at hc
  .cases hc;exact s63 _ hp
  .cases hc) (λ_ _=>rfl) rfl rfl d hd
theorem zwO:∀d,6<=d->VC d 153 znd:=λd hd=>
 zad (C:=ctx (λ_=>none) zbm) (G:=GC) (B:=2) (m:=4) rfl rfl rfl (λd _=>zdC d) (λ_ _ _ _ h=>(zde h).elim) (λus p r hc hp ht=>by
  unfold znd at hc
  split at hc
  .cases hc;exact zwd _ hp
  .cases hc) (λ_ _=>rfl) rfl rfl d hd
theorem zwR:∀d,12<=d->VC d 157 zng:=λd hd=>
 zad (C:=ctx cc1 zbm) (G:=GC) (B:=8) (m:=4) rfl rfl rfl zsU (λ_ _ _ _ h=>(zde h).elim) (λus p r hc hp ht=>by
  unfold zng at hc
  split at hc
  .cases hc;exact zwg _ _ hp
  .cases hc) (λ_ _=>rfl) rfl rfl d hd
open Classical in
theorem zw7:∀d,12<=d->VC d 205 ziA:=λd hd us p r hc hp=>by
 have hc0:=hc
 unfold ziA at hc;split at hc
 .rename_i k s la nm n q
  split at hc
  .rename_i g h1
   exact zad (C:=ctx cc1 (zok nm g.tg)) (G:=GC) (B:=8) (m:=4) (g:=205) (c:=λus=>if us= [.agg [.int .u8 k,.str s,.prop la,.dat 29 nm,.int .i64 n],q] then ziA us else none) rfl rfl rfl zsU (λ_ _ _ _ h=>(zde h).elim) (λus p r hc hp ht=>by
    split at hc
    .rename_i e;subst e
     unfold ziA at hc
     simp only [h1] at hc
     cases hc
     rw [zps h1];exact zww _ _ _ _ _ _ hp.1 hp.2
    .cases hc) (λ_ _=>rfl) rfl rfl d hd _ p r (by show (if _ then _ else _)=_;rw [if_pos rfl];exact hc0) hp
  .cases hc
 .cases hc
theorem ztT:∀d,30<=d->∀g c,cn1 g=some c->VC d g c:=λd hd g c h=>by
 unfold cn1 at h
 split at h
 .cases h;exact zvP d (by omega)
 .cases h;exact zvO d (by omega)
 .cases h;exact v93 d (by omega)
 .cases h;exact v92 d (by omega)
 .cases h;exact v91 d (by omega)
 .cases h;exact v63 d (by omega)
 .cases h;exact zw6 d (by omega)
 .cases h;exact zwO d (by omega)
 .cases h;exact zwR d (by omega)
 .cases h;exact zw7 d (by omega)
 .exact zud d (by omega) _ c h
theorem zwQ:∀d,34<=d->VC d 156 znf:=λd hd=>
 zad (C:=ctx cn1 zbm) (G:=GC) (B:=30) (m:=4) rfl rfl rfl ztT (λ_ _ _ _ h=>(zde h).elim) (λus p r hc hp ht=>by
  unfold znf at hc
  split at hc
  .split at hc
   .rename_i q1 q2;cases hc;rw [zps q1,zps q2];exact zwf _ _ _ _ _ _ _ _ _ hp.1 hp.2.1 hp.2.2.1 hp.2.2.2
   .cases hc
  .cases hc) (λ_ _=>rfl) rfl rfl d hd
theorem zwH:∀d,34<=d->VC d 116 zm9:=λd hd=>
 zad (C:=ctx cn1 zbm) (G:=GC) (B:=30) (m:=4) rfl rfl rfl ztT (λ_ _ _ _ h=>(zde h).elim) (λus p r hc hp ht=>by
  unfold zm9 at hc
  split at hc
  .split at hc
   .rename_i q;cases hc;rw [zps q];exact zv4 _ hp
   .cases hc
  .cases hc) (λ_ _=>rfl) rfl rfl d hd
theorem zwK:∀d,34<=d->VC d 125 znb:=λd hd=>
 zad (C:=ctx cn1 zbm) (G:=GC) (B:=30) (m:=4) rfl rfl rfl ztT (λ_ _ _ _ h=>(zde h).elim) (λus p r hc hp ht=>by
  unfold znb at hc
  split at hc
  .split at hc
   .rename_i q1 q2;cases hc;rw [zps q1,zps q2];exact zv7 _ _ hp
   .cases hc
  .cases hc) (λ_ _=>rfl) rfl rfl d hd
theorem v31:∀d,34<=d->VC d 31 zpM:=λd hd=>
 zad (C:=ctx cn1 zbm) (G:=GC) (B:=30) (m:=4) rfl rfl rfl ztT (λ_ _ _ _ h=>(zde h).elim) (λus p r hc hp ht=>by
  unfold zpM at hc
  split at hc
  .split at hc
   .rename_i q1 q2;cases hc;rw [zps q1,zps q2];exact s31 _ _ _ _ _ hp.1 hp.2.1 hp.2.2
   .cases hc
  .cases hc) (λ_ _=>rfl) rfl rfl d hd
theorem v58:∀d,8<=d->VC d 58 zrP:=λd hd=>
 zad (C:=ctx (λ_=>none) zbm) (G:=GC) (B:=2) (m:=6) rfl rfl rfl (λd _=>zdC d) (λ_ _ _ _ h=>(zde h).elim) (λus p r hc hp ht=>by
  unfold zrP at hc
  split at hc
  .cases hc;exact s58 ⟨_,_,_,_,_,_,_,_,_⟩
  .cases hc) (λ_ _=>rfl) rfl rfl d hd
theorem zxA:∀d,34<=d->∀g c,cn2 g=some c->VC d g c:=λd hd g c h=>by
 unfold cn2 at h
 split at h
 .cases h;exact zwQ d (by omega)
 .cases h;exact zwH d (by omega)
 .cases h;exact zwK d (by omega)
 .cases h;exact v31 d (by omega)
 .cases h;exact v58 d (by omega)
 .exact ztT d (by omega) _ c h
theorem v32:∀d,38<=d->VC d 32 zrM:=λd hd=>
 zad (C:=ctx cn2 zbm) (G:=GC) (B:=34) (m:=4) rfl rfl rfl zxA (λ_ _ _ _ h=>(zde h).elim) (λus p r hc hp ht=>by
  unfold zrM at hc
  split at hc
  .split at hc
   .rename_i q1 q2;cases hc;rw [zps q1,zps q2];exact s32 _ _ _ _ _ hp.1 hp.2.1 hp.2.2
   .cases hc
  .cases hc) (λ_ _=>rfl) rfl rfl d hd
end
end Go.Ev

end

section
open Go.Proofs
namespace Go.Ev
noncomputable section
def zb7:List UInt8:= [97,98,99,100]
def ze1 (k:Int):List UInt8:=List.take (Int.toNat (1:Int)-0) (List.drop 0 (List.take (zb7.length-k.toNat) (List.drop k.toNat zb7)))
def zmI (a k:Int):Int:=zaf (zbF .u8 a k) 3
open Classical in
def pRk (pa:Int):List UInt8:=if zaf pa 4=0 then [] else ze1 (zmI pa 3)
open Classical in
def pCt (pb:Int):List UInt8:=if zaf pb 4=0 then [] else ze1 (zmI pb 3)
open Classical in
def pDi (pa pb:Int):List UInt8:=if zaf pa 128=0 then [] else ze1 (zmI pb 4)
open Classical in
def pTg (pa pb:Int):D:=if zaf pb 64=0 then .nil else .list [.str (ze1 (zmI pa 4))]
def pG (pa pb:Int) (nm:List UInt8):GD:=⟨nm,pRk pa,pCt pb,10*IntKind.i64.wrap (pb.tmod 4),IntKind.i64.wrap (pa.tmod 3),pDi pa pb,zaf pa 64=0->False,zaf pb 128=0->False,pTg pa pb⟩
def nrm:V->V
 | .val (.int k n)=> .int k n
 | .val (.bool b)=> .prop (zg5 b)
 | .val (.string b)=> .str b.data.toList
 |v=>v
def bxs (S:SS) (b:Nat):List V:=match S.hp.get b with|some (.box _ l)=>l.map nrm|_=> []
def zlR:Con:=λ| [.agg [.int .u8 pa,.int .u8 pb],.str nm]=>some ((0<=pa/\pa<256)/\(0<=pb/\pb<256),gV (pG pa pb nm))|_=>none
def zuX:FuncId->Nat->List (Tmp×Nat×TypeId)
 |90,7=> [(5,8,29)]
 |_,_=> []
structure u8P (d:D):Prop where
 out:(0<=(d.fld 0).asInt/\(d.fld 0).asInt<256)/\(0<=(d.fld 1).asInt/\(d.fld 1).asInt<256)
structure zs7 (l:D):Prop where
 out:∀i,i<l.len->u8P (el l i)
def gbs (i:Int):List D:= [D.int (IntKind.u8.wrap (97+i.tdiv 26)),D.int (IntKind.u8.wrap (97+i.tmod 26))]
def znV (i:Int):List UInt8:= [103]++zfj (List.take 2 (gbs i))
def gE (l:D) (i:Nat):D:=gD (pG ((el l i).fld 0).asInt ((el l i).fld 1).asInt (znV i))
def gL (l:D) (n:Nat):List D:=(List.range n).map λi=>gE l i
def mG (n:Int) (l:D):D:=l.sub 0 (min (l.len:Int) n).toNat
def gsD (n:Int) (l:D):D:=zdV (gL (mG n l) (mG n l).len)
def ztj:Con:=λ| [.dat 48 l,.int .i64 n]=>some (zs7 l/\0<=n/\n<=64,.dat 23 (gsD n l))|_=>none
structure u8C (d:D):Prop where
 out:(0<=(d.fld 0).asInt/\(d.fld 0).asInt<256)/\(0<=(d.fld 1).asInt/\(d.fld 1).asInt<256)/\(0<=(d.fld 2).asInt/\(d.fld 2).asInt<256)
structure zph (l:D):Prop where
 out:∀i,i<l.len->u8C (el l i)
def mK (d:D):Int:=IntKind.u8.wrap (1+((d.fld 0).asInt).tmod 10)
def nm1 (d:D):List UInt8:=ze1 (((d.fld 2).asInt).tmod 4)
def nm2 (d:D):List UInt8:=ze1 ((IntKind.u8.wrap ((d.fld 2).asInt+1)).tmod 4)
open Classical in
def mNm (d:D):List D:=if zaf (d.fld 2).asInt 4=0 then [.str (nm1 d)] else [.str (nm1 d),.str (nm2 d)]
open Classical in
def mAm (d:D) (r:List UInt8):List UInt8:=if (d.fld 4).asProp/\mK d≠1 then r else []
def mC (d:D) (r:List UInt8):D:=
 if mK d=1 then .sct [.int (mK d),.str (mAm d r),.bool (false=true),.list (mNm d),.int 0]
 else if mK d=4 then .sct [.int (mK d),.str (mAm d r),.bool (d.fld 3).asProp,.nil,.int (1+IntKind.i64.wrap (((d.fld 1).asInt).tmod 2))]
 else if mK d=5 then .sct [.int (mK d),.str (mAm d r),.bool (d.fld 3).asProp,.nil,.int 0]
 else if mK d=6\/mK d=7 then .sct [.int (mK d),.str (mAm d r),.bool (d.fld 3).asProp,.list (mNm d),.int 0]
 else if mK d=10 then .sct [.int (mK d),.str (mAm d r),.bool (false=true),.nil,.int (IntKind.i64.wrap (((d.fld 1).asInt).tmod 64))]
 else .sct [.int (mK d),.str (mAm d r),.bool (false=true),.nil,.int 0]
def mR (l:D):Nat->List UInt8
 |0=> []
 |n+1=>if mK (el l n)=1 then nm1 (el l n) else mR l n
def mL (l:D) (n:Nat):List D:=(List.range n).map λi=>mC (el l i) (mR l i)
def m8 (l:D):D:=l.sub 0 (min (l.len:Int) 8).toNat
def mD (l:D):D:=zdV (mL (m8 l) (m8 l).len)
def zti:Con:=λ| [.dat 40 l]=>some (zph l,.dat 22 (mD l))|_=>none
def slB (S:SS) (t:Tmp):Nat:=match S.fr.get t with|some (.ptr b _)=>b|_=>0
def ztR (S:SS) (t:Tmp):List D:=match S.fr.get t with|some (.slc b _ _ _)=>bkL S b|_=> []
def zvL (S:SS) (t:Tmp):Nat:=match S.fr.get t with|some (.slc b _ _ _)=>b|_=>0
def gAt (d:D):GD:=⟨(d.fld 0).asStr,cA d,(d.fld 2).asStr,(cNm d).asInt,cN d,(d.fld 5).asStr,(d.fld 6).asProp,(d.fld (Nat.succ 6)).asProp,d.fld (Nat.succ 6).succ⟩
def zhS:FuncId->Nat->Option Ann
 |30,3=>some {hs:=2,τ:=Nat,slots:=λ_ i x=>match i with|0=> [(15,.int .i64 0),(5,.val (.slice none 0 0))]|_=> [(15,.int .i64 x),(5,.slc 60 (.lit 0) (.sym x) none)],blks:=λS i x=>match i with|0=> []|_=> [(60,.arr 53 (gL (mG (slI S 1) (slD S 0)) x))],inv:=λS i x=>match i with|0=>x=0|_=>0<x/\x<=(mG (slI S 1) (slD S 0)).len,meas:=λS _ x=>(mG (slI S 1) (slD S 0)).len-x}
 |29,4=>some {hs:=2,τ:=Nat,slots:=λS i x=>match i with|0=> [(15,.int .i64 0),(3,.val (.slice none 0 0)),(4,.str [])]|_=> [(15,.int .i64 x),(3,.slc 60 (.lit 0) (.sym x) none),(4,.str (mR (m8 (slD S 0)) x))],blks:=λS i x=>match i with|0=> []|_=> [(60,.arr 69 (mL (m8 (slD S 0)) x))],inv:=λS i x=>match i with|0=>x=0|_=>0<x/\x<=(m8 (slD S 0)).len,meas:=λS _ x=>(m8 (slD S 0)).len-x}
 |_,_=>none
def ztI:FuncId->Nat->Option Ann
 |90,4=>some {τ:=Unit,slots:=λ_ _ _=> [],blks:=λS _ _=> [(2,.box 53 ((bxs S 2).set 1 (.str (pRk (bkI S 0 0)))))],inv:=λ_ _ _=>True,meas:=λ_ _ _=>0}
 |90,6=>some {τ:=Unit,slots:=λ_ _ _=> [],blks:=λS _ _=> [(2,.box 53 ((bxs S 2).set 2 (.str (pCt (bkI S 0 1)))))],inv:=λ_ _ _=>True,meas:=λ_ _ _=>0}
 |90,8=>some {hs:=2,τ:=Unit,slots:=λ_ _ _=> [],blks:=λS i _=>match i with|0=> [(2,.box 53 ((bxs S 2).set 8 (.val (.slice none 0 0))))]|_=> [(2,.box 53 ((bxs S 2).set 8 (.dat 29 (.list [.str (ze1 (zmI (bkI S 0 0) 4))]))))],inv:=λS i _=>match i with|0=>zaf (bkI S 0 1) 64=0|_=>zaf (bkI S 0 1) 64≠0,meas:=λ_ _ _=>0}
 |90,10=>some {τ:=Unit,slots:=λ_ _ _=> [],blks:=λS _ _=> [(2,.box 53 ((bxs S 2).set 5 (.str (pDi (bkI S 0 0) (bkI S 0 1)))))],inv:=λ_ _ _=>True,meas:=λ_ _ _=>0}
 |29,10=>some {hs:=2,τ:=Unit,slots:=λS i _=>match i with|0=> [(8,.slc (zvL S 8) (.lit 0) (.lit 1) (some (.lit 1)))]|_=> [(8,.slc 70 (.lit 0) (.lit 2) none)],blks:=λS i _=>match i with|0=> [(zvL S 8,.arr 9 (ztR S 8))]|_=> [(70,.arr 9 (ztR S 8++ [.str (ze1 ((IntKind.u8.wrap (bkI S (slB S 6) 2+1)).tmod 4))]))],inv:=λS i _=>match i with|0=>zaf (bkI S (slB S 6) 2) 4=0|_=>zaf (bkI S (slB S 6) 2) 4≠0,meas:=λ_ _ _=>0}
 |_,_=>none
def zlU (con:FuncId->Option Con) (ann:FuncId->Nat->Option Ann):Ctx:={ctx con ann with join:=ztI,frz:=zuX}
instance (con:FuncId->Option Con) (ann:FuncId->Nat->Option Ann):Nonempty (NoF (zlU con ann)):=⟨⟨λ_ _ h=>zde h⟩⟩
end
end Go.Ev

end

section
open Go.Proofs
namespace Go.Ev
noncomputable section
open Classical in
def zdU (p:Prop) (a b:Int):Int:=if p then a else b
structure ztJ (c:D):Prop where
 out:c= .nil\/∃r,c= .list r
def zrN:Con:=λ| [.dat 22 c,.int .i64 n]=>some ((0<=n/\n<=c.len)/\c.len<=100/\ztJ c,.dat 22 (c.sub 0 n.toNat))|_=>none
def znA (c:D):Con:=λ| [.dat 40 l]=>some (zph l/\c=mD l,.dat 22 c)|_=>none
def znB (g:D):Con:=λ| [.dat 48 l,.int .i64 n]=>some ((zs7 l/\0<=n/\n<=64)/\g=gsD n l,.dat 23 g)|_=>none
def wk0 (c g:D):FuncId->Option Con
 |29=>some (znA c)
 |30=>some (zvG (znB g))
 |31=>some zpM
 |32=>some zrM
 |33=>some zrN
 |_=>none
def nL (N:Nat->Nat->Int) (m:Nat):List D:=(List.range 9).map λj=>if j<m then .int (N (j/3) (j%3)) else .int 0
def zda (x0 x1 x2:Int):List D:= [.int (zkD x0 63),.int (zkD x1 63),.int (zkD x2 63)]
def zvD (N:Nat->Nat->Int):FuncId->Nat->Option Ann
 |8,10=>some {τ:=Nat,slots:=λ_ _ x=> [(49,.int .i64 x)],blks:=λS _ x=> [(slB S 11,.grd 49 3 (nL N (3*x)))],inv:=λ_ _ x=>x<=3,meas:=λ_ _ x=>3-x}
 |8,13=>some {τ:=Nat,slots:=λ_ _ y=> [(52,.int .i64 y)],blks:=λS _ y=> [(slB S 11,.grd 49 3 (nL N (3*(slI S 12).toNat+y)))],inv:=λ_ _ y=>y<=3,meas:=λ_ _ y=>3-y}
 |8,24=>some {τ:=Nat,slots:=λ_ _ x=> [(166,.int .i64 x)],blks:=λ_ _ _=> [],inv:=λ_ _ x=>x<=3,meas:=λ_ _ x=>3-x}
 |8,27=>some {τ:=Nat,slots:=λ_ _ y=> [(169,.int .i64 y)],blks:=λ_ _ _=> [],inv:=λ_ _ y=>y<=3,meas:=λ_ _ y=>3-y}
 |8,32=>some {τ:=Nat,slots:=λ_ _ z=> [(184,.int .i64 z)],blks:=λ_ _ _=> [],inv:=λ_ _ z=>z<=3,meas:=λ_ _ z=>3-z}
 |_,_=>none
def ztU (A N:Nat->Nat->Int) (a0 b0 a1 b1 a2 b2 x0 x1 x2:Int) (s0 s1:Prop):FuncId->Nat->Option Ann
 |8,4=>some {τ:=Unit,slots:=λ_ _ _=> [],blks:=λ_ _ _=> [(0,.box 43 [.int .u8 a0,.int .u8 b0,.int .u8 (zdU s0 a0 a1),.int .u8 b1,.int .u8 a2,.int .u8 b2])],inv:=λ_ _ _=>True,meas:=λ_ _ _=>0}
 |8,6=>some {τ:=Unit,slots:=λ_ _ _=> [],blks:=λ_ _ _=> [(0,.box 43 [.int .u8 a0,.int .u8 b0,.int .u8 (zdU s0 a0 a1),.int .u8 b1,.int .u8 a2,.int .u8 (zdU s1 b1 b2)])],inv:=λ_ _ _=>True,meas:=λ_ _ _=>0}
 |8,7=>some {τ:=Unit,slots:=λ_ _ _=> [],blks:=λ_ _ _=> [(2,.grd 45 3 (zda x0 x1 x2))],inv:=λ_ _ _=>True,meas:=λ_ _ _=>0}
 |8,16=>some {τ:=Unit,slots:=λS _ _=> [(14,.int .i64 (A (slI S 12).toNat (slI S 13).toNat)),(15,.int .i64 (N (slI S 12).toNat (slI S 13).toNat))],blks:=λ_ _ _=> [],inv:=λ_ _ _=>True,meas:=λ_ _ _=>0}
 |8,20=>some {τ:=Unit,slots:=λ_ _ _=> [],blks:=λ_ _ _=> [],inv:=λ_ _ _=>True,meas:=λ_ _ _=>0}
 |8,36=>some {τ:=Unit,slots:=λ_ _ _=> [],blks:=λ_ _ _=> [],inv:=λ_ _ _=>True,meas:=λ_ _ _=>0}
 |_,_=>none
def zt1 (con:FuncId->Option Con) (A N:Nat->Nat->Int) (a0 b0 a1 b1 a2 b2 x0 x1 x2:Int) (s0 s1:Prop):Ctx:={ctx con (zvD N) with join:=ztU A N a0 b0 a1 b1 a2 b2 x0 x1 x2 s0 s1,gb:=λt=>Nat.beq t 45}
instance (con:FuncId->Option Con) (A N:Nat->Nat->Int) (a0 b0 a1 b1 a2 b2 x0 x1 x2:Int) (s0 s1:Prop):Nonempty (NoF (zt1 con A N a0 b0 a1 b1 a2 b2 x0 x1 x2 s0 s1)):=⟨⟨λ_ _ h=>zde h⟩⟩
end
end Go.Ev

end

section
namespace Go.Ev
noncomputable section
structure wkP {α:Type} (A:α->Prop) (f:α->α->Int):Prop where
 rng:∀a b,f a b= -1\/f a b=0\/f a b=1
 anti:∀a b,A a->A b->f b a= -f a b
 tri:∀a b c,A a->A b->A c->f a b<=0->f b c<=0->f a c=min (f a b) (f b c)
open Classical in
def zeb {α:Type} (r:α->α->Prop) (a b:α):Int:=if r a b then-1 else if r b a then 1 else 0
theorem ztV {α:Type} {A:α->Prop} {r:α->α->Prop} (has:∀a b,A a->A b->r a b->¬r b a) (hct:∀a b c,A a->A b->A c->r a b->r a c\/r c b):wkP A (zeb r):=by
 have key:∀a b,A a->A b->(zeb r a b= -1↔r a b)/\(zeb r a b=1↔r b a):=λa b ha hb=>by
  unfold zeb
  by_cases h:r a b
  .rw [if_pos h];exact ⟨⟨λ_=>h,λ_=>rfl⟩,⟨λh'=>by omega,λh'=>absurd h' (has a b ha hb h)⟩⟩
  .rw [if_neg h]
   by_cases h':r b a
   .rw [if_pos h'];exact ⟨⟨λk=>by omega,λk=>absurd k h⟩,⟨λ_=>h',λ_=>rfl⟩⟩
   .rw [if_neg h'];exact ⟨⟨λk=>by omega,λk=>absurd k h⟩,⟨λk=>by omega,λk=>absurd k h'⟩⟩
 have rng:∀a b,zeb r a b= -1\/zeb r a b=0\/zeb r a b=1:=λa b=>by
  unfold zeb
  by_cases h:r a b
  .rw [if_pos h];exact .inl rfl
  .rw [if_neg h]
   by_cases h':r b a
   .rw [if_pos h'];exact .inr (.inr rfl)
   .rw [if_neg h'];exact .inr (.inl rfl)
 refine ⟨rng,λa b ha hb=> ?_,λa b c ha hb hc h1 h2=> ?_⟩
 .have k1:=key a b ha hb
  have k2:=key b a hb ha
  rcases rng a b with h|h|h
  .rw [h,k2.2.2 (k1.1.1 h)];rfl
  .rcases rng b a with h'|h'|h'
   .have:=k1.2.2 (k2.1.1 h');omega
   .omega
   .have:=k1.1.2 (k2.2.1 h');omega
  .rw [h,k2.1.2 (k1.2.1 h)]
 .have k1:=key a b ha hb
  have k2:=key b c hb hc
  have k3:=key a c ha hc
  have n1:¬r b a:=λh=>by have:=k1.2.2 h;omega
  have n2:¬r c b:=λh=>by have:=k2.2.2 h;omega
  have n3:¬r c a:=λh=>(hct c a b hc ha hb h).elim n2 n1
  have e3:zeb r a c≠1:=λh=>n3 (k3.2.1 h)
  have r1:=rng a b
  have r2:=rng b c
  have r3:=rng a c
  by_cases p:r a b
  .have x1:=k1.1.2 p
   have:r a c:=(hct a b c ha hb hc p).elim id λh=>absurd h n2
   have:=k3.1.2 this;omega
  .by_cases q:r b c
   .have x2:=k2.1.2 q
    have:r a c:=(hct b c a hb hc ha q).elim (λh=>absurd h n1) id
    have:=k3.1.2 this;omega
   .have x1:zeb r a b≠ -1:=λh=>p (k1.1.1 h)
    have x2:zeb r b c≠ -1:=λh=>q (k2.1.1 h)
    have x3:zeb r a c≠ -1:=λh=>(hct a c b ha hc hb (k3.1.1 h)).elim p q
    omega
def zhP (f:Nat->Int):Nat->Int
 |0=>0
 |n+1=>if zhP f n≠0 then zhP f n else f n
theorem zsG (f:Nat->Int):∀m,(zbL f m 0).2=zhP f m:=by
 have step:∀m i,(zbL f (m+1) i).2=if (zbL f m i).2≠0 then (zbL f m i).2 else f (i+m):=by
  intro m
  induction m with
  |zero=>
   intro i
   unfold zbL
   by_cases h:f i≠0
   .rw [if_pos h];simp [zbL]
   .rw [if_neg h];simp only [zbL,ne_eq,not_true_eq_false,if_false,Nat.add_zero];omega
  |succ m ih=>
   intro i
   have e:zbL f (m+1+1) i=if f i≠0 then (((i:Nat):Int),f i) else zbL f (m+1) (i+1):=rfl
   have e':zbL f (m+1) i=if f i≠0 then (((i:Nat):Int),f i) else zbL f m (i+1):=rfl
   rw [e,e']
   by_cases h:f i≠0
   .rw [if_pos h,if_pos h];simp only [if_pos h]
   .rw [if_neg h,if_neg h,ih (i+1),show i+1+m=i+(m+1) by omega]
 intro m
 induction m with
 |zero=>rfl
 |succ m ih=>rw [step m 0,ih,Nat.zero_add];rfl
theorem zk9 {f:Nat->Int}:∀{n:Nat},zhP f n=0->∀k,k<n->f k=0
 |0,_,k,hk=>absurd hk (Nat.not_lt_zero _)
 |n+1,h,k,hk=>by
  unfold zhP at h
  by_cases h0:zhP f n≠0
  .rw [if_pos h0] at h;exact absurd h h0
  .rw [if_neg h0] at h
   have h0:zhP f n=0:=by omega
   by_cases e:k=n
   .subst e;exact h
   .exact zk9 h0 k (by omega)
theorem ztW {α:Type} {A:α->Prop} {f:α->α->Nat->Int} {n:Nat} (hr:∀k,k<n->∀a b,f a b k= -1\/f a b k=0\/f a b k=1) (ha:∀k,k<n->∀a b,A a->A b->f b a k= -f a b k)
  (ht:∀k,k<n->∀a b c,A a->A b->A c->zhP (f a b) k=0->zhP (f b c) k=0->f a b k<=0->f b c k<=0->f a c k=min (f a b k) (f b c k)):wkP A (λa b=>zhP (f a b) n):=by
 induction n with
 |zero=>exact ⟨λ_ _=> .inr (.inl rfl),λ_ _ _ _=>rfl,λ_ _ _ _ _ _ _ _=>rfl⟩
 |succ n ih=>
  have ih:=ih (λk hk=>hr k (by omega)) (λk hk=>ha k (by omega)) (λk hk=>ht k (by omega))
  have e:∀a b,zhP (f a b) (n+1)=if zhP (f a b) n≠0 then zhP (f a b) n else f a b n:=λ_ _=>rfl
  refine ⟨λa b=> ?_,λa b h1 h2=> ?_,λa b c h1 h2 h3 h4 h5=> ?_⟩
  .rw [e];split
   .exact ih.rng a b
   .exact hr n (by omega) a b
  .have:=ih.anti a b h1 h2
   have:=ha n (by omega) a b h1 h2
   simp only [e]
   split<;>split<;>omega
  .have t:=ih.tri a b c h1 h2 h3
   have:=ih.rng a b
   have:=ih.rng b c
   have:=hr n (by omega) a b
   have:=hr n (by omega) b c
   have:=hr n (by omega) a c
   simp only [e] at h4 h5⊢
   by_cases p:zhP (f a b) n=0
   .by_cases q:zhP (f b c) n=0
    .rw [if_neg (by omega)] at h4 h5
     have t:=t (by omega) (by omega)
     rw [p,q] at t
     have t:zhP (f a c) n=0:=t
     rw [if_neg (by omega),if_neg (by omega),if_neg (by omega)]
     exact ht n (by omega) a b c h1 h2 h3 p q h4 h5
    .rw [if_neg (by omega)] at h4
     rw [if_pos q] at h5
     have t:=t (by omega) (by omega)
     rw [if_pos (by omega),if_neg (by omega),if_pos q];omega
   .rw [if_pos p] at h4
    by_cases q:zhP (f b c) n=0
    .rw [if_neg (by omega)] at h5
     have t:=t (by omega) (by omega)
     rw [if_pos (by omega),if_pos p,if_neg (by omega)];omega
    .rw [if_pos q] at h5
     have t:=t (by omega) (by omega)
     rw [if_pos (by omega),if_pos p,if_pos q];omega
end
end Go.Ev

end

section
namespace Go.Ev
noncomputable section
theorem ze0:∀(x y z:List UInt8),Op.bytesLess x y=true->Op.bytesLess y z=true->Op.bytesLess x z=true
 | [],[],_,h,_=>by simp [Op.bytesLess] at h
 |a::x,[],_,h,_=>by simp [Op.bytesLess] at h
 |_,b::y,[],_,h=>by simp [Op.bytesLess] at h
 | [],b::y,c::z,_,_=>rfl
 |a::x,b::y,c::z,h1,h2=>by
  unfold Op.bytesLess at h1 h2⊢
  simp only [Bool.or_eq_true,Bool.and_eq_true,decide_eq_true_eq,beq_iff_eq] at h1 h2⊢
  rcases h1 with h1| ⟨rfl,h1⟩
  .rcases h2 with h2| ⟨rfl,h2⟩
   .have h1:=UInt8.lt_iff_toNat_lt.1 h1
    have h2:=UInt8.lt_iff_toNat_lt.1 h2
    exact .inl (UInt8.lt_iff_toNat_lt.2 (by omega))
   .exact .inl h1
  .rcases h2 with h2| ⟨rfl,h2⟩
   .exact .inl h2
   .exact .inr ⟨rfl,ze0 x y z h1 h2⟩
theorem zg7:∀(x y:List UInt8),Op.bytesLess x y=true\/x=y\/Op.bytesLess y x=true
 | [],[]=> .inr (.inl rfl)
 | [],b::y=> .inl rfl
 |a::x,[]=> .inr (.inr rfl)
 |a::x,b::y=>by
  unfold Op.bytesLess
  simp only [Bool.or_eq_true,Bool.and_eq_true,decide_eq_true_eq,beq_iff_eq]
  by_cases e:a=b
  .subst e
   rcases zg7 x y with h|rfl|h
   .exact .inl (.inr ⟨rfl,h⟩)
   .exact .inr (.inl rfl)
   .exact .inr (.inr (.inr ⟨rfl,h⟩))
  .have h2:a.toNat≠b.toNat:=λk=>e (UInt8.toNat_inj.1 k)
   by_cases h:a.toNat<b.toNat
   .exact .inl (.inl (UInt8.lt_iff_toNat_lt.2 h))
   .exact .inr (.inr (.inl (UInt8.lt_iff_toNat_lt.2 (by omega))))
theorem zk1:∀(x:List UInt8),¬Op.bytesLess x x=true
 | [],h=>by simp [Op.bytesLess] at h
 |a::x,h=>by
  unfold Op.bytesLess at h
  simp only [Bool.or_eq_true,Bool.and_eq_true,decide_eq_true_eq,beq_iff_eq] at h
  rcases h with h| ⟨_,h⟩
  .have h:=UInt8.lt_iff_toNat_lt.1 h;omega
  .exact zk1 x h
theorem ztL {x y:List UInt8} (h:sLt x y):¬sLt y x:=λh'=>zk1 x (ze0 x y x h.out h'.out)
theorem ztM {x y:List UInt8} (z:List UInt8) (h:sLt x y):sLt x z\/sLt z y:=by
 rcases zg7 x z with h'|rfl|h'
 .exact .inl ⟨h'⟩
 .exact .inr h
 .exact .inr ⟨ze0 z x y h' h.out⟩
theorem ztf {k:Int} {la:Prop} {nm:D} {n:Int} {a b:GD} {i j:Int} (h:zdd k la nm n a b i j):¬zdd k la nm n b a j i:=λh'=>by
 rcases h.out with h|h|h|h|h|h|h<;>rcases h'.out with g|g|g|g|g|g|g<;>try omega
 .exact ztL h.2 g.2
 .rcases h.2 with h|h<;>rcases g.2 with g|g
  .exact h.2.1 g.2.2
  .exact g.1 h.1
  .exact h.1 g.1
  .exact h.2.2 g.2.1
theorem ztg {k:Int} {la:Prop} {nm:D} {n:Int} {a b:GD} {i j:Int} (c:GD) {m:Int} (hm:inB m) (h:zdd k la nm n a b i j):zdd k la nm n a c i m\/zdd k la nm n c b m j:=by
 rcases h.out with ⟨rfl,g⟩| ⟨rfl,g⟩| ⟨rfl,g⟩| ⟨rfl,g⟩| ⟨rfl,h1,h2,g⟩| ⟨rfl,h1,h2,g⟩| ⟨hk,g⟩
 .by_cases e:idx nm a.rk<idx nm c.rk
  .exact .inl ⟨.inl ⟨rfl,e⟩⟩
  .exact .inr ⟨.inl ⟨rfl,by omega⟩⟩
 .by_cases e:a.si≠0/\(c.si=0\/a.si<c.si)
  .exact .inl ⟨.inr (.inl ⟨rfl,e⟩)⟩
  .exact .inr ⟨.inr (.inl ⟨rfl,by omega⟩)⟩
 .by_cases e:a.si≠0/\(c.si=0\/c.si<a.si)
  .exact .inl ⟨.inr (.inr (.inl ⟨rfl,e⟩))⟩
  .exact .inr ⟨.inr (.inr (.inl ⟨rfl,by omega⟩))⟩
 .rcases ztM c.nm g with h|h
  .exact .inl ⟨.inr (.inr (.inr (.inl ⟨rfl,h⟩)))⟩
  .exact .inr ⟨.inr (.inr (.inr (.inl ⟨rfl,h⟩)))⟩
 .by_cases e:i<m
  .exact .inl ⟨.inr (.inr (.inr (.inr (.inl ⟨rfl,h1,hm,e⟩))))⟩
  .exact .inr ⟨.inr (.inr (.inr (.inr (.inl ⟨rfl,hm,h2,by omega⟩))))⟩
 .by_cases e:zl3 i n<zl3 m n
  .exact .inl ⟨.inr (.inr (.inr (.inr (.inr (.inl ⟨rfl,h1,hm,e⟩)))))⟩
  .exact .inr ⟨.inr (.inr (.inr (.inr (.inr (.inl ⟨rfl,hm,h2,by omega⟩)))))⟩
 .by_cases e:naP k nm n c
  .rcases g with ⟨hl,h⟩| ⟨hl,h⟩
   .exact .inl ⟨.inr (.inr (.inr (.inr (.inr (.inr ⟨hk,.inl ⟨hl,h.1,e⟩⟩)))))⟩
   .exact .inr ⟨.inr (.inr (.inr (.inr (.inr (.inr ⟨hk,.inr ⟨hl,e,h.2⟩⟩)))))⟩
  .rcases g with ⟨hl,h⟩| ⟨hl,h⟩
   .exact .inr ⟨.inr (.inr (.inr (.inr (.inr (.inr ⟨hk,.inl ⟨hl,e,h.2⟩⟩)))))⟩
   .exact .inl ⟨.inr (.inr (.inr (.inr (.inr (.inr ⟨hk,.inr ⟨hl,h.1,e⟩⟩)))))⟩
theorem znY {l:D} {s t:List UInt8} (h:zbn l s) (e:idx l s=idx l t):t=s:=by
 have gen:∀(f i:Nat),i+f=l.len->(zb4 l s f i<l.len->sAt l (zb4 l s f i)=s):=by
  intro f
  induction f with
  |zero=>intro i hi h;unfold zb4 at h;omega
  |succ f ih=>
   intro i hi h
   unfold zb4 at h⊢
   by_cases c:sAt l i=s
   .rw [if_pos c];exact c
   .rw [if_neg c] at h⊢;exact ih (i+1) (by omega) h
 have gen':∀(f i:Nat),i+f=l.len->(zb4 l t f i<l.len->sAt l (zb4 l t f i)=t):=by
  intro f
  induction f with
  |zero=>intro i hi h;unfold zb4 at h;omega
  |succ f ih=>
   intro i hi h
   unfold zb4 at h⊢
   by_cases c:sAt l i=t
   .rw [if_pos c];exact c
   .rw [if_neg c] at h⊢;exact ih (i+1) (by omega) h
 have lt:∀(f i:Nat),i+f=l.len->(∃x,i<=x/\x<l.len/\sAt l x=s)->zb4 l s f i<l.len:=by
  intro f
  induction f with
  |zero=>rintro i hi ⟨x,h1,h2,_⟩;omega
  |succ f ih=>
   rintro i hi ⟨x,h1,h2,h3⟩
   unfold zb4
   by_cases c:sAt l i=s
   .rw [if_pos c];omega
   .rw [if_neg c]
    refine ih (i+1) (by omega) ⟨x, ?_,h2,h3⟩
    by_cases e:x=i
    .exact absurd (e▸h3) c
    .omega
 obtain ⟨x,hx,hs⟩:=h.out
 have h1:=lt l.len 0 (Nat.zero_add _) ⟨x,Nat.zero_le _,hx,hs⟩
 have h2:=gen l.len 0 (Nat.zero_add _) h1
 have h3:=gen' l.len 0 (Nat.zero_add _) (by show idx l t<l.len;rw [<-e];exact h1)
 rw [<-h2,<-h3]
 show sAt l (idx l t)=sAt l (idx l s)
 rw [e]
theorem zfU {c:D} {a b:GD} {i j:Int} {x:Nat}:clE c a b i j x=if cA (el c x)≠ []/\(a.rk≠cA (el c x)\/b.rk≠cA (el c x)) then 0 else zeb (λp q:GD×Int=>zdd (cK (el c x)) (cL (el c x)) (cNm (el c x)) (cN (el c x)) p.1 q.1 p.2 q.2) (a,i) (b,j):=rfl
theorem zjo {c:D} (h:(zbl c).2=0):∀x,x<c.len->zcM c x=0:=by
 unfold zbl at h
 by_cases hl:32<c.len
 .rw [if_pos hl] at h;cases h
 .rw [if_neg hl] at h
  have gen:∀(f i:Nat),i+f=c.len->(zbk c f i).2=0->∀x,i<=x->x<c.len->zcM c x=0:=by
   intro f
   induction f with
   |zero=>intro i hi _ x h1 h2;omega
   |succ f ih=>
    intro i hi h x h1 h2
    unfold zbk at h
    by_cases e:zcM c i≠0
    .rw [if_pos e] at h;exact absurd h e
    .rw [if_neg e] at h
     by_cases k:x=i
     .subst k;exact Classical.byContradiction e
     .exact ih (i+1) (by omega) h x (by omega) h2
  exact λx hx=>gen c.len 0 (Nat.zero_add _) h x (Nat.zero_le _) hx
theorem ziG {c:D} {x:Nat} (h:zcM c x=0):zax (cK (el c x)) (cA (el c x)) (cL (el c x)) (cNm (el c x)).len (cN (el c x))/\(cA (el c x)= []\/zaJ c x (cA (el c x))):=by
 unfold zcM zcy at h
 by_cases h1:zax (cK (el c x)) (cA (el c x)) (cL (el c x)) (cNm (el c x)).len (cN (el c x))
 .refine ⟨h1, ?_⟩
  rw [if_neg (λk=>k h1)] at h
  by_cases h2:zeS (cNm (el c x))\/(cA (el c x)≠ []/\¬zaB (cA (el c x)))
  .rw [if_pos h2] at h;cases h
  .rw [if_neg h2] at h
   by_cases h3:zbc (cNm (el c x))
   .rw [if_pos h3] at h;cases h
   .rw [if_neg h3] at h
    by_cases h4:cA (el c x)≠ []/\¬zaJ c x (cA (el c x))
    .rw [if_pos h4] at h;cases h
    .by_cases e:cA (el c x)= []
     .exact .inl e
     .exact .inr (Classical.byContradiction λk=>h4 ⟨e,k⟩)
 .rw [if_pos h1] at h;cases h
theorem zlE {c:D} (hv:(zbl c).2=0) {x:Nat} (hx:x<c.len) (hne:cA (el c x)≠ []) {a b:GD} {i j:Int} (h:zhP (clE c a b i j) x=0):a.rk=cA (el c x)↔b.rk=cA (el c x):=by
 obtain ⟨k,hk,h1,h2⟩:=((ziG (zjo hv x hx)).2.resolve_left hne).out
 have hf:=(ziG (zjo hv k (by omega))).1
 have ha:cA (el c k)= []:=by rcases hf.out with f|f|f|f|f|f<;>first|exact f.2.2.2.2.2|omega
 have h0:=zk9 h k hk
 rw [zfU,if_neg (λq=>q.1 ha)] at h0
 unfold zeb at h0
 have n1:¬idx (cNm (el c k)) a.rk<idx (cNm (el c k)) b.rk:=λq=>by
  rw [if_pos ⟨.inl ⟨h1,q⟩⟩] at h0;cases h0
 have n2:¬idx (cNm (el c k)) b.rk<idx (cNm (el c k)) a.rk:=λq=>by
  rw [if_neg (λz=>n1 (by rcases z.out with z|z|z|z|z|z|z<;>first|exact z.2|omega)),if_pos ⟨.inl ⟨h1,q⟩⟩] at h0;cases h0
 have e:idx (cNm (el c k)) a.rk=idx (cNm (el c k)) b.rk:=by omega
 constructor
 .intro q;exact znY h2 (by rw [<-q];exact e)
 .intro q;exact znY h2 (by rw [<-q];exact e.symm)
def zvJ (c:D) (p q:GD×Int):Int:=zhP (clE c p.1 q.1 p.2 q.2) c.len
theorem zlG {c:D} (hv:(zbl c).2=0):wkP (λp:GD×Int=>inB p.2) (zvJ c):=by
 have hb:∀x,wkP (λp:GD×Int=>inB p.2) (zeb (λp q:GD×Int=>zdd (cK (el c x)) (cL (el c x)) (cNm (el c x)) (cN (el c x)) p.1 q.1 p.2 q.2)):=λx=>
  ztV (λa b _ _ h=>ztf h) (λa b d _ _ hd h=>ztg d.1 hd h)
 refine ztW (f:=λ(p q:GD×Int)=>clE c p.1 q.1 p.2 q.2) (λk _ a b=> ?_) (λk _ a b h1 h2=> ?_) (λk hk a b d h1 h2 h3 t1 t2 l1 l2=> ?_)
 .rw [zfU];split
  .exact .inr (.inl rfl)
  .exact (hb k).rng _ _
 .rw [zfU,zfU]
  by_cases q:cA (el c k)≠ []/\(a.1.rk≠cA (el c k)\/b.1.rk≠cA (el c k))
  .rw [if_pos q,if_pos ⟨q.1,q.2.symm⟩];rfl
  .rw [if_neg q,if_neg (λz=>q ⟨z.1,z.2.symm⟩)];exact (hb k).anti _ _ h1 h2
 .rw [zfU] at l1 l2⊢
  rw [zfU,zfU]
  by_cases e:cA (el c k)= []
  .have n:∀p:Prop,¬(cA (el c k)≠ []/\p):=λ_ q=>q.1 e
   rw [if_neg (n _)] at l1 l2⊢
   rw [if_neg (n _),if_neg (n _)]
   exact (hb k).tri _ _ _ h1 h2 h3 l1 l2
  .have r1:=zlE hv hk e t1
   have r2:=zlE hv hk e t2
   by_cases q:a.1.rk=cA (el c k)
   .have q2:=r1.1 q
    have q3:=r2.1 q2
    rw [if_neg (λz=>z.2.elim (λz=>z q) (λz=>z q2))] at l1
    rw [if_neg (λz=>z.2.elim (λz=>z q2) (λz=>z q3))] at l2
    rw [if_neg (λz=>z.2.elim (λz=>z q) (λz=>z q3)),if_neg (λz=>z.2.elim (λz=>z q) (λz=>z q2)),if_neg (λz=>z.2.elim (λz=>z q2) (λz=>z q3))]
    exact (hb k).tri _ _ _ h1 h2 h3 l1 l2
   .have q2:b.1.rk≠cA (el c k):=λz=>q (r1.2 z)
    rw [if_pos ⟨e,.inl q⟩,if_pos ⟨e,.inl q⟩,if_pos ⟨e,.inl q2⟩];rfl
end
end Go.Ev

end

section
open Go.Proofs
namespace Go.Ev
noncomputable section
set_option maxRecDepth 100000
theorem zlm {c:D}:∀(f i:Nat),(∀k,i<=k->k<i+f->zcM c k=0)->zbk c f i=(0,0)
 |0,_,_=>rfl
 |f+1,i,h=>by
  unfold zbk
  rw [if_neg (λk=>k (h i (Nat.le_refl _) (by omega)))]
  exact zlm f (i+1) λk h1 h2=>h k (by omega) (by omega)
theorem zmU {c:D} (hl:c.len<=32) (h:∀i,i<c.len->zcM c i=0):(zbl c).2=0:=by
 unfold zbl
 rw [if_neg (by omega),zlm _ _ λk _ h2=>h k (by omega)]
theorem zrE {c:D} (h:(zbl c).2=0) {x:Nat} (hx:x<c.len):zcM c x=0:=by
 unfold zbl at h
 split at h
 .cases h
 .exact zgp c.len 0 h x (Nat.zero_le _) (by omega)
theorem zpZ {c:D} {i:Nat} {k:Int} {a:List UInt8} {la:Prop} {nm:D} {n:Int}:
  zcy c i k a la nm n=0↔zax k a la nm.len n/\¬zeS nm/\¬(a≠ []/\¬zaB a)/\¬zbc nm/\¬(a≠ []/\¬zaJ c i a):=by
 unfold zcy
 by_cases h1:zax k a la nm.len n
 .rw [if_neg (λq=>q h1)]
  by_cases h2:zeS nm\/(a≠ []/\¬zaB a)
  .rw [if_pos h2];exact ⟨λq=>by omega,λq=>(h2.elim (λw=>q.2.1 w) (λw=>q.2.2.1 w)).elim⟩
  .rw [if_neg h2]
   by_cases h3:zbc nm
   .rw [if_pos h3];exact ⟨λq=>by omega,λq=>(q.2.2.2.1 h3).elim⟩
   .rw [if_neg h3]
    by_cases h4:a≠ []/\¬zaJ c i a
    .rw [if_pos h4];exact ⟨λq=>by omega,λq=>(q.2.2.2.2 h4).elim⟩
    .rw [if_neg h4];exact ⟨λ_=>⟨h1,λw=>h2 (.inl w),λw=>h2 (.inr w),h3,h4⟩,λ_=>rfl⟩
 .rw [if_pos h1];exact ⟨λq=>by omega,λq=>(h1 q.1).elim⟩
theorem zev (l:List D):(zdV l).asList=l:=by cases l<;>rfl
end
end Go.Ev

end
