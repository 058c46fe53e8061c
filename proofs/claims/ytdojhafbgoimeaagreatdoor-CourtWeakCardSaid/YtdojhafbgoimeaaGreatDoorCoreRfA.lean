/- Part of the proof. -/
import Derived.Test.YtdojhafbgoimeaaGreatDoorCoreG27
open Go.Proofs
namespace Go.Ev
set_option maxRecDepth 100000
set_option maxHeartbeats 4000000
theorem zxt:∀(pa pb:Int) (nm:List UInt8),zae (zlU (λ_=>none) zhS) 3 (90:FuncId) [V.agg [V.int IntKind.u8 pa,V.int IntKind.u8 pb],V.str nm] (gV (pG pa pb nm))=(((3:Int)=0->False)/\0<=pa/\
(0:Int)<=64/\(0<=pa/\pa<256)/\((0:Int)<=64/\(64:Int)<256)/\((4:Int)=0->False)/\fits64 (10*IntKind.i64.wrap (pb.tmod 4))/\0<=pb/\(0:Int)<=128/\(0<=pb/\pb<256)/\((0:Int)<=128/\(128
:Int)<256)/\(0<=pa/\(0:Int)<=4/\(0<=pa/\pa<256)/\((0:Int)<=4/\(4:Int)<256)/\((zaf pa 4=0->False)->(0:Int)<=3/\0<=zbF IntKind.u8 pa 3/\(0:Int)<=3/\(0<=zbF IntKind.u8 pa 3/\zbF
IntKind.u8 pa 3<256)/\((0:Int)<=3/\(3:Int)<256)/\0<=zaf (zbF IntKind.u8 pa 3) 3/\zaf (zbF IntKind.u8 pa 3) 3<=(zb7.length:Int)/\(zb7.length:Int)<=(zb7.length:Int)/\(0:Int)<=0/\(0:
Int)<=1/\1<=(↑(List.take (zb7.length-(zaf (zbF IntKind.u8 pa 3) 3).toNat) (List.drop (zaf (zbF IntKind.u8 pa 3) 3).toNat zb7)).length:Int)/\∃(x:Unit),True/\True/\(nm=nm/\ze1 (zaf (zbF
IntKind.u8 pa 3) 3)=pRk pa/\([]:List UInt8)= []/\10*IntKind.i64.wrap (pb.tmod 4)=10*IntKind.i64.wrap (pb.tmod 4)/\IntKind.i64.wrap (pa.tmod 3)=IntKind.i64.wrap (pa.tmod 3)/\([]:List UInt8)= []/\
(zaf pa 64=0->False↔zaf pa 64=0->False)/\(zaf pb 128=0->False↔zaf pb 128=0->False)/\True/\True)/\True)/\(((zaf pa 4=0->False)->False)->∃(x:Unit),True/\True/\(nm=nm/\ []=pRk
pa/\([]:List UInt8)= []/\10*IntKind.i64.wrap (pb.tmod 4)=10*IntKind.i64.wrap (pb.tmod 4)/\IntKind.i64.wrap (pa.tmod 3)=IntKind.i64.wrap (pa.tmod 3)/\([]:List UInt8)= []/\(zaf pa 64=0->False↔
zaf pa 64=0->False)/\(zaf pb 128=0->False↔zaf pb 128=0->False)/\True/\True)/\True))/\∀(x:Unit),True->(0<=pb/\(0:Int)<=4/\(0<=pb/\pb<256)/\((0:Int)<=4/\(4:Int)<256)/\((zaf
pb 4=0->False)->(0:Int)<=3/\0<=zbF IntKind.u8 pb 3/\(0:Int)<=3/\(0<=zbF IntKind.u8 pb 3/\zbF IntKind.u8 pb 3<256)/\((0:Int)<=3/\(3:Int)<256)/\0<=zaf (zbF IntKind.u8 pb 3) 3/\zaf
(zbF IntKind.u8 pb 3) 3<=(zb7.length:Int)/\(zb7.length:Int)<=(zb7.length:Int)/\(0:Int)<=0/\(0:Int)<=1/\1<=(↑(List.take (zb7.length-(zaf (zbF IntKind.u8 pb 3) 3).toNat) (List.drop (zaf (zbF
IntKind.u8 pb 3) 3).toNat zb7)).length:Int)/\∃(x:Unit),True/\True/\(nm=nm/\pRk pa=pRk pa/\ze1 (zaf (zbF IntKind.u8 pb 3) 3)=pCt pb/\10*IntKind.i64.wrap (pb.tmod 4)=10*IntKind.i64.wrap
(pb.tmod 4)/\IntKind.i64.wrap (pa.tmod 3)=IntKind.i64.wrap (pa.tmod 3)/\([]:List UInt8)= []/\(zaf pa 64=0->False↔zaf pa 64=0->False)/\(zaf pb 128=0->False↔zaf pb 128=0->False)/\True/\
True)/\True)/\(((zaf pb 4=0->False)->False)->∃(x:Unit),True/\True/\(nm=nm/\pRk pa=pRk pa/\ []=pCt pb/\10*IntKind.i64.wrap (pb.tmod 4)=10*IntKind.i64.wrap (pb.tmod 4)/\IntKind.i64.wrap
(pa.tmod 3)=IntKind.i64.wrap (pa.tmod 3)/\([]:List UInt8)= []/\(zaf pa 64=0->False↔zaf pa 64=0->False)/\(zaf pb 128=0->False↔zaf pb 128=0->False)/\True/\True)/\True))/\∀(x:Unit),
True->(0<=pb/\(0:Int)<=64/\(0<=pb/\pb<256)/\((0:Int)<=64/\(64:Int)<256)/\((zaf pb 64=0->False)->(0:Int)<=4/\0<=zbF IntKind.u8 pa 4/\(0:Int)<=3/\(0<=zbF IntKind.u8 pa 4/\zbF
IntKind.u8 pa 4<256)/\((0:Int)<=3/\(3:Int)<256)/\0<=zaf (zbF IntKind.u8 pa 4) 3/\zaf (zbF IntKind.u8 pa 4) 3<=(zb7.length:Int)/\(zb7.length:Int)<=(zb7.length:Int)/\(0:Int)<=0/\(0:
Int)<=1/\1<=(↑(List.take (zb7.length-(zaf (zbF IntKind.u8 pa 4) 3).toNat) (List.drop (zaf (zbF IntKind.u8 pa 4) 3).toNat zb7)).length:Int)/\0+1<= [D.str (ze1 (zaf (zbF IntKind.u8 pa 4) 3))].length/\
((∃(x:Unit),zaf pb 64=0/\True/\(nm=nm/\pRk pa=pRk pa/\pCt pb=pCt pb/\10*IntKind.i64.wrap (pb.tmod 4)=10*IntKind.i64.wrap (pb.tmod 4)/\IntKind.i64.wrap (pa.tmod 3)=IntKind.i64.wrap (pa.tmod 3)
/\([]:List UInt8)= []/\(zaf pa 64=0->False↔zaf pa 64=0->False)/\(zaf pb 128=0->False↔zaf pb 128=0->False)/\False/\True)/\True)\/∃(x:Unit),(zaf pb 64=0->False)/\True/\(nm=nm/\
pRk pa=pRk pa/\pCt pb=pCt pb/\10*IntKind.i64.wrap (pb.tmod 4)=10*IntKind.i64.wrap (pb.tmod 4)/\IntKind.i64.wrap (pa.tmod 3)=IntKind.i64.wrap (pa.tmod 3)/\([]:List UInt8)= []/\(zaf pa 64=0->False
↔zaf pa 64=0->False)/\(zaf pb 128=0->False↔zaf pb 128=0->False)/\D.list (List.take 1 [D.str (ze1 (zaf (zbF IntKind.u8 pa 4) 3))])=D.list [D.str (ze1 (zmI pa 4))]/\True)/\True))/\(((zaf pb
64=0->False)->False)->(∃(x:Unit),zaf pb 64=0/\True/\(nm=nm/\pRk pa=pRk pa/\pCt pb=pCt pb/\10*IntKind.i64.wrap (pb.tmod 4)=10*IntKind.i64.wrap (pb.tmod 4)/\IntKind.i64.wrap (pa.tmod 3)=
IntKind.i64.wrap (pa.tmod 3)/\([]:List UInt8)= []/\(zaf pa 64=0->False↔zaf pa 64=0->False)/\(zaf pb 128=0->False↔zaf pb 128=0->False)/\True/\True)/\True)\/∃(x:Unit),(zaf pb 64=0
->False)/\True/\(nm=nm/\pRk pa=pRk pa/\pCt pb=pCt pb/\10*IntKind.i64.wrap (pb.tmod 4)=10*IntKind.i64.wrap (pb.tmod 4)/\IntKind.i64.wrap (pa.tmod 3)=IntKind.i64.wrap (pa.tmod 3)/\([]:List UInt8)=
[]/\(zaf pa 64=0->False↔zaf pa 64=0->False)/\(zaf pb 128=0->False↔zaf pb 128=0->False)/\False/\True)/\True))/\(∀(x:Unit),zaf pb 64=0->(0<=pa/\(0:Int)<=128/\(0<=pa/\pa<256)
/\((0:Int)<=128/\(128:Int)<256)/\((zaf pa 128=0->False)->(0:Int)<=4/\0<=zbF IntKind.u8 pb 4/\(0:Int)<=3/\(0<=zbF IntKind.u8 pb 4/\zbF IntKind.u8 pb 4<256)/\((0:Int)<=3/\(3:Int)<
256)/\0<=zaf (zbF IntKind.u8 pb 4) 3/\zaf (zbF IntKind.u8 pb 4) 3<=(zb7.length:Int)/\(zb7.length:Int)<=(zb7.length:Int)/\(0:Int)<=0/\(0:Int)<=1/\1<=(↑(List.take (zb7.length-(zaf (zbF
IntKind.u8 pb 4) 3).toNat) (List.drop (zaf (zbF IntKind.u8 pb 4) 3).toNat zb7)).length:Int)/\∃(x:Unit),True/\True/\(nm=nm/\pRk pa=pRk pa/\pCt pb=pCt pb/\10*IntKind.i64.wrap (pb.tmod 4)=10*
IntKind.i64.wrap (pb.tmod 4)/\IntKind.i64.wrap (pa.tmod 3)=IntKind.i64.wrap (pa.tmod 3)/\ze1 (zaf (zbF IntKind.u8 pb 4) 3)=pDi pa pb/\(zaf pa 64=0->False↔zaf pa 64=0->False)/\(zaf pb 128=0->
False↔zaf pb 128=0->False)/\True/\True)/\True)/\(((zaf pa 128=0->False)->False)->∃(x:Unit),True/\True/\(nm=nm/\pRk pa=pRk pa/\pCt pb=pCt pb/\10*IntKind.i64.wrap (pb.tmod 4)=10*
IntKind.i64.wrap (pb.tmod 4)/\IntKind.i64.wrap (pa.tmod 3)=IntKind.i64.wrap (pa.tmod 3)/\ []=pDi pa pb/\(zaf pa 64=0->False↔zaf pa 64=0->False)/\(zaf pb 128=0->False↔zaf pb 128=0->False)/\
True/\True)/\True))/\∀(x:Unit),True->nm=(pG pa pb nm).nm/\pRk pa=(pG pa pb nm).rk/\pCt pb=(pG pa pb nm).ct/\10*IntKind.i64.wrap (pb.tmod 4)=(pG pa pb nm).si/\IntKind.i64.wrap (pa.tmod 3)=(pG pa pb
nm).sd/\pDi pa pb=(pG pa pb nm).di/\(zaf pa 64=0->False↔zaf pa 64=0->False)/\(zaf pb 128=0->False↔zaf pb 128=0->False)/\D.nil=(pG pa pb nm).tg/\True)/\∀(x:Unit),(zaf pb 64=0->
False)->(0<=pa/\(0:Int)<=128/\(0<=pa/\pa<256)/\((0:Int)<=128/\(128:Int)<256)/\((zaf pa 128=0->False)->(0:Int)<=4/\0<=zbF IntKind.u8 pb 4/\(0:Int)<=3/\(0<=zbF IntKind.u8 pb 4/\zbF
IntKind.u8 pb 4<256)/\((0:Int)<=3/\(3:Int)<256)/\0<=zaf (zbF IntKind.u8 pb 4) 3/\zaf (zbF IntKind.u8 pb 4) 3<=(zb7.length:Int)/\(zb7.length:Int)<=(zb7.length:Int)/\(0:Int)<=0/\(0:
Int)<=1/\1<=(↑(List.take (zb7.length-(zaf (zbF IntKind.u8 pb 4) 3).toNat) (List.drop (zaf (zbF IntKind.u8 pb 4) 3).toNat zb7)).length:Int)/\∃(x:Unit),True/\True/\(nm=nm/\pRk pa=pRk pa/\pCt pb
=pCt pb/\10*IntKind.i64.wrap (pb.tmod 4)=10*IntKind.i64.wrap (pb.tmod 4)/\IntKind.i64.wrap (pa.tmod 3)=IntKind.i64.wrap (pa.tmod 3)/\ze1 (zaf (zbF IntKind.u8 pb 4) 3)=pDi pa pb/\(zaf pa 64=0->
False↔zaf pa 64=0->False)/\(zaf pb 128=0->False↔zaf pb 128=0->False)/\D.list [D.str (ze1 (zmI pa 4))]=D.list [D.str (ze1 (zmI pa 4))]/\True)/\True)/\(((zaf pa 128=0->False)->False)->∃
(x:Unit),True/\True/\(nm=nm/\pRk pa=pRk pa/\pCt pb=pCt pb/\10*IntKind.i64.wrap (pb.tmod 4)=10*IntKind.i64.wrap (pb.tmod 4)/\IntKind.i64.wrap (pa.tmod 3)=IntKind.i64.wrap (pa.tmod 3)/\ []=pDi pa
pb/\(zaf pa 64=0->False↔zaf pa 64=0->False)/\(zaf pb 128=0->False↔zaf pb 128=0->False)/\D.list [D.str (ze1 (zmI pa 4))]=D.list [D.str (ze1 (zmI pa 4))]/\True)/\True))/\∀(x:Unit),
True->nm=(pG pa pb nm).nm/\pRk pa=(pG pa pb nm).rk/\pCt pb=(pG pa pb nm).ct/\10*IntKind.i64.wrap (pb.tmod 4)=(pG pa pb nm).si/\IntKind.i64.wrap (pa.tmod 3)=(pG pa pb nm).sd/\pDi pa pb=(pG pa pb nm).di
/\(zaf pa 64=0->False↔zaf pa 64=0->False)/\(zaf pb 128=0->False↔zaf pb 128=0->False)/\D.list [D.str (ze1 (zmI pa 4))]=(pG pa pb nm).tg/\True):=by intros;kernel_rfl
theorem zpC (a:Int):0<=zaf a 3/\zaf a 3<=3:=by
 unfold zaf
 have:a.toNat&&&(3:Int).toNat<=3:=Nat.and_le_right
 omega
theorem zlr {a:Int} (h:0<=a/\a<256) (n:Int):0<=zbF .u8 a n/\zbF .u8 a n<256:=by
 unfold zbF
 generalize min n.toNat IntKind.u8.bits=m
 have h2:(0:Int)<2^m:=Int.pow_pos (by decide)
 rw [Int.fdiv_eq_ediv_of_nonneg _ (Int.le_of_lt h2)]
 exact ⟨Int.ediv_nonneg h.1 (Int.le_of_lt h2),Int.lt_of_le_of_lt (Int.ediv_le_self _ h.1) h.2⟩
theorem zkz:zb7.length=4:=rfl
theorem zsk {k:Int} (h:0<=k/\k<=3):(1:Int)<=((List.take (zb7.length-k.toNat) (List.drop k.toNat zb7)).length:Int):=by
 rw [List.length_take,List.length_drop,zkz];omega
theorem zoc {k:Int} (h:0<=k/\k<=3):k<=(zb7.length:Int):=by rw [zkz];omega
theorem zv0 {pa:Int} (h:zaf pa 4=0->False):ze1 (zaf (zbF IntKind.u8 pa 3) 3)=pRk pa:=by unfold pRk;rw [if_neg h];rfl
theorem zvZ {pa:Int} (h:(zaf pa 4=0->False)->False): []=pRk pa:=by unfold pRk;rw [if_pos (Classical.byContradiction h)]
theorem zvS {pb:Int} (h:zaf pb 4=0->False):ze1 (zaf (zbF IntKind.u8 pb 3) 3)=pCt pb:=by unfold pCt;rw [if_neg h];rfl
theorem zvR {pb:Int} (h:(zaf pb 4=0->False)->False): []=pCt pb:=by unfold pCt;rw [if_pos (Classical.byContradiction h)]
theorem zvU {pa pb:Int} (h:zaf pa 128=0->False):ze1 (zaf (zbF IntKind.u8 pb 4) 3)=pDi pa pb:=by unfold pDi;rw [if_neg h];rfl
theorem zvT {pa pb:Int} (h:(zaf pa 128=0->False)->False): []=pDi pa pb:=by unfold pDi;rw [if_pos (Classical.byContradiction h)]
theorem zwF {pa pb:Int} {nm:List UInt8} (h:zaf pb 64=0->False):D.list [D.str (ze1 (zmI pa 4))]=(pG pa pb nm).tg:=by show _=pTg pa pb;unfold pTg;rw [if_neg h]
theorem zwE {pa pb:Int} {nm:List UInt8} (h:zaf pb 64=0):D.nil=(pG pa pb nm).tg:=by show _=pTg pa pb;unfold pTg;rw [if_pos h]
theorem zkt {p:Int} (h:0<=p/\p<256) (m:Int) (hm:0<m/\m<=100):IntKind.i64.wrap (p.tmod m)=p.tmod m/\0<=p.tmod m/\p.tmod m<m:=by
 have h1:0<=p.tmod m:=Int.tmod_nonneg _ h.1
 have h2:p.tmod m<m:=Int.tmod_lt_of_pos _ hm.1
 exact ⟨IntWalk.i64_in _ ⟨by omega,by omega⟩,h1,h2⟩
theorem s90 (pa pb:Int) (nm:List UInt8) (ha:0<=pa/\pa<256) (hb:0<=pb/\pb<256):zae (zlU (λ_=>none) zhS) 3 90 [.agg [.int .u8 pa,.int .u8 pb],.str nm] (gV (pG pa pb nm)):=by
 rw [zxt]
 have w4:=zkt hb 4 (by omega)
 have a3:=zlr ha 3
 have a4:=zlr ha 4
 have b3:=zlr hb 3
 have b4:=zlr hb 4
 have x3:=zpC (zbF IntKind.u8 pa 3)
 have x4:=zpC (zbF IntKind.u8 pa 4)
 have y3:=zpC (zbF IntKind.u8 pb 3)
 have y4:=zpC (zbF IntKind.u8 pb 4)
 repeat' (first|apply And.intro|intro _|refine Or.inl (Exists.intro () (And.intro (Classical.byContradiction ‹(zaf pb 64=0->False)->False›) ?_))|refine Or.inr (Exists.intro () (And.intro ‹zaf pb 64=0->False› ?_))|refine Exists.intro () ?_)
 all_goals first
  |with_reducible rfl
  |trivial
  |exact zv0 ‹_›
  |exact zvZ ‹_›
  |exact zvS ‹_›
  |exact zvR ‹_›
  |exact zvU ‹_›
  |exact zvT ‹_›
  |exact zwF ‹_›
  |exact zwE ‹_›
  |exact zsk ‹_›
  |exact zoc ‹_›
  |exact Nat.le_refl 1
  |rfl
  |omega
end Go.Ev
