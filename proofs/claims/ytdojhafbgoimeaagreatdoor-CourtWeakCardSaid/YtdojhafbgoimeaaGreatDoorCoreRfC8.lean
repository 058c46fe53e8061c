/- Part of the proof. -/
import Derived.Test.YtdojhafbgoimeaaGreatDoorCoreRfA
import Derived.Test.YtdojhafbgoimeaaGreatDoorCoreG25
open Go.Proofs
namespace Go.Ev
set_option maxRecDepth 100000
set_option maxHeartbeats 4000000
theorem zxi:∀(l:D),zae (zlU (λ_=>none) zhS) 3 (29:FuncId) [V.dat (40:TypeId) l] (V.dat (22:TypeId) (mD l))=((0:Int)<=0/\0<=min (l.len:Int) 8/\min (l.len:Int) 8<=(l.len:Int)/\((∃(x
:Nat),x=0/\((0:Int)=0/\True/\([]:List UInt8)= []/\True)/\True)\/∃(x:Nat),(0<x/\x<=(m8 l).len)/\(0=(x:Int)/\False/\ []=mR (m8 l) x/\True)/\False/\True)/\(∀(x:Nat),x=0->(m8
l).len-x<LIM/\(0<(↑(m8 l).len:Int)->(0:Int)<=0/\0<(↑(m8 l).len:Int)/\((10:Int)=0->False)/\((4:Int)=0->False)/\0<=((el (m8 l) 0).fld 2).asInt.tmod 4/\((el (m8 l) 0).fld 2).asInt.tmod 4<=
(zb7.length:Int)/\(zb7.length:Int)<=(zb7.length:Int)/\(0:Int)<=0/\(0:Int)<=1/\1<=(↑(List.take (zb7.length-(((el (m8 l) 0).fld 2).asInt.tmod 4).toNat) (List.drop (((el (m8 l) 0).fld 2).asInt.tmod
4).toNat zb7)).length:Int)/\(0<=((el (m8 l) 0).fld 2).asInt/\(0:Int)<=4/\(0<=((el (m8 l) 0).fld 2).asInt/\((el (m8 l) 0).fld 2).asInt<256)/\((0:Int)<=4/\(4:Int)<256)/\((zaf ((el (m8 l) 0).fld
2).asInt 4=0->False)->((4:Int)=0->False)/\0<=(IntKind.u8.wrap (((el (m8 l) 0).fld 2).asInt+1)).tmod 4/\(IntKind.u8.wrap (((el (m8 l) 0).fld 2).asInt+1)).tmod 4<=(zb7.length:Int)/\(zb7.length:Int)
<=(zb7.length:Int)/\(0:Int)<=0/\(0:Int)<=1/\1<=(↑(List.take (zb7.length-((IntKind.u8.wrap (((el (m8 l) 0).fld 2).asInt+1)).tmod 4).toNat) (List.drop ((IntKind.u8.wrap (((el (m8 l) 0).fld 2).asInt+
1)).tmod 4).toNat zb7)).length:Int)/\0+1<= [D.str (nm2 (el (m8 l) 0))].length/\0+1<= [D.str (nm1 (el (m8 l) 0))].length/\(1:Nat)+1<=8796093022208/\((∃(x:Unit),zaf ((el (m8 l) 0).fld 2).asInt 4=0/\
False)\/∃(x:Unit),(zaf ((el (m8 l) 0).fld 2).asInt 4=0->False)/\(((0:Nat)=0/\(1:Nat)+1=2/\True)/\True)/\List.take 1 [D.str (nm1 (el (m8 l) 0))]++List.take 1 [D.str (nm2 (el (m8 l) 0))]= [D.str
(nm1 (el (m8 l) 0))]++ [D.str (nm2 (el (m8 l) 0))]/\True))/\(((zaf ((el (m8 l) 0).fld 2).asInt 4=0->False)->False)->(∃(x:Unit),zaf ((el (m8 l) 0).fld 2).asInt 4=0/\(((0:Nat)=0/\(1:Nat)=1/\(1
:Nat)=1)/\True)/\ [D.str (nm1 (el (m8 l) 0))]= [D.str (nm1 (el (m8 l) 0))]/\True)\/∃(x:Unit),(zaf ((el (m8 l) 0).fld 2).asInt 4=0->False)/\False))/\(∀(x_1:Unit),zaf ((el (m8 l) 0).fld 2).asInt 4=
0->(((el (m8 l) 0).fld 4).asProp->((mK (el (m8 l) 0)=1->False)->(mK (el (m8 l) 0)=1->(0:Int)<=0/\0<(↑(1:Nat):Int)/\0+0< [D.str (nm1 (el (m8 l) 0))].length/\0+1<= [D.str (nm1 (el (m8 l)
0))].length/\0+1<= [D.sct [D.int (mK (el (m8 l) 0)),D.str [],D.bool (false=true),D.list (List.take 1 [D.str (nm1 (el (m8 l) 0))]),D.int 0]].length/\(1:Nat)<=16777216/\fits64 (0+1)/\((∃(y:Nat),y=0/\
(m8 l).len-y<(m8 l).len-x/\((0:Int)+1=0/\False/\(zas [D.str (nm1 (el (m8 l) 0))] (0+0)).asStr= []/\True)/\True)\/∃(y:Nat),(0<y/\y<=(m8 l).len)/\(m8 l).len-y<(m8 l).len-x/\(0+1=(y
:Int)/\((0:Nat)=0/\1=y/\True)/\(zas [D.str (nm1 (el (m8 l) 0))] (0+0)).asStr=mR (m8 l) y/\True)/\List.take 1 [D.sct [D.int (mK (el (m8 l) 0)),D.str [],D.bool (false=true),D.list (List.take 1 [D.str
(nm1 (el (m8 l) 0))]),D.int 0]]=mL (m8 l) y/\True))/\((mK (el (m8 l) 0)=1->False)->(mK (el (m8 l) 0)=4->((2:Int)=0->False)/\fits64 (1+IntKind.i64.wrap (((el (m8 l) 0).fld 1).asInt.tmod 2))/\0+1<=
[D.sct [D.int (mK (el (m8 l) 0)),D.str [],D.bool (cNm (el (m8 l) 0)).asProp,D.nil,D.int (1+IntKind.i64.wrap (((el (m8 l) 0).fld 1).asInt.tmod 2))]].length/\(1:Nat)<=16777216/\fits64 (0+1)/\((∃(y:Nat),y
=0/\(m8 l).len-y<(m8 l).len-x/\((0:Int)+1=0/\False/\([]:List UInt8)= []/\True)/\True)\/∃(y:Nat),(0<y/\y<=(m8 l).len)/\(m8 l).len-y<(m8 l).len-x/\(0+1=(y:Int)/\((0:Nat)=0
/\1=y/\True)/\ []=mR (m8 l) y/\True)/\List.take 1 [D.sct [D.int (mK (el (m8 l) 0)),D.str [],D.bool (cNm (el (m8 l) 0)).asProp,D.nil,D.int (1+IntKind.i64.wrap (((el (m8 l) 0).fld 1).asInt.tmod 2))]]=mL (m8
l) y/\True))/\((mK (el (m8 l) 0)=4->False)->(mK (el (m8 l) 0)=5->0+1<= [D.sct [D.int (mK (el (m8 l) 0)),D.str [],D.bool (cNm (el (m8 l) 0)).asProp,D.nil,D.int 0]].length/\(1:Nat)<=16777216/\fits64 (0
+1)/\((∃(y:Nat),y=0/\(m8 l).len-y<(m8 l).len-x/\((0:Int)+1=0/\False/\([]:List UInt8)= []/\True)/\True)\/∃(y:Nat),(0<y/\y<=(m8 l).len)/\(m8 l).len-y<(m8 l).len-x/\(0+1=(y
:Int)/\((0:Nat)=0/\1=y/\True)/\ []=mR (m8 l) y/\True)/\List.take 1 [D.sct [D.int (mK (el (m8 l) 0)),D.str [],D.bool (cNm (el (m8 l) 0)).asProp,D.nil,D.int 0]]=mL (m8 l) y/\True))/\((mK (el (m8 l) 0)
=5->False)->(mK (el (m8 l) 0)=6->0+1<= [D.str (nm1 (el (m8 l) 0))].length/\0+1<= [D.sct [D.int (mK (el (m8 l) 0)),D.str [],D.bool (cNm (el (m8 l) 0)).asProp,D.list (List.take 1 [D.str (nm1 (el (m8 l) 0))]),
D.int 0]].length/\(1:Nat)<=16777216/\fits64 (0+1)/\((∃(y:Nat),y=0/\(m8 l).len-y<(m8 l).len-x/\((0:Int)+1=0/\False/\([]:List UInt8)= []/\True)/\True)\/∃(y:Nat),(0<y/\y<=(m8
l).len)/\(m8 l).len-y<(m8 l).len-x/\(0+1=(y:Int)/\((0:Nat)=0/\1=y/\True)/\ []=mR (m8 l) y/\True)/\List.take 1 [D.sct [D.int (mK (el (m8 l) 0)),D.str [],D.bool (cNm (el (m8 l) 0)).asProp,
D.list (List.take 1 [D.str (nm1 (el (m8 l) 0))]),D.int 0]]=mL (m8 l) y/\True))/\((mK (el (m8 l) 0)=6->False)->(mK (el (m8 l) 0)=7->0+1<= [D.str (nm1 (el (m8 l) 0))].length/\0+1<= [D.sct [D.int (mK (el
(m8 l) 0)),D.str [],D.bool (cNm (el (m8 l) 0)).asProp,D.list (List.take 1 [D.str (nm1 (el (m8 l) 0))]),D.int 0]].length/\(1:Nat)<=16777216/\fits64 (0+1)/\((∃(y:Nat),y=0/\(m8 l).len-y<(m8 l).len-x
/\((0:Int)+1=0/\False/\([]:List UInt8)= []/\True)/\True)\/∃(y:Nat),(0<y/\y<=(m8 l).len)/\(m8 l).len-y<(m8 l).len-x/\(0+1=(y:Int)/\((0:Nat)=0/\1=y/\True)/\ []=mR (m8 l) y/\
True)/\List.take 1 [D.sct [D.int (mK (el (m8 l) 0)),D.str [],D.bool (cNm (el (m8 l) 0)).asProp,D.list (List.take 1 [D.str (nm1 (el (m8 l) 0))]),D.int 0]]=mL (m8 l) y/\True))/\((mK (el (m8 l) 0)=7->False)->
(mK (el (m8 l) 0)=10->((64:Int)=0->False)/\0+1<= [D.sct [D.int (mK (el (m8 l) 0)),D.str [],D.bool (false=true),D.nil,D.int (IntKind.i64.wrap (((el (m8 l) 0).fld 1).asInt.tmod 64))]].length/\(1:Nat)<=
16777216/\fits64 (0+1)/\((∃(y:Nat),y=0/\(m8 l).len-y<(m8 l).len-x/\((0:Int)+1=0/\False/\([]:List UInt8)= []/\True)/\True)\/∃(y:Nat),(0<y/\y<=(m8 l).len)/\(m8 l).len-y<(m8
l).len-x/\(0+1=(y:Int)/\((0:Nat)=0/\1=y/\True)/\ []=mR (m8 l) y/\True)/\List.take 1 [D.sct [D.int (mK (el (m8 l) 0)),D.str [],D.bool (false=true),D.nil,D.int (IntKind.i64.wrap (((el (m8 l)
0).fld 1).asInt.tmod 64))]]=mL (m8 l) y/\True))/\((mK (el (m8 l) 0)=10->False)->0+1<= [D.sct [D.int (mK (el (m8 l) 0)),D.str [],D.bool (false=true),D.nil,D.int 0]].length/\(1:Nat)<=16777216/\fits64
(0+1)/\((∃(y:Nat),y=0/\(m8 l).len-y<(m8 l).len-x/\((0:Int)+1=0/\False/\([]:List UInt8)= []/\True)/\True)\/∃(y:Nat),(0<y/\y<=(m8 l).len)/\(m8 l).len-y<(m8 l).len-x/\(0+1=
(y:Int)/\((0:Nat)=0/\1=y/\True)/\ []=mR (m8 l) y/\True)/\List.take 1 [D.sct [D.int (mK (el (m8 l) 0)),D.str [],D.bool (false=true),D.nil,D.int 0]]=mL (m8 l) y/\True))))))))/\(((mK (el (m8 l) 0)=
1->False)->False)->(mK (el (m8 l) 0)=1->(0:Int)<=0/\0<(↑(1:Nat):Int)/\0+0< [D.str (nm1 (el (m8 l) 0))].length/\0+1<= [D.str (nm1 (el (m8 l) 0))].length/\0+1<= [D.sct [D.int (mK (el (m8 l) 0)),
D.str [],D.bool (false=true),D.list (List.take 1 [D.str (nm1 (el (m8 l) 0))]),D.int 0]].length/\(1:Nat)<=16777216/\fits64 (0+1)/\((∃(y:Nat),y=0/\(m8 l).len-y<(m8 l).len-x/\((0:Int)+1=0/\
False/\(zas [D.str (nm1 (el (m8 l) 0))] (0+0)).asStr= []/\True)/\True)\/∃(y:Nat),(0<y/\y<=(m8 l).len)/\(m8 l).len-y<(m8 l).len-x/\(0+1=(y:Int)/\((0:Nat)=0/\1=y/\True)/\(zas [D.str
(nm1 (el (m8 l) 0))] (0+0)).asStr=mR (m8 l) y/\True)/\List.take 1 [D.sct [D.int (mK (el (m8 l) 0)),D.str [],D.bool (false=true),D.list (List.take 1 [D.str (nm1 (el (m8 l) 0))]),D.int 0]]=mL (m8 l) y/\
True))/\((mK (el (m8 l) 0)=1->False)->(mK (el (m8 l) 0)=4->((2:Int)=0->False)/\fits64 (1+IntKind.i64.wrap (((el (m8 l) 0).fld 1).asInt.tmod 2))/\0+1<= [D.sct [D.int (mK (el (m8 l) 0)),D.str [],D.bool
(cNm (el (m8 l) 0)).asProp,D.nil,D.int (1+IntKind.i64.wrap (((el (m8 l) 0).fld 1).asInt.tmod 2))]].length/\(1:Nat)<=16777216/\fits64 (0+1)/\((∃(y:Nat),y=0/\(m8 l).len-y<(m8 l).len-x/\((0:Int)
+1=0/\False/\([]:List UInt8)= []/\True)/\True)\/∃(y:Nat),(0<y/\y<=(m8 l).len)/\(m8 l).len-y<(m8 l).len-x/\(0+1=(y:Int)/\((0:Nat)=0/\1=y/\True)/\ []=mR (m8 l) y/\True)/\
List.take 1 [D.sct [D.int (mK (el (m8 l) 0)),D.str [],D.bool (cNm (el (m8 l) 0)).asProp,D.nil,D.int (1+IntKind.i64.wrap (((el (m8 l) 0).fld 1).asInt.tmod 2))]]=mL (m8 l) y/\True))/\((mK (el (m8 l) 0)=4->
False)->(mK (el (m8 l) 0)=5->0+1<= [D.sct [D.int (mK (el (m8 l) 0)),D.str [],D.bool (cNm (el (m8 l) 0)).asProp,D.nil,D.int 0]].length/\(1:Nat)<=16777216/\fits64 (0+1)/\((∃(y:Nat),y=0/\(m8 l).len
-y<(m8 l).len-x/\((0:Int)+1=0/\False/\([]:List UInt8)= []/\True)/\True)\/∃(y:Nat),(0<y/\y<=(m8 l).len)/\(m8 l).len-y<(m8 l).len-x/\(0+1=(y:Int)/\((0:Nat)=0/\1=y/\True)/\
[]=mR (m8 l) y/\True)/\List.take 1 [D.sct [D.int (mK (el (m8 l) 0)),D.str [],D.bool (cNm (el (m8 l) 0)).asProp,D.nil,D.int 0]]=mL (m8 l) y/\True))/\((mK (el (m8 l) 0)=5->False)->(mK (el (m8 l) 0)=6->0
+1<= [D.str (nm1 (el (m8 l) 0))].length/\0+1<= [D.sct [D.int (mK (el (m8 l) 0)),D.str [],D.bool (cNm (el (m8 l) 0)).asProp,D.list (List.take 1 [D.str (nm1 (el (m8 l) 0))]),D.int 0]].length/\(1:Nat)<=16777216
/\fits64 (0+1)/\((∃(y:Nat),y=0/\(m8 l).len-y<(m8 l).len-x/\((0:Int)+1=0/\False/\([]:List UInt8)= []/\True)/\True)\/∃(y:Nat),(0<y/\y<=(m8 l).len)/\(m8 l).len-y<(m8 l).len-x/\
(0+1=(y:Int)/\((0:Nat)=0/\1=y/\True)/\ []=mR (m8 l) y/\True)/\List.take 1 [D.sct [D.int (mK (el (m8 l) 0)),D.str [],D.bool (cNm (el (m8 l) 0)).asProp,D.list (List.take 1 [D.str (nm1 (el (m8 l)
0))]),D.int 0]]=mL (m8 l) y/\True))/\((mK (el (m8 l) 0)=6->False)->(mK (el (m8 l) 0)=7->0+1<= [D.str (nm1 (el (m8 l) 0))].length/\0+1<= [D.sct [D.int (mK (el (m8 l) 0)),D.str [],D.bool (cNm (el (m8 l)
0)).asProp,D.list (List.take 1 [D.str (nm1 (el (m8 l) 0))]),D.int 0]].length/\(1:Nat)<=16777216/\fits64 (0+1)/\((∃(y:Nat),y=0/\(m8 l).len-y<(m8 l).len-x/\((0:Int)+1=0/\False/\([]:List
UInt8)= []/\True)/\True)\/∃(y:Nat),(0<y/\y<=(m8 l).len)/\(m8 l).len-y<(m8 l).len-x/\(0+1=(y:Int)/\((0:Nat)=0/\1=y/\True)/\ []=mR (m8 l) y/\True)/\List.take 1 [D.sct [D.int (mK (el
(m8 l) 0)),D.str [],D.bool (cNm (el (m8 l) 0)).asProp,D.list (List.take 1 [D.str (nm1 (el (m8 l) 0))]),D.int 0]]=mL (m8 l) y/\True))/\((mK (el (m8 l) 0)=7->False)->(mK (el (m8 l) 0)=10->((64:Int)=0->
False)/\0+1<= [D.sct [D.int (mK (el (m8 l) 0)),D.str [],D.bool (false=true),D.nil,D.int (IntKind.i64.wrap (((el (m8 l) 0).fld 1).asInt.tmod 64))]].length/\(1:Nat)<=16777216/\fits64 (0+1)/\((∃(y:Nat),
y=0/\(m8 l).len-y<(m8 l).len-x/\((0:Int)+1=0/\False/\([]:List UInt8)= []/\True)/\True)\/∃(y:Nat),(0<y/\y<=(m8 l).len)/\(m8 l).len-y<(m8 l).len-x/\(0+1=(y:Int)/\((0:Nat)=
0/\1=y/\True)/\ []=mR (m8 l) y/\True)/\List.take 1 [D.sct [D.int (mK (el (m8 l) 0)),D.str [],D.bool (false=true),D.nil,D.int (IntKind.i64.wrap (((el (m8 l) 0).fld 1).asInt.tmod 64))]]=mL (m8 l) y/\True))
/\((mK (el (m8 l) 0)=10->False)->0+1<= [D.sct [D.int (mK (el (m8 l) 0)),D.str [],D.bool (false=true),D.nil,D.int 0]].length/\(1:Nat)<=16777216/\fits64 (0+1)/\((∃(y:Nat),y=0/\(m8 l).len-y<
(m8 l).len-x/\((0:Int)+1=0/\False/\([]:List UInt8)= []/\True)/\True)\/∃(y:Nat),(0<y/\y<=(m8 l).len)/\(m8 l).len-y<(m8 l).len-x/\(0+1=(y:Int)/\((0:Nat)=0/\1=y/\True)/\ []=
mR (m8 l) y/\True)/\List.take 1 [D.sct [D.int (mK (el (m8 l) 0)),D.str [],D.bool (false=true),D.nil,D.int 0]]=mL (m8 l) y/\True)))))))))/\((((el (m8 l) 0).fld 4).asProp->False)->(mK (el (m8 l) 0)=1->(0:
Int)<=0/\0<(↑(1:Nat):Int)/\0+0< [D.str (nm1 (el (m8 l) 0))].length/\0+1<= [D.str (nm1 (el (m8 l) 0))].length/\0+1<= [D.sct [D.int (mK (el (m8 l) 0)),D.str [],D.bool (false=true),D.list (List.take 1
[D.str (nm1 (el (m8 l) 0))]),D.int 0]].length/\(1:Nat)<=16777216/\fits64 (0+1)/\((∃(y:Nat),y=0/\(m8 l).len-y<(m8 l).len-x/\((0:Int)+1=0/\False/\(zas [D.str (nm1 (el (m8 l) 0))] (0+
0)).asStr= []/\True)/\True)\/∃(y:Nat),(0<y/\y<=(m8 l).len)/\(m8 l).len-y<(m8 l).len-x/\(0+1=(y:Int)/\((0:Nat)=0/\1=y/\True)/\(zas [D.str (nm1 (el (m8 l) 0))] (0+0)).asStr=mR (m8
l) y/\True)/\List.take 1 [D.sct [D.int (mK (el (m8 l) 0)),D.str [],D.bool (false=true),D.list (List.take 1 [D.str (nm1 (el (m8 l) 0))]),D.int 0]]=mL (m8 l) y/\True))/\((mK (el (m8 l) 0)=1->False)->(mK (el
(m8 l) 0)=4->((2:Int)=0->False)/\fits64 (1+IntKind.i64.wrap (((el (m8 l) 0).fld 1).asInt.tmod 2))/\0+1<= [D.sct [D.int (mK (el (m8 l) 0)),D.str [],D.bool (cNm (el (m8 l) 0)).asProp,D.nil,D.int (1+
IntKind.i64.wrap (((el (m8 l) 0).fld 1).asInt.tmod 2))]].length/\(1:Nat)<=16777216/\fits64 (0+1)/\((∃(y:Nat),y=0/\(m8 l).len-y<(m8 l).len-x/\((0:Int)+1=0/\False/\([]:List UInt8)= []/\
True)/\True)\/∃(y:Nat),(0<y/\y<=(m8 l).len)/\(m8 l).len-y<(m8 l).len-x/\(0+1=(y:Int)/\((0:Nat)=0/\1=y/\True)/\ []=mR (m8 l) y/\True)/\List.take 1 [D.sct [D.int (mK (el (m8 l) 0)),
D.str [],D.bool (cNm (el (m8 l) 0)).asProp,D.nil,D.int (1+IntKind.i64.wrap (((el (m8 l) 0).fld 1).asInt.tmod 2))]]=mL (m8 l) y/\True))/\((mK (el (m8 l) 0)=4->False)->(mK (el (m8 l) 0)=5->0+1<= [D.sct
[D.int (mK (el (m8 l) 0)),D.str [],D.bool (cNm (el (m8 l) 0)).asProp,D.nil,D.int 0]].length/\(1:Nat)<=16777216/\fits64 (0+1)/\((∃(y:Nat),y=0/\(m8 l).len-y<(m8 l).len-x/\((0:Int)+1=0/\
False/\([]:List UInt8)= []/\True)/\True)\/∃(y:Nat),(0<y/\y<=(m8 l).len)/\(m8 l).len-y<(m8 l).len-x/\(0+1=(y:Int)/\((0:Nat)=0/\1=y/\True)/\ []=mR (m8 l) y/\True)/\List.take 1
[D.sct [D.int (mK (el (m8 l) 0)),D.str [],D.bool (cNm (el (m8 l) 0)).asProp,D.nil,D.int 0]]=mL (m8 l) y/\True))/\((mK (el (m8 l) 0)=5->False)->(mK (el (m8 l) 0)=6->0+1<= [D.str (nm1 (el (m8 l)
0))].length/\0+1<= [D.sct [D.int (mK (el (m8 l) 0)),D.str [],D.bool (cNm (el (m8 l) 0)).asProp,D.list (List.take 1 [D.str (nm1 (el (m8 l) 0))]),D.int 0]].length/\(1:Nat)<=16777216/\fits64 (0+1)/\((∃(y:
Nat),y=0/\(m8 l).len-y<(m8 l).len-x/\((0:Int)+1=0/\False/\([]:List UInt8)= []/\True)/\True)\/∃(y:Nat),(0<y/\y<=(m8 l).len)/\(m8 l).len-y<(m8 l).len-x/\(0+1=(y:Int)/\((0:
Nat)=0/\1=y/\True)/\ []=mR (m8 l) y/\True)/\List.take 1 [D.sct [D.int (mK (el (m8 l) 0)),D.str [],D.bool (cNm (el (m8 l) 0)).asProp,D.list (List.take 1 [D.str (nm1 (el (m8 l) 0))]),D.int 0]]=mL (m8 l) y/\
True))/\((mK (el (m8 l) 0)=6->False)->(mK (el (m8 l) 0)=7->0+1<= [D.str (nm1 (el (m8 l) 0))].length/\0+1<= [D.sct [D.int (mK (el (m8 l) 0)),D.str [],D.bool (cNm (el (m8 l) 0)).asProp,D.list (List.take 1
[D.str (nm1 (el (m8 l) 0))]),D.int 0]].length/\(1:Nat)<=16777216/\fits64 (0+1)/\((∃(y:Nat),y=0/\(m8 l).len-y<(m8 l).len-x/\((0:Int)+1=0/\False/\([]:List UInt8)= []/\True)/\True)\/∃(y
:Nat),(0<y/\y<=(m8 l).len)/\(m8 l).len-y<(m8 l).len-x/\(0+1=(y:Int)/\((0:Nat)=0/\1=y/\True)/\ []=mR (m8 l) y/\True)/\List.take 1 [D.sct [D.int (mK (el (m8 l) 0)),D.str [],D.bool (cNm
(el (m8 l) 0)).asProp,D.list (List.take 1 [D.str (nm1 (el (m8 l) 0))]),D.int 0]]=mL (m8 l) y/\True))/\((mK (el (m8 l) 0)=7->False)->(mK (el (m8 l) 0)=10->((64:Int)=0->False)/\0+1<= [D.sct [D.int (mK
(el (m8 l) 0)),D.str [],D.bool (false=true),D.nil,D.int (IntKind.i64.wrap (((el (m8 l) 0).fld 1).asInt.tmod 64))]].length/\(1:Nat)<=16777216/\fits64 (0+1)/\((∃(y:Nat),y=0/\(m8 l).len-y<(m8 l).len
-x/\((0:Int)+1=0/\False/\([]:List UInt8)= []/\True)/\True)\/∃(y:Nat),(0<y/\y<=(m8 l).len)/\(m8 l).len-y<(m8 l).len-x/\(0+1=(y:Int)/\((0:Nat)=0/\1=y/\True)/\ []=mR (m8 l) y
/\True)/\List.take 1 [D.sct [D.int (mK (el (m8 l) 0)),D.str [],D.bool (false=true),D.nil,D.int (IntKind.i64.wrap (((el (m8 l) 0).fld 1).asInt.tmod 64))]]=mL (m8 l) y/\True))/\((mK (el (m8 l) 0)=10->False)->
0+1<= [D.sct [D.int (mK (el (m8 l) 0)),D.str [],D.bool (false=true),D.nil,D.int 0]].length/\(1:Nat)<=16777216/\fits64 (0+1)/\((∃(y:Nat),y=0/\(m8 l).len-y<(m8 l).len-x/\((0:Int)+1=0/\
False/\([]:List UInt8)= []/\True)/\True)\/∃(y:Nat),(0<y/\y<=(m8 l).len)/\(m8 l).len-y<(m8 l).len-x/\(0+1=(y:Int)/\((0:Nat)=0/\1=y/\True)/\ []=mR (m8 l) y/\True)/\List.take 1
[D.sct [D.int (mK (el (m8 l) 0)),D.str [],D.bool (false=true),D.nil,D.int 0]]=mL (m8 l) y/\True)))))))))/\∀(x_1:Unit),(zaf ((el (m8 l) 0).fld 2).asInt 4=0->False)->(((el (m8 l) 0).fld 4).asProp->((mK
(el (m8 l) 0)=1->False)->(mK (el (m8 l) 0)=1->(0:Int)<=0/\0<(↑(2:Nat):Int)/\0+0<([D.str (nm1 (el (m8 l) 0))]++ [D.str (nm2 (el (m8 l) 0))]).length/\0+2<=([D.str (nm1 (el (m8 l) 0))]++ [D.str
(nm2 (el (m8 l) 0))]).length/\0+1<= [D.sct [D.int (mK (el (m8 l) 0)),D.str [],D.bool (false=true),D.list (List.take 2 ([D.str (nm1 (el (m8 l) 0))]++ [D.str (nm2 (el (m8 l) 0))])),D.int 0]].length/\(1:Nat)<=
16777216/\fits64 (0+1)/\((∃(y:Nat),y=0/\(m8 l).len-y<(m8 l).len-x/\((0:Int)+1=0/\False/\(zas ([D.str (nm1 (el (m8 l) 0))]++ [D.str (nm2 (el (m8 l) 0))]) (0+0)).asStr= []/\True)/\True)\/∃
(y:Nat),(0<y/\y<=(m8 l).len)/\(m8 l).len-y<(m8 l).len-x/\(0+1=(y:Int)/\((0:Nat)=0/\1=y/\True)/\(zas ([D.str (nm1 (el (m8 l) 0))]++ [D.str (nm2 (el (m8 l) 0))]) (0+0)).asStr=mR (m8 l)
y/\True)/\List.take 1 [D.sct [D.int (mK (el (m8 l) 0)),D.str [],D.bool (false=true),D.list (List.take 2 ([D.str (nm1 (el (m8 l) 0))]++ [D.str (nm2 (el (m8 l) 0))])),D.int 0]]=mL (m8 l) y/\True))/\((mK (el
(m8 l) 0)=1->False)->(mK (el (m8 l) 0)=4->((2:Int)=0->False)/\fits64 (1+IntKind.i64.wrap (((el (m8 l) 0).fld 1).asInt.tmod 2))/\0+1<= [D.sct [D.int (mK (el (m8 l) 0)),D.str [],D.bool (cNm (el (m8 l)
0)).asProp,D.nil,D.int (1+IntKind.i64.wrap (((el (m8 l) 0).fld 1).asInt.tmod 2))]].length/\(1:Nat)<=16777216/\fits64 (0+1)/\((∃(y:Nat),y=0/\(m8 l).len-y<(m8 l).len-x/\((0:Int)+1=0/\False
/\([]:List UInt8)= []/\True)/\True)\/∃(y:Nat),(0<y/\y<=(m8 l).len)/\(m8 l).len-y<(m8 l).len-x/\(0+1=(y:Int)/\((0:Nat)=0/\1=y/\True)/\ []=mR (m8 l) y/\True)/\List.take 1 [D.sct
[D.int (mK (el (m8 l) 0)),D.str [],D.bool (cNm (el (m8 l) 0)).asProp,D.nil,D.int (1+IntKind.i64.wrap (((el (m8 l) 0).fld 1).asInt.tmod 2))]]=mL (m8 l) y/\True))/\((mK (el (m8 l) 0)=4->False)->(mK (el (m8 l)
0)=5->0+1<= [D.sct [D.int (mK (el (m8 l) 0)),D.str [],D.bool (cNm (el (m8 l) 0)).asProp,D.nil,D.int 0]].length/\(1:Nat)<=16777216/\fits64 (0+1)/\((∃(y:Nat),y=0/\(m8 l).len-y<(m8 l).len-x/\
((0:Int)+1=0/\False/\([]:List UInt8)= []/\True)/\True)\/∃(y:Nat),(0<y/\y<=(m8 l).len)/\(m8 l).len-y<(m8 l).len-x/\(0+1=(y:Int)/\((0:Nat)=0/\1=y/\True)/\ []=mR (m8 l) y/\
True)/\List.take 1 [D.sct [D.int (mK (el (m8 l) 0)),D.str [],D.bool (cNm (el (m8 l) 0)).asProp,D.nil,D.int 0]]=mL (m8 l) y/\True))/\((mK (el (m8 l) 0)=5->False)->(mK (el (m8 l) 0)=6->0+2<=([D.str (nm1
(el (m8 l) 0))]++ [D.str (nm2 (el (m8 l) 0))]).length/\0+1<= [D.sct [D.int (mK (el (m8 l) 0)),D.str [],D.bool (cNm (el (m8 l) 0)).asProp,D.list (List.take 2 ([D.str (nm1 (el (m8 l) 0))]++ [D.str (nm2 (el (m8 l)
0))])),D.int 0]].length/\(1:Nat)<=16777216/\fits64 (0+1)/\((∃(y:Nat),y=0/\(m8 l).len-y<(m8 l).len-x/\((0:Int)+1=0/\False/\([]:List UInt8)= []/\True)/\True)\/∃(y:Nat),(0<y/\y<=
(m8 l).len)/\(m8 l).len-y<(m8 l).len-x/\(0+1=(y:Int)/\((0:Nat)=0/\1=y/\True)/\ []=mR (m8 l) y/\True)/\List.take 1 [D.sct [D.int (mK (el (m8 l) 0)),D.str [],D.bool (cNm (el (m8 l) 0)).asProp,
D.list (List.take 2 ([D.str (nm1 (el (m8 l) 0))]++ [D.str (nm2 (el (m8 l) 0))])),D.int 0]]=mL (m8 l) y/\True))/\((mK (el (m8 l) 0)=6->False)->(mK (el (m8 l) 0)=7->0+2<=([D.str (nm1 (el (m8 l) 0))]++
[D.str (nm2 (el (m8 l) 0))]).length/\0+1<= [D.sct [D.int (mK (el (m8 l) 0)),D.str [],D.bool (cNm (el (m8 l) 0)).asProp,D.list (List.take 2 ([D.str (nm1 (el (m8 l) 0))]++ [D.str (nm2 (el (m8 l) 0))])),D.int
0]].length/\(1:Nat)<=16777216/\fits64 (0+1)/\((∃(y:Nat),y=0/\(m8 l).len-y<(m8 l).len-x/\((0:Int)+1=0/\False/\([]:List UInt8)= []/\True)/\True)\/∃(y:Nat),(0<y/\y<=(m8 l).len)/\
(m8 l).len-y<(m8 l).len-x/\(0+1=(y:Int)/\((0:Nat)=0/\1=y/\True)/\ []=mR (m8 l) y/\True)/\List.take 1 [D.sct [D.int (mK (el (m8 l) 0)),D.str [],D.bool (cNm (el (m8 l) 0)).asProp,D.list
(List.take 2 ([D.str (nm1 (el (m8 l) 0))]++ [D.str (nm2 (el (m8 l) 0))])),D.int 0]]=mL (m8 l) y/\True))/\((mK (el (m8 l) 0)=7->False)->(mK (el (m8 l) 0)=10->((64:Int)=0->False)/\0+1<= [D.sct [D.int
(mK (el (m8 l) 0)),D.str [],D.bool (false=true),D.nil,D.int (IntKind.i64.wrap (((el (m8 l) 0).fld 1).asInt.tmod 64))]].length/\(1:Nat)<=16777216/\fits64 (0+1)/\((∃(y:Nat),y=0/\(m8 l).len-y<(m8
l).len-x/\((0:Int)+1=0/\False/\([]:List UInt8)= []/\True)/\True)\/∃(y:Nat),(0<y/\y<=(m8 l).len)/\(m8 l).len-y<(m8 l).len-x/\(0+1=(y:Int)/\((0:Nat)=0/\1=y/\True)/\ []=mR
(m8 l) y/\True)/\List.take 1 [D.sct [D.int (mK (el (m8 l) 0)),D.str [],D.bool (false=true),D.nil,D.int (IntKind.i64.wrap (((el (m8 l) 0).fld 1).asInt.tmod 64))]]=mL (m8 l) y/\True))/\((mK (el (m8 l) 0)=10->
False)->0+1<= [D.sct [D.int (mK (el (m8 l) 0)),D.str [],D.bool (false=true),D.nil,D.int 0]].length/\(1:Nat)<=16777216/\fits64 (0+1)/\((∃(y:Nat),y=0/\(m8 l).len-y<(m8 l).len-x/\((0:Int)+
1=0/\False/\([]:List UInt8)= []/\True)/\True)\/∃(y:Nat),(0<y/\y<=(m8 l).len)/\(m8 l).len-y<(m8 l).len-x/\(0+1=(y:Int)/\((0:Nat)=0/\1=y/\True)/\ []=mR (m8 l) y/\True)/\
List.take 1 [D.sct [D.int (mK (el (m8 l) 0)),D.str [],D.bool (false=true),D.nil,D.int 0]]=mL (m8 l) y/\True))))))))/\(((mK (el (m8 l) 0)=1->False)->False)->(mK (el (m8 l) 0)=1->(0:Int)<=0/\0<(↑(2
:Nat):Int)/\0+0<([D.str (nm1 (el (m8 l) 0))]++ [D.str (nm2 (el (m8 l) 0))]).length/\0+2<=([D.str (nm1 (el (m8 l) 0))]++ [D.str (nm2 (el (m8 l) 0))]).length/\0+1<= [D.sct [D.int (mK (el (m8 l) 0)),D.str
[],D.bool (false=true),D.list (List.take 2 ([D.str (nm1 (el (m8 l) 0))]++ [D.str (nm2 (el (m8 l) 0))])),D.int 0]].length/\(1:Nat)<=16777216/\fits64 (0+1)/\((∃(y:Nat),y=0/\(m8 l).len-y<(m8 l).len
-x/\((0:Int)+1=0/\False/\(zas ([D.str (nm1 (el (m8 l) 0))]++ [D.str (nm2 (el (m8 l) 0))]) (0+0)).asStr= []/\True)/\True)\/∃(y:Nat),(0<y/\y<=(m8 l).len)/\(m8 l).len-y<(m8 l).len-x/\(0+1
=(y:Int)/\((0:Nat)=0/\1=y/\True)/\(zas ([D.str (nm1 (el (m8 l) 0))]++ [D.str (nm2 (el (m8 l) 0))]) (0+0)).asStr=mR (m8 l) y/\True)/\List.take 1 [D.sct [D.int (mK (el (m8 l) 0)),D.str [],D.bool
(false=true),D.list (List.take 2 ([D.str (nm1 (el (m8 l) 0))]++ [D.str (nm2 (el (m8 l) 0))])),D.int 0]]=mL (m8 l) y/\True))/\((mK (el (m8 l) 0)=1->False)->(mK (el (m8 l) 0)=4->((2:Int)=0->False)/\
fits64 (1+IntKind.i64.wrap (((el (m8 l) 0).fld 1).asInt.tmod 2))/\0+1<= [D.sct [D.int (mK (el (m8 l) 0)),D.str [],D.bool (cNm (el (m8 l) 0)).asProp,D.nil,D.int (1+IntKind.i64.wrap (((el (m8 l) 0).fld
1).asInt.tmod 2))]].length/\(1:Nat)<=16777216/\fits64 (0+1)/\((∃(y:Nat),y=0/\(m8 l).len-y<(m8 l).len-x/\((0:Int)+1=0/\False/\([]:List UInt8)= []/\True)/\True)\/∃(y:Nat),(0<y/\y
<=(m8 l).len)/\(m8 l).len-y<(m8 l).len-x/\(0+1=(y:Int)/\((0:Nat)=0/\1=y/\True)/\ []=mR (m8 l) y/\True)/\List.take 1 [D.sct [D.int (mK (el (m8 l) 0)),D.str [],D.bool (cNm (el (m8 l)
0)).asProp,D.nil,D.int (1+IntKind.i64.wrap (((el (m8 l) 0).fld 1).asInt.tmod 2))]]=mL (m8 l) y/\True))/\((mK (el (m8 l) 0)=4->False)->(mK (el (m8 l) 0)=5->0+1<= [D.sct [D.int (mK (el (m8 l) 0)),D.str
[],D.bool (cNm (el (m8 l) 0)).asProp,D.nil,D.int 0]].length/\(1:Nat)<=16777216/\fits64 (0+1)/\((∃(y:Nat),y=0/\(m8 l).len-y<(m8 l).len-x/\((0:Int)+1=0/\False/\([]:List UInt8)= []/\
True)/\True)\/∃(y:Nat),(0<y/\y<=(m8 l).len)/\(m8 l).len-y<(m8 l).len-x/\(0+1=(y:Int)/\((0:Nat)=0/\1=y/\True)/\ []=mR (m8 l) y/\True)/\List.take 1 [D.sct [D.int (mK (el (m8 l) 0)),
D.str [],D.bool (cNm (el (m8 l) 0)).asProp,D.nil,D.int 0]]=mL (m8 l) y/\True))/\((mK (el (m8 l) 0)=5->False)->(mK (el (m8 l) 0)=6->0+2<=([D.str (nm1 (el (m8 l) 0))]++ [D.str (nm2 (el (m8 l) 0))]).length
/\0+1<= [D.sct [D.int (mK (el (m8 l) 0)),D.str [],D.bool (cNm (el (m8 l) 0)).asProp,D.list (List.take 2 ([D.str (nm1 (el (m8 l) 0))]++ [D.str (nm2 (el (m8 l) 0))])),D.int 0]].length/\(1:Nat)<=16777216/\fits64
(0+1)/\((∃(y:Nat),y=0/\(m8 l).len-y<(m8 l).len-x/\((0:Int)+1=0/\False/\([]:List UInt8)= []/\True)/\True)\/∃(y:Nat),(0<y/\y<=(m8 l).len)/\(m8 l).len-y<(m8 l).len-x/\(0+1=
(y:Int)/\((0:Nat)=0/\1=y/\True)/\ []=mR (m8 l) y/\True)/\List.take 1 [D.sct [D.int (mK (el (m8 l) 0)),D.str [],D.bool (cNm (el (m8 l) 0)).asProp,D.list (List.take 2 ([D.str (nm1 (el (m8 l) 0))]++
[D.str (nm2 (el (m8 l) 0))])),D.int 0]]=mL (m8 l) y/\True))/\((mK (el (m8 l) 0)=6->False)->(mK (el (m8 l) 0)=7->0+2<=([D.str (nm1 (el (m8 l) 0))]++ [D.str (nm2 (el (m8 l) 0))]).length/\0+1<= [D.sct
[D.int (mK (el (m8 l) 0)),D.str [],D.bool (cNm (el (m8 l) 0)).asProp,D.list (List.take 2 ([D.str (nm1 (el (m8 l) 0))]++ [D.str (nm2 (el (m8 l) 0))])),D.int 0]].length/\(1:Nat)<=16777216/\fits64 (0+1)/\((∃(y
:Nat),y=0/\(m8 l).len-y<(m8 l).len-x/\((0:Int)+1=0/\False/\([]:List UInt8)= []/\True)/\True)\/∃(y:Nat),(0<y/\y<=(m8 l).len)/\(m8 l).len-y<(m8 l).len-x/\(0+1=(y:Int)/\((0:
Nat)=0/\1=y/\True)/\ []=mR (m8 l) y/\True)/\List.take 1 [D.sct [D.int (mK (el (m8 l) 0)),D.str [],D.bool (cNm (el (m8 l) 0)).asProp,D.list (List.take 2 ([D.str (nm1 (el (m8 l) 0))]++ [D.str (nm2 (el (m8 l)
0))])),D.int 0]]=mL (m8 l) y/\True))/\((mK (el (m8 l) 0)=7->False)->(mK (el (m8 l) 0)=10->((64:Int)=0->False)/\0+1<= [D.sct [D.int (mK (el (m8 l) 0)),D.str [],D.bool (false=true),D.nil,D.int
(IntKind.i64.wrap (((el (m8 l) 0).fld 1).asInt.tmod 64))]].length/\(1:Nat)<=16777216/\fits64 (0+1)/\((∃(y:Nat),y=0/\(m8 l).len-y<(m8 l).len-x/\((0:Int)+1=0/\False/\([]:List UInt8)= []/\
True)/\True)\/∃(y:Nat),(0<y/\y<=(m8 l).len)/\(m8 l).len-y<(m8 l).len-x/\(0+1=(y:Int)/\((0:Nat)=0/\1=y/\True)/\ []=mR (m8 l) y/\True)/\List.take 1 [D.sct [D.int (mK (el (m8 l) 0)),
D.str [],D.bool (false=true),D.nil,D.int (IntKind.i64.wrap (((el (m8 l) 0).fld 1).asInt.tmod 64))]]=mL (m8 l) y/\True))/\((mK (el (m8 l) 0)=10->False)->0+1<= [D.sct [D.int (mK (el (m8 l) 0)),D.str [],
D.bool (false=true),D.nil,D.int 0]].length/\(1:Nat)<=16777216/\fits64 (0+1)/\((∃(y:Nat),y=0/\(m8 l).len-y<(m8 l).len-x/\((0:Int)+1=0/\False/\([]:List UInt8)= []/\True)/\True)\/∃(y
:Nat),(0<y/\y<=(m8 l).len)/\(m8 l).len-y<(m8 l).len-x/\(0+1=(y:Int)/\((0:Nat)=0/\1=y/\True)/\ []=mR (m8 l) y/\True)/\List.take 1 [D.sct [D.int (mK (el (m8 l) 0)),D.str [],D.bool (false
=true),D.nil,D.int 0]]=mL (m8 l) y/\True)))))))))/\((((el (m8 l) 0).fld 4).asProp->False)->(mK (el (m8 l) 0)=1->(0:Int)<=0/\0<(↑(2:Nat):Int)/\0+0<([D.str (nm1 (el (m8 l) 0))]++ [D.str (nm2 (el
(m8 l) 0))]).length/\0+2<=([D.str (nm1 (el (m8 l) 0))]++ [D.str (nm2 (el (m8 l) 0))]).length/\0+1<= [D.sct [D.int (mK (el (m8 l) 0)),D.str [],D.bool (false=true),D.list (List.take 2 ([D.str (nm1 (el (m8 l)
0))]++ [D.str (nm2 (el (m8 l) 0))])),D.int 0]].length/\(1:Nat)<=16777216/\fits64 (0+1)/\((∃(y:Nat),y=0/\(m8 l).len-y<(m8 l).len-x/\((0:Int)+1=0/\False/\(zas ([D.str (nm1 (el (m8 l) 0))]
++ [D.str (nm2 (el (m8 l) 0))]) (0+0)).asStr= []/\True)/\True)\/∃(y:Nat),(0<y/\y<=(m8 l).len)/\(m8 l).len-y<(m8 l).len-x/\(0+1=(y:Int)/\((0:Nat)=0/\1=y/\True)/\(zas ([D.str (nm1 (el
(m8 l) 0))]++ [D.str (nm2 (el (m8 l) 0))]) (0+0)).asStr=mR (m8 l) y/\True)/\List.take 1 [D.sct [D.int (mK (el (m8 l) 0)),D.str [],D.bool (false=true),D.list (List.take 2 ([D.str (nm1 (el (m8 l) 0))]++ [D.str
(nm2 (el (m8 l) 0))])),D.int 0]]=mL (m8 l) y/\True))/\((mK (el (m8 l) 0)=1->False)->(mK (el (m8 l) 0)=4->((2:Int)=0->False)/\fits64 (1+IntKind.i64.wrap (((el (m8 l) 0).fld 1).asInt.tmod 2))/\0+1<=
[D.sct [D.int (mK (el (m8 l) 0)),D.str [],D.bool (cNm (el (m8 l) 0)).asProp,D.nil,D.int (1+IntKind.i64.wrap (((el (m8 l) 0).fld 1).asInt.tmod 2))]].length/\(1:Nat)<=16777216/\fits64 (0+1)/\((∃(y:Nat),y
=0/\(m8 l).len-y<(m8 l).len-x/\((0:Int)+1=0/\False/\([]:List UInt8)= []/\True)/\True)\/∃(y:Nat),(0<y/\y<=(m8 l).len)/\(m8 l).len-y<(m8 l).len-x/\(0+1=(y:Int)/\((0:Nat)=0
/\1=y/\True)/\ []=mR (m8 l) y/\True)/\List.take 1 [D.sct [D.int (mK (el (m8 l) 0)),D.str [],D.bool (cNm (el (m8 l) 0)).asProp,D.nil,D.int (1+IntKind.i64.wrap (((el (m8 l) 0).fld 1).asInt.tmod 2))]]=mL (m8
l) y/\True))/\((mK (el (m8 l) 0)=4->False)->(mK (el (m8 l) 0)=5->0+1<= [D.sct [D.int (mK (el (m8 l) 0)),D.str [],D.bool (cNm (el (m8 l) 0)).asProp,D.nil,D.int 0]].length/\(1:Nat)<=16777216/\fits64 (0
+1)/\((∃(y:Nat),y=0/\(m8 l).len-y<(m8 l).len-x/\((0:Int)+1=0/\False/\([]:List UInt8)= []/\True)/\True)\/∃(y:Nat),(0<y/\y<=(m8 l).len)/\(m8 l).len-y<(m8 l).len-x/\(0+1=(y
:Int)/\((0:Nat)=0/\1=y/\True)/\ []=mR (m8 l) y/\True)/\List.take 1 [D.sct [D.int (mK (el (m8 l) 0)),D.str [],D.bool (cNm (el (m8 l) 0)).asProp,D.nil,D.int 0]]=mL (m8 l) y/\True))/\((mK (el (m8 l) 0)
=5->False)->(mK (el (m8 l) 0)=6->0+2<=([D.str (nm1 (el (m8 l) 0))]++ [D.str (nm2 (el (m8 l) 0))]).length/\0+1<= [D.sct [D.int (mK (el (m8 l) 0)),D.str [],D.bool (cNm (el (m8 l) 0)).asProp,D.list
(List.take 2 ([D.str (nm1 (el (m8 l) 0))]++ [D.str (nm2 (el (m8 l) 0))])),D.int 0]].length/\(1:Nat)<=16777216/\fits64 (0+1)/\((∃(y:Nat),y=0/\(m8 l).len-y<(m8 l).len-x/\((0:Int)+1=0/\False/\
([]:List UInt8)= []/\True)/\True)\/∃(y:Nat),(0<y/\y<=(m8 l).len)/\(m8 l).len-y<(m8 l).len-x/\(0+1=(y:Int)/\((0:Nat)=0/\1=y/\True)/\ []=mR (m8 l) y/\True)/\List.take 1 [D.sct
[D.int (mK (el (m8 l) 0)),D.str [],D.bool (cNm (el (m8 l) 0)).asProp,D.list (List.take 2 ([D.str (nm1 (el (m8 l) 0))]++ [D.str (nm2 (el (m8 l) 0))])),D.int 0]]=mL (m8 l) y/\True))/\((mK (el (m8 l) 0)=6->
False)->(mK (el (m8 l) 0)=7->0+2<=([D.str (nm1 (el (m8 l) 0))]++ [D.str (nm2 (el (m8 l) 0))]).length/\0+1<= [D.sct [D.int (mK (el (m8 l) 0)),D.str [],D.bool (cNm (el (m8 l) 0)).asProp,D.list (List.take 2
([D.str (nm1 (el (m8 l) 0))]++ [D.str (nm2 (el (m8 l) 0))])),D.int 0]].length/\(1:Nat)<=16777216/\fits64 (0+1)/\((∃(y:Nat),y=0/\(m8 l).len-y<(m8 l).len-x/\((0:Int)+1=0/\False/\([]:List
UInt8)= []/\True)/\True)\/∃(y:Nat),(0<y/\y<=(m8 l).len)/\(m8 l).len-y<(m8 l).len-x/\(0+1=(y:Int)/\((0:Nat)=0/\1=y/\True)/\ []=mR (m8 l) y/\True)/\List.take 1 [D.sct [D.int (mK (el
(m8 l) 0)),D.str [],D.bool (cNm (el (m8 l) 0)).asProp,D.list (List.take 2 ([D.str (nm1 (el (m8 l) 0))]++ [D.str (nm2 (el (m8 l) 0))])),D.int 0]]=mL (m8 l) y/\True))/\((mK (el (m8 l) 0)=7->False)->(mK (el (m8
l) 0)=10->((64:Int)=0->False)/\0+1<= [D.sct [D.int (mK (el (m8 l) 0)),D.str [],D.bool (false=true),D.nil,D.int (IntKind.i64.wrap (((el (m8 l) 0).fld 1).asInt.tmod 64))]].length/\(1:Nat)<=16777216/\
fits64 (0+1)/\((∃(y:Nat),y=0/\(m8 l).len-y<(m8 l).len-x/\((0:Int)+1=0/\False/\([]:List UInt8)= []/\True)/\True)\/∃(y:Nat),(0<y/\y<=(m8 l).len)/\(m8 l).len-y<(m8 l).len-x/\(0
+1=(y:Int)/\((0:Nat)=0/\1=y/\True)/\ []=mR (m8 l) y/\True)/\List.take 1 [D.sct [D.int (mK (el (m8 l) 0)),D.str [],D.bool (false=true),D.nil,D.int (IntKind.i64.wrap (((el (m8 l) 0).fld
1).asInt.tmod 64))]]=mL (m8 l) y/\True))/\((mK (el (m8 l) 0)=10->False)->0+1<= [D.sct [D.int (mK (el (m8 l) 0)),D.str [],D.bool (false=true),D.nil,D.int 0]].length/\(1:Nat)<=16777216/\fits64 (0+1)
/\((∃(y:Nat),y=0/\(m8 l).len-y<(m8 l).len-x/\((0:Int)+1=0/\False/\([]:List UInt8)= []/\True)/\True)\/∃(y:Nat),(0<y/\y<=(m8 l).len)/\(m8 l).len-y<(m8 l).len-x/\(0+1=(y:
Int)/\((0:Nat)=0/\1=y/\True)/\ []=mR (m8 l) y/\True)/\List.take 1 [D.sct [D.int (mK (el (m8 l) 0)),D.str [],D.bool (false=true),D.nil,D.int 0]]=mL (m8 l) y/\True)))))))))/\((0<(↑(m8 l).len:Int)
->False)->D.nil=mD l))/\∀(x:Nat),0<x/\x<=(m8 l).len->(m8 l).len-x<LIM/\((x:Int)<(↑(m8 l).len:Int)->0<=(x:Int)/\(x:Int)<(↑(m8 l).len:Int)/\((10:Int)=0->False)/\((4:Int)=0->
False)/\0<=((el (m8 l) x).fld 2).asInt.tmod 4/\((el (m8 l) x).fld 2).asInt.tmod 4<=(zb7.length:Int)/\(zb7.length:Int)<=(zb7.length:Int)/\(0:Int)<=0/\(0:Int)<=1/\1<=(↑(List.take (zb7.length-
(((el (m8 l) x).fld 2).asInt.tmod 4).toNat) (List.drop (((el (m8 l) x).fld 2).asInt.tmod 4).toNat zb7)).length:Int)/\(0<=((el (m8 l) x).fld 2).asInt/\(0:Int)<=4/\(0<=((el (m8 l) x).fld 2).asInt/\((el (m8 l)
x).fld 2).asInt<256)/\((0:Int)<=4/\(4:Int)<256)/\((zaf ((el (m8 l) x).fld 2).asInt 4=0->False)->((4:Int)=0->False)/\0<=(IntKind.u8.wrap (((el (m8 l) x).fld 2).asInt+1)).tmod 4/\
(IntKind.u8.wrap (((el (m8 l) x).fld 2).asInt+1)).tmod 4<=(zb7.length:Int)/\(zb7.length:Int)<=(zb7.length:Int)/\(0:Int)<=0/\(0:Int)<=1/\1<=(↑(List.take (zb7.length-((IntKind.u8.wrap (((el (m8
l) x).fld 2).asInt+1)).tmod 4).toNat) (List.drop ((IntKind.u8.wrap (((el (m8 l) x).fld 2).asInt+1)).tmod 4).toNat zb7)).length:Int)/\0+1<= [D.str (nm2 (el (m8 l) x))].length/\0+1<= [D.str (nm1 (el (m8 l)
x))].length/\(1:Nat)+1<=8796093022208/\((∃(x_1:Unit),zaf ((el (m8 l) x).fld 2).asInt 4=0/\False)\/∃(x_1:Unit),(zaf ((el (m8 l) x).fld 2).asInt 4=0->False)/\(((0:Nat)=0/\(1:Nat)+1=2/\
True)/\True)/\List.take 1 [D.str (nm1 (el (m8 l) x))]++List.take 1 [D.str (nm2 (el (m8 l) x))]= [D.str (nm1 (el (m8 l) x))]++ [D.str (nm2 (el (m8 l) x))]/\True))/\(((zaf ((el (m8 l) x).fld 2).asInt 4=0->
False)->False)->(∃(x_1:Unit),zaf ((el (m8 l) x).fld 2).asInt 4=0/\(((0:Nat)=0/\(1:Nat)=1/\(1:Nat)=1)/\True)/\ [D.str (nm1 (el (m8 l) x))]= [D.str (nm1 (el (m8 l) x))]/\True)\/∃(x_1:Unit),
(zaf ((el (m8 l) x).fld 2).asInt 4=0->False)/\False))/\(∀(x_1:Unit),zaf ((el (m8 l) x).fld 2).asInt 4=0->(((el (m8 l) x).fld 4).asProp->((mK (el (m8 l) x)=1->False)->(mK (el (m8 l) x)=1->(0:Int)
<=0/\0<(↑(1:Nat):Int)/\0+0< [D.str (nm1 (el (m8 l) x))].length/\0+1<= [D.str (nm1 (el (m8 l) x))].length/\0+1<= [D.sct [D.int (mK (el (m8 l) x)),D.str (mR (m8 l) x),D.bool (false=true),D.list
(List.take 1 [D.str (nm1 (el (m8 l) x))]),D.int 0]].length/\0+x<=(mL (m8 l) x).length/\x+1<=16777216/\fits64 ((x:Int)+1)/\((∃(y:Nat),y=0/\(m8 l).len-y<(m8 l).len-x/\((x:Int)+1=0/\False
/\(zas [D.str (nm1 (el (m8 l) x))] (0+0)).asStr= []/\True)/\True)\/∃(y:Nat),(0<y/\y<=(m8 l).len)/\(m8 l).len-y<(m8 l).len-x/\((x:Int)+1=(y:Int)/\((0:Nat)=0/\x+1=y/\True)/\(zas
[D.str (nm1 (el (m8 l) x))] (0+0)).asStr=mR (m8 l) y/\True)/\List.take x (mL (m8 l) x)++List.take 1 [D.sct [D.int (mK (el (m8 l) x)),D.str (mR (m8 l) x),D.bool (false=true),D.list (List.take 1 [D.str (nm1
(el (m8 l) x))]),D.int 0]]=mL (m8 l) y/\True))/\((mK (el (m8 l) x)=1->False)->(mK (el (m8 l) x)=4->((2:Int)=0->False)/\fits64 (1+IntKind.i64.wrap (((el (m8 l) x).fld 1).asInt.tmod 2))/\0+1<= [D.sct
[D.int (mK (el (m8 l) x)),D.str (mR (m8 l) x),D.bool (cNm (el (m8 l) x)).asProp,D.nil,D.int (1+IntKind.i64.wrap (((el (m8 l) x).fld 1).asInt.tmod 2))]].length/\0+x<=(mL (m8 l) x).length/\x+1<=16777216/\
fits64 ((x:Int)+1)/\((∃(y:Nat),y=0/\(m8 l).len-y<(m8 l).len-x/\((x:Int)+1=0/\False/\mR (m8 l) x= []/\True)/\True)\/∃(y:Nat),(0<y/\y<=(m8 l).len)/\(m8 l).len-y<(m8 l).len-x/\
((x:Int)+1=(y:Int)/\((0:Nat)=0/\x+1=y/\True)/\mR (m8 l) x=mR (m8 l) y/\True)/\List.take x (mL (m8 l) x)++List.take 1 [D.sct [D.int (mK (el (m8 l) x)),D.str (mR (m8 l) x),D.bool (cNm (el (m8 l)
x)).asProp,D.nil,D.int (1+IntKind.i64.wrap (((el (m8 l) x).fld 1).asInt.tmod 2))]]=mL (m8 l) y/\True))/\((mK (el (m8 l) x)=4->False)->(mK (el (m8 l) x)=5->0+1<= [D.sct [D.int (mK (el (m8 l) x)),D.str
(mR (m8 l) x),D.bool (cNm (el (m8 l) x)).asProp,D.nil,D.int 0]].length/\0+x<=(mL (m8 l) x).length/\x+1<=16777216/\fits64 ((x:Int)+1)/\((∃(y:Nat),y=0/\(m8 l).len-y<(m8 l).len-x/\((x:Int)+
1=0/\False/\mR (m8 l) x= []/\True)/\True)\/∃(y:Nat),(0<y/\y<=(m8 l).len)/\(m8 l).len-y<(m8 l).len-x/\((x:Int)+1=(y:Int)/\((0:Nat)=0/\x+1=y/\True)/\mR (m8 l) x=mR (m8 l) y/\
True)/\List.take x (mL (m8 l) x)++List.take 1 [D.sct [D.int (mK (el (m8 l) x)),D.str (mR (m8 l) x),D.bool (cNm (el (m8 l) x)).asProp,D.nil,D.int 0]]=mL (m8 l) y/\True))/\((mK (el (m8 l) x)=5->False)->(mK
(el (m8 l) x)=6->0+1<= [D.str (nm1 (el (m8 l) x))].length/\0+1<= [D.sct [D.int (mK (el (m8 l) x)),D.str (mR (m8 l) x),D.bool (cNm (el (m8 l) x)).asProp,D.list (List.take 1 [D.str (nm1 (el (m8 l) x))]),D.int
0]].length/\0+x<=(mL (m8 l) x).length/\x+1<=16777216/\fits64 ((x:Int)+1)/\((∃(y:Nat),y=0/\(m8 l).len-y<(m8 l).len-x/\((x:Int)+1=0/\False/\mR (m8 l) x= []/\True)/\True)\/∃(y:
Nat),(0<y/\y<=(m8 l).len)/\(m8 l).len-y<(m8 l).len-x/\((x:Int)+1=(y:Int)/\((0:Nat)=0/\x+1=y/\True)/\mR (m8 l) x=mR (m8 l) y/\True)/\List.take x (mL (m8 l) x)++List.take 1 [D.sct
[D.int (mK (el (m8 l) x)),D.str (mR (m8 l) x),D.bool (cNm (el (m8 l) x)).asProp,D.list (List.take 1 [D.str (nm1 (el (m8 l) x))]),D.int 0]]=mL (m8 l) y/\True))/\((mK (el (m8 l) x)=6->False)->(mK (el (m8 l) x)
=7->0+1<= [D.str (nm1 (el (m8 l) x))].length/\0+1<= [D.sct [D.int (mK (el (m8 l) x)),D.str (mR (m8 l) x),D.bool (cNm (el (m8 l) x)).asProp,D.list (List.take 1 [D.str (nm1 (el (m8 l) x))]),D.int 0]].length/\0
+x<=(mL (m8 l) x).length/\x+1<=16777216/\fits64 ((x:Int)+1)/\((∃(y:Nat),y=0/\(m8 l).len-y<(m8 l).len-x/\((x:Int)+1=0/\False/\mR (m8 l) x= []/\True)/\True)\/∃(y:Nat),(0<y/\y<=
(m8 l).len)/\(m8 l).len-y<(m8 l).len-x/\((x:Int)+1=(y:Int)/\((0:Nat)=0/\x+1=y/\True)/\mR (m8 l) x=mR (m8 l) y/\True)/\List.take x (mL (m8 l) x)++List.take 1 [D.sct [D.int (mK (el (m8 l)
x)),D.str (mR (m8 l) x),D.bool (cNm (el (m8 l) x)).asProp,D.list (List.take 1 [D.str (nm1 (el (m8 l) x))]),D.int 0]]=mL (m8 l) y/\True))/\((mK (el (m8 l) x)=7->False)->(mK (el (m8 l) x)=10->((64:Int)=0
->False)/\0+1<= [D.sct [D.int (mK (el (m8 l) x)),D.str (mR (m8 l) x),D.bool (false=true),D.nil,D.int (IntKind.i64.wrap (((el (m8 l) x).fld 1).asInt.tmod 64))]].length/\0+x<=(mL (m8 l) x).length/\x+1<=
16777216/\fits64 ((x:Int)+1)/\((∃(y:Nat),y=0/\(m8 l).len-y<(m8 l).len-x/\((x:Int)+1=0/\False/\mR (m8 l) x= []/\True)/\True)\/∃(y:Nat),(0<y/\y<=(m8 l).len)/\(m8 l).len-y<(m8
l).len-x/\((x:Int)+1=(y:Int)/\((0:Nat)=0/\x+1=y/\True)/\mR (m8 l) x=mR (m8 l) y/\True)/\List.take x (mL (m8 l) x)++List.take 1 [D.sct [D.int (mK (el (m8 l) x)),D.str (mR (m8 l) x),D.bool
(false=true),D.nil,D.int (IntKind.i64.wrap (((el (m8 l) x).fld 1).asInt.tmod 64))]]=mL (m8 l) y/\True))/\((mK (el (m8 l) x)=10->False)->0+1<= [D.sct [D.int (mK (el (m8 l) x)),D.str (mR (m8 l) x),D.bool
(false=true),D.nil,D.int 0]].length/\0+x<=(mL (m8 l) x).length/\x+1<=16777216/\fits64 ((x:Int)+1)/\((∃(y:Nat),y=0/\(m8 l).len-y<(m8 l).len-x/\((x:Int)+1=0/\False/\mR (m8 l) x= []
/\True)/\True)\/∃(y:Nat),(0<y/\y<=(m8 l).len)/\(m8 l).len-y<(m8 l).len-x/\((x:Int)+1=(y:Int)/\((0:Nat)=0/\x+1=y/\True)/\mR (m8 l) x=mR (m8 l) y/\True)/\List.take x (mL (m8 l) x)
++List.take 1 [D.sct [D.int (mK (el (m8 l) x)),D.str (mR (m8 l) x),D.bool (false=true),D.nil,D.int 0]]=mL (m8 l) y/\True))))))))/\(((mK (el (m8 l) x)=1->False)->False)->(mK (el (m8 l) x)=1->(0:Int)<=
0/\0<(↑(1:Nat):Int)/\0+0< [D.str (nm1 (el (m8 l) x))].length/\0+1<= [D.str (nm1 (el (m8 l) x))].length/\0+1<= [D.sct [D.int (mK (el (m8 l) x)),D.str [],D.bool (false=true),D.list (List.take 1 [D.str
(nm1 (el (m8 l) x))]),D.int 0]].length/\0+x<=(mL (m8 l) x).length/\x+1<=16777216/\fits64 ((x:Int)+1)/\((∃(y:Nat),y=0/\(m8 l).len-y<(m8 l).len-x/\((x:Int)+1=0/\False/\(zas [D.str (nm1
(el (m8 l) x))] (0+0)).asStr= []/\True)/\True)\/∃(y:Nat),(0<y/\y<=(m8 l).len)/\(m8 l).len-y<(m8 l).len-x/\((x:Int)+1=(y:Int)/\((0:Nat)=0/\x+1=y/\True)/\(zas [D.str (nm1 (el (m8
l) x))] (0+0)).asStr=mR (m8 l) y/\True)/\List.take x (mL (m8 l) x)++List.take 1 [D.sct [D.int (mK (el (m8 l) x)),D.str [],D.bool (false=true),D.list (List.take 1 [D.str (nm1 (el (m8 l) x))]),D.int 0]]=mL
(m8 l) y/\True))/\((mK (el (m8 l) x)=1->False)->(mK (el (m8 l) x)=4->((2:Int)=0->False)/\fits64 (1+IntKind.i64.wrap (((el (m8 l) x).fld 1).asInt.tmod 2))/\0+1<= [D.sct [D.int (mK (el (m8 l) x)),D.str
[],D.bool (cNm (el (m8 l) x)).asProp,D.nil,D.int (1+IntKind.i64.wrap (((el (m8 l) x).fld 1).asInt.tmod 2))]].length/\0+x<=(mL (m8 l) x).length/\x+1<=16777216/\fits64 ((x:Int)+1)/\((∃(y:Nat),y=0/\
(m8 l).len-y<(m8 l).len-x/\((x:Int)+1=0/\False/\mR (m8 l) x= []/\True)/\True)\/∃(y:Nat),(0<y/\y<=(m8 l).len)/\(m8 l).len-y<(m8 l).len-x/\((x:Int)+1=(y:Int)/\((0:Nat)=0/\x
+1=y/\True)/\mR (m8 l) x=mR (m8 l) y/\True)/\List.take x (mL (m8 l) x)++List.take 1 [D.sct [D.int (mK (el (m8 l) x)),D.str [],D.bool (cNm (el (m8 l) x)).asProp,D.nil,D.int (1+IntKind.i64.wrap (((el (m8
l) x).fld 1).asInt.tmod 2))]]=mL (m8 l) y/\True))/\((mK (el (m8 l) x)=4->False)->(mK (el (m8 l) x)=5->0+1<= [D.sct [D.int (mK (el (m8 l) x)),D.str [],D.bool (cNm (el (m8 l) x)).asProp,D.nil,D.int
0]].length/\0+x<=(mL (m8 l) x).length/\x+1<=16777216/\fits64 ((x:Int)+1)/\((∃(y:Nat),y=0/\(m8 l).len-y<(m8 l).len-x/\((x:Int)+1=0/\False/\mR (m8 l) x= []/\True)/\True)\/∃(y:
Nat),(0<y/\y<=(m8 l).len)/\(m8 l).len-y<(m8 l).len-x/\((x:Int)+1=(y:Int)/\((0:Nat)=0/\x+1=y/\True)/\mR (m8 l) x=mR (m8 l) y/\True)/\List.take x (mL (m8 l) x)++List.take 1 [D.sct
[D.int (mK (el (m8 l) x)),D.str [],D.bool (cNm (el (m8 l) x)).asProp,D.nil,D.int 0]]=mL (m8 l) y/\True))/\((mK (el (m8 l) x)=5->False)->(mK (el (m8 l) x)=6->0+1<= [D.str (nm1 (el (m8 l) x))].length/\0+
1<= [D.sct [D.int (mK (el (m8 l) x)),D.str [],D.bool (cNm (el (m8 l) x)).asProp,D.list (List.take 1 [D.str (nm1 (el (m8 l) x))]),D.int 0]].length/\0+x<=(mL (m8 l) x).length/\x+1<=16777216/\fits64 ((x:Int)
+1)/\((∃(y:Nat),y=0/\(m8 l).len-y<(m8 l).len-x/\((x:Int)+1=0/\False/\mR (m8 l) x= []/\True)/\True)\/∃(y:Nat),(0<y/\y<=(m8 l).len)/\(m8 l).len-y<(m8 l).len-x/\((x:Int)+1=
(y:Int)/\((0:Nat)=0/\x+1=y/\True)/\mR (m8 l) x=mR (m8 l) y/\True)/\List.take x (mL (m8 l) x)++List.take 1 [D.sct [D.int (mK (el (m8 l) x)),D.str [],D.bool (cNm (el (m8 l) x)).asProp,D.list
(List.take 1 [D.str (nm1 (el (m8 l) x))]),D.int 0]]=mL (m8 l) y/\True))/\((mK (el (m8 l) x)=6->False)->(mK (el (m8 l) x)=7->0+1<= [D.str (nm1 (el (m8 l) x))].length/\0+1<= [D.sct [D.int (mK (el (m8 l)
x)),D.str [],D.bool (cNm (el (m8 l) x)).asProp,D.list (List.take 1 [D.str (nm1 (el (m8 l) x))]),D.int 0]].length/\0+x<=(mL (m8 l) x).length/\x+1<=16777216/\fits64 ((x:Int)+1)/\((∃(y:Nat),y=0/\(m8
l).len-y<(m8 l).len-x/\((x:Int)+1=0/\False/\mR (m8 l) x= []/\True)/\True)\/∃(y:Nat),(0<y/\y<=(m8 l).len)/\(m8 l).len-y<(m8 l).len-x/\((x:Int)+1=(y:Int)/\((0:Nat)=0/\x+1
=y/\True)/\mR (m8 l) x=mR (m8 l) y/\True)/\List.take x (mL (m8 l) x)++List.take 1 [D.sct [D.int (mK (el (m8 l) x)),D.str [],D.bool (cNm (el (m8 l) x)).asProp,D.list (List.take 1 [D.str (nm1 (el (m8 l) x))]),
D.int 0]]=mL (m8 l) y/\True))/\((mK (el (m8 l) x)=7->False)->(mK (el (m8 l) x)=10->((64:Int)=0->False)/\0+1<= [D.sct [D.int (mK (el (m8 l) x)),D.str [],D.bool (false=true),D.nil,D.int
(IntKind.i64.wrap (((el (m8 l) x).fld 1).asInt.tmod 64))]].length/\0+x<=(mL (m8 l) x).length/\x+1<=16777216/\fits64 ((x:Int)+1)/\((∃(y:Nat),y=0/\(m8 l).len-y<(m8 l).len-x/\((x:Int)+1=0/\
False/\mR (m8 l) x= []/\True)/\True)\/∃(y:Nat),(0<y/\y<=(m8 l).len)/\(m8 l).len-y<(m8 l).len-x/\((x:Int)+1=(y:Int)/\((0:Nat)=0/\x+1=y/\True)/\mR (m8 l) x=mR (m8 l) y/\True)/\
List.take x (mL (m8 l) x)++List.take 1 [D.sct [D.int (mK (el (m8 l) x)),D.str [],D.bool (false=true),D.nil,D.int (IntKind.i64.wrap (((el (m8 l) x).fld 1).asInt.tmod 64))]]=mL (m8 l) y/\True))/\((mK (el (m8 l)
x)=10->False)->0+1<= [D.sct [D.int (mK (el (m8 l) x)),D.str [],D.bool (false=true),D.nil,D.int 0]].length/\0+x<=(mL (m8 l) x).length/\x+1<=16777216/\fits64 ((x:Int)+1)/\((∃(y:Nat),y=0/\
(m8 l).len-y<(m8 l).len-x/\((x:Int)+1=0/\False/\mR (m8 l) x= []/\True)/\True)\/∃(y:Nat),(0<y/\y<=(m8 l).len)/\(m8 l).len-y<(m8 l).len-x/\((x:Int)+1=(y:Int)/\((0:Nat)=0/\x
+1=y/\True)/\mR (m8 l) x=mR (m8 l) y/\True)/\List.take x (mL (m8 l) x)++List.take 1 [D.sct [D.int (mK (el (m8 l) x)),D.str [],D.bool (false=true),D.nil,D.int 0]]=mL (m8 l) y/\True)))))))))/\((((el
(m8 l) x).fld 4).asProp->False)->(mK (el (m8 l) x)=1->(0:Int)<=0/\0<(↑(1:Nat):Int)/\0+0< [D.str (nm1 (el (m8 l) x))].length/\0+1<= [D.str (nm1 (el (m8 l) x))].length/\0+1<= [D.sct [D.int (mK (el
(m8 l) x)),D.str [],D.bool (false=true),D.list (List.take 1 [D.str (nm1 (el (m8 l) x))]),D.int 0]].length/\0+x<=(mL (m8 l) x).length/\x+1<=16777216/\fits64 ((x:Int)+1)/\((∃(y:Nat),y=0/\(m8
l).len-y<(m8 l).len-x/\((x:Int)+1=0/\False/\(zas [D.str (nm1 (el (m8 l) x))] (0+0)).asStr= []/\True)/\True)\/∃(y:Nat),(0<y/\y<=(m8 l).len)/\(m8 l).len-y<(m8 l).len-x/\((x:Int)+1
=(y:Int)/\((0:Nat)=0/\x+1=y/\True)/\(zas [D.str (nm1 (el (m8 l) x))] (0+0)).asStr=mR (m8 l) y/\True)/\List.take x (mL (m8 l) x)++List.take 1 [D.sct [D.int (mK (el (m8 l) x)),D.str [],D.bool
(false=true),D.list (List.take 1 [D.str (nm1 (el (m8 l) x))]),D.int 0]]=mL (m8 l) y/\True))/\((mK (el (m8 l) x)=1->False)->(mK (el (m8 l) x)=4->((2:Int)=0->False)/\fits64 (1+IntKind.i64.wrap (((el
(m8 l) x).fld 1).asInt.tmod 2))/\0+1<= [D.sct [D.int (mK (el (m8 l) x)),D.str [],D.bool (cNm (el (m8 l) x)).asProp,D.nil,D.int (1+IntKind.i64.wrap (((el (m8 l) x).fld 1).asInt.tmod 2))]].length/\0+x<=(mL (m8
l) x).length/\x+1<=16777216/\fits64 ((x:Int)+1)/\((∃(y:Nat),y=0/\(m8 l).len-y<(m8 l).len-x/\((x:Int)+1=0/\False/\mR (m8 l) x= []/\True)/\True)\/∃(y:Nat),(0<y/\y<=(m8 l).len)/\
(m8 l).len-y<(m8 l).len-x/\((x:Int)+1=(y:Int)/\((0:Nat)=0/\x+1=y/\True)/\mR (m8 l) x=mR (m8 l) y/\True)/\List.take x (mL (m8 l) x)++List.take 1 [D.sct [D.int (mK (el (m8 l) x)),D.str [],
D.bool (cNm (el (m8 l) x)).asProp,D.nil,D.int (1+IntKind.i64.wrap (((el (m8 l) x).fld 1).asInt.tmod 2))]]=mL (m8 l) y/\True))/\((mK (el (m8 l) x)=4->False)->(mK (el (m8 l) x)=5->0+1<= [D.sct [D.int (mK
(el (m8 l) x)),D.str [],D.bool (cNm (el (m8 l) x)).asProp,D.nil,D.int 0]].length/\0+x<=(mL (m8 l) x).length/\x+1<=16777216/\fits64 ((x:Int)+1)/\((∃(y:Nat),y=0/\(m8 l).len-y<(m8 l).len-x/\
((x:Int)+1=0/\False/\mR (m8 l) x= []/\True)/\True)\/∃(y:Nat),(0<y/\y<=(m8 l).len)/\(m8 l).len-y<(m8 l).len-x/\((x:Int)+1=(y:Int)/\((0:Nat)=0/\x+1=y/\True)/\mR (m8 l) x=mR
(m8 l) y/\True)/\List.take x (mL (m8 l) x)++List.take 1 [D.sct [D.int (mK (el (m8 l) x)),D.str [],D.bool (cNm (el (m8 l) x)).asProp,D.nil,D.int 0]]=mL (m8 l) y/\True))/\((mK (el (m8 l) x)=5->False)->(mK
(el (m8 l) x)=6->0+1<= [D.str (nm1 (el (m8 l) x))].length/\0+1<= [D.sct [D.int (mK (el (m8 l) x)),D.str [],D.bool (cNm (el (m8 l) x)).asProp,D.list (List.take 1 [D.str (nm1 (el (m8 l) x))]),D.int 0]].length/\
0+x<=(mL (m8 l) x).length/\x+1<=16777216/\fits64 ((x:Int)+1)/\((∃(y:Nat),y=0/\(m8 l).len-y<(m8 l).len-x/\((x:Int)+1=0/\False/\mR (m8 l) x= []/\True)/\True)\/∃(y:Nat),(0<y/\y
<=(m8 l).len)/\(m8 l).len-y<(m8 l).len-x/\((x:Int)+1=(y:Int)/\((0:Nat)=0/\x+1=y/\True)/\mR (m8 l) x=mR (m8 l) y/\True)/\List.take x (mL (m8 l) x)++List.take 1 [D.sct [D.int (mK (el (m8
l) x)),D.str [],D.bool (cNm (el (m8 l) x)).asProp,D.list (List.take 1 [D.str (nm1 (el (m8 l) x))]),D.int 0]]=mL (m8 l) y/\True))/\((mK (el (m8 l) x)=6->False)->(mK (el (m8 l) x)=7->0+1<= [D.str (nm1 (el
(m8 l) x))].length/\0+1<= [D.sct [D.int (mK (el (m8 l) x)),D.str [],D.bool (cNm (el (m8 l) x)).asProp,D.list (List.take 1 [D.str (nm1 (el (m8 l) x))]),D.int 0]].length/\0+x<=(mL (m8 l) x).length/\x+1<=
16777216/\fits64 ((x:Int)+1)/\((∃(y:Nat),y=0/\(m8 l).len-y<(m8 l).len-x/\((x:Int)+1=0/\False/\mR (m8 l) x= []/\True)/\True)\/∃(y:Nat),(0<y/\y<=(m8 l).len)/\(m8 l).len-y<(m8
l).len-x/\((x:Int)+1=(y:Int)/\((0:Nat)=0/\x+1=y/\True)/\mR (m8 l) x=mR (m8 l) y/\True)/\List.take x (mL (m8 l) x)++List.take 1 [D.sct [D.int (mK (el (m8 l) x)),D.str [],D.bool (cNm (el (m8
l) x)).asProp,D.list (List.take 1 [D.str (nm1 (el (m8 l) x))]),D.int 0]]=mL (m8 l) y/\True))/\((mK (el (m8 l) x)=7->False)->(mK (el (m8 l) x)=10->((64:Int)=0->False)/\0+1<= [D.sct [D.int (mK (el (m8
l) x)),D.str [],D.bool (false=true),D.nil,D.int (IntKind.i64.wrap (((el (m8 l) x).fld 1).asInt.tmod 64))]].length/\0+x<=(mL (m8 l) x).length/\x+1<=16777216/\fits64 ((x:Int)+1)/\((∃(y:Nat),y=0/\
(m8 l).len-y<(m8 l).len-x/\((x:Int)+1=0/\False/\mR (m8 l) x= []/\True)/\True)\/∃(y:Nat),(0<y/\y<=(m8 l).len)/\(m8 l).len-y<(m8 l).len-x/\((x:Int)+1=(y:Int)/\((0:Nat)=0/\x
+1=y/\True)/\mR (m8 l) x=mR (m8 l) y/\True)/\List.take x (mL (m8 l) x)++List.take 1 [D.sct [D.int (mK (el (m8 l) x)),D.str [],D.bool (false=true),D.nil,D.int (IntKind.i64.wrap (((el (m8 l) x).fld
1).asInt.tmod 64))]]=mL (m8 l) y/\True))/\((mK (el (m8 l) x)=10->False)->0+1<= [D.sct [D.int (mK (el (m8 l) x)),D.str [],D.bool (false=true),D.nil,D.int 0]].length/\0+x<=(mL (m8 l) x).length/\x+1<=
16777216/\fits64 ((x:Int)+1)/\((∃(y:Nat),y=0/\(m8 l).len-y<(m8 l).len-x/\((x:Int)+1=0/\False/\mR (m8 l) x= []/\True)/\True)\/∃(y:Nat),(0<y/\y<=(m8 l).len)/\(m8 l).len-y<(m8
l).len-x/\((x:Int)+1=(y:Int)/\((0:Nat)=0/\x+1=y/\True)/\mR (m8 l) x=mR (m8 l) y/\True)/\List.take x (mL (m8 l) x)++List.take 1 [D.sct [D.int (mK (el (m8 l) x)),D.str [],D.bool (false=
true),D.nil,D.int 0]]=mL (m8 l) y/\True)))))))))/\∀(x_1:Unit),(zaf ((el (m8 l) x).fld 2).asInt 4=0->False)->(((el (m8 l) x).fld 4).asProp->((mK (el (m8 l) x)=1->False)->(mK (el (m8 l) x)=1->(0:
Int)<=0/\0<(↑(2:Nat):Int)/\0+0<([D.str (nm1 (el (m8 l) x))]++ [D.str (nm2 (el (m8 l) x))]).length/\0+2<=([D.str (nm1 (el (m8 l) x))]++ [D.str (nm2 (el (m8 l) x))]).length/\0+1<= [D.sct [D.int (mK
(el (m8 l) x)),D.str (mR (m8 l) x),D.bool (false=true),D.list (List.take 2 ([D.str (nm1 (el (m8 l) x))]++ [D.str (nm2 (el (m8 l) x))])),D.int 0]].length/\0+x<=(mL (m8 l) x).length/\x+1<=16777216/\fits64
((x:Int)+1)/\((∃(y:Nat),y=0/\(m8 l).len-y<(m8 l).len-x/\((x:Int)+1=0/\False/\(zas ([D.str (nm1 (el (m8 l) x))]++ [D.str (nm2 (el (m8 l) x))]) (0+0)).asStr= []/\True)/\True)\/∃(y:
Nat),(0<y/\y<=(m8 l).len)/\(m8 l).len-y<(m8 l).len-x/\((x:Int)+1=(y:Int)/\((0:Nat)=0/\x+1=y/\True)/\(zas ([D.str (nm1 (el (m8 l) x))]++ [D.str (nm2 (el (m8 l) x))]) (0+0)).asStr=mR
(m8 l) y/\True)/\List.take x (mL (m8 l) x)++List.take 1 [D.sct [D.int (mK (el (m8 l) x)),D.str (mR (m8 l) x),D.bool (false=true),D.list (List.take 2 ([D.str (nm1 (el (m8 l) x))]++ [D.str (nm2 (el (m8 l) x))])),
D.int 0]]=mL (m8 l) y/\True))/\((mK (el (m8 l) x)=1->False)->(mK (el (m8 l) x)=4->((2:Int)=0->False)/\fits64 (1+IntKind.i64.wrap (((el (m8 l) x).fld 1).asInt.tmod 2))/\0+1<= [D.sct [D.int (mK (el
(m8 l) x)),D.str (mR (m8 l) x),D.bool (cNm (el (m8 l) x)).asProp,D.nil,D.int (1+IntKind.i64.wrap (((el (m8 l) x).fld 1).asInt.tmod 2))]].length/\0+x<=(mL (m8 l) x).length/\x+1<=16777216/\fits64 ((x:Int)
+1)/\((∃(y:Nat),y=0/\(m8 l).len-y<(m8 l).len-x/\((x:Int)+1=0/\False/\mR (m8 l) x= []/\True)/\True)\/∃(y:Nat),(0<y/\y<=(m8 l).len)/\(m8 l).len-y<(m8 l).len-x/\((x:Int)+1=
(y:Int)/\((0:Nat)=0/\x+1=y/\True)/\mR (m8 l) x=mR (m8 l) y/\True)/\List.take x (mL (m8 l) x)++List.take 1 [D.sct [D.int (mK (el (m8 l) x)),D.str (mR (m8 l) x),D.bool (cNm (el (m8 l) x)).asProp,
D.nil,D.int (1+IntKind.i64.wrap (((el (m8 l) x).fld 1).asInt.tmod 2))]]=mL (m8 l) y/\True))/\((mK (el (m8 l) x)=4->False)->(mK (el (m8 l) x)=5->0+1<= [D.sct [D.int (mK (el (m8 l) x)),D.str (mR (m8 l) x),
D.bool (cNm (el (m8 l) x)).asProp,D.nil,D.int 0]].length/\0+x<=(mL (m8 l) x).length/\x+1<=16777216/\fits64 ((x:Int)+1)/\((∃(y:Nat),y=0/\(m8 l).len-y<(m8 l).len-x/\((x:Int)+1=0/\False
/\mR (m8 l) x= []/\True)/\True)\/∃(y:Nat),(0<y/\y<=(m8 l).len)/\(m8 l).len-y<(m8 l).len-x/\((x:Int)+1=(y:Int)/\((0:Nat)=0/\x+1=y/\True)/\mR (m8 l) x=mR (m8 l) y/\True)/\
List.take x (mL (m8 l) x)++List.take 1 [D.sct [D.int (mK (el (m8 l) x)),D.str (mR (m8 l) x),D.bool (cNm (el (m8 l) x)).asProp,D.nil,D.int 0]]=mL (m8 l) y/\True))/\((mK (el (m8 l) x)=5->False)->(mK (el (m8
l) x)=6->0+2<=([D.str (nm1 (el (m8 l) x))]++ [D.str (nm2 (el (m8 l) x))]).length/\0+1<= [D.sct [D.int (mK (el (m8 l) x)),D.str (mR (m8 l) x),D.bool (cNm (el (m8 l) x)).asProp,D.list (List.take 2 ([D.str (nm1
(el (m8 l) x))]++ [D.str (nm2 (el (m8 l) x))])),D.int 0]].length/\0+x<=(mL (m8 l) x).length/\x+1<=16777216/\fits64 ((x:Int)+1)/\((∃(y:Nat),y=0/\(m8 l).len-y<(m8 l).len-x/\((x:Int)+1=0
/\False/\mR (m8 l) x= []/\True)/\True)\/∃(y:Nat),(0<y/\y<=(m8 l).len)/\(m8 l).len-y<(m8 l).len-x/\((x:Int)+1=(y:Int)/\((0:Nat)=0/\x+1=y/\True)/\mR (m8 l) x=mR (m8 l) y/\True)/\
List.take x (mL (m8 l) x)++List.take 1 [D.sct [D.int (mK (el (m8 l) x)),D.str (mR (m8 l) x),D.bool (cNm (el (m8 l) x)).asProp,D.list (List.take 2 ([D.str (nm1 (el (m8 l) x))]++ [D.str (nm2 (el (m8 l) x))])),D.int
0]]=mL (m8 l) y/\True))/\((mK (el (m8 l) x)=6->False)->(mK (el (m8 l) x)=7->0+2<=([D.str (nm1 (el (m8 l) x))]++ [D.str (nm2 (el (m8 l) x))]).length/\0+1<= [D.sct [D.int (mK (el (m8 l) x)),D.str (mR (m8
l) x),D.bool (cNm (el (m8 l) x)).asProp,D.list (List.take 2 ([D.str (nm1 (el (m8 l) x))]++ [D.str (nm2 (el (m8 l) x))])),D.int 0]].length/\0+x<=(mL (m8 l) x).length/\x+1<=16777216/\fits64 ((x:Int)+1)/\
((∃(y:Nat),y=0/\(m8 l).len-y<(m8 l).len-x/\((x:Int)+1=0/\False/\mR (m8 l) x= []/\True)/\True)\/∃(y:Nat),(0<y/\y<=(m8 l).len)/\(m8 l).len-y<(m8 l).len-x/\((x:Int)+1=(y:
Int)/\((0:Nat)=0/\x+1=y/\True)/\mR (m8 l) x=mR (m8 l) y/\True)/\List.take x (mL (m8 l) x)++List.take 1 [D.sct [D.int (mK (el (m8 l) x)),D.str (mR (m8 l) x),D.bool (cNm (el (m8 l) x)).asProp,D.list
(List.take 2 ([D.str (nm1 (el (m8 l) x))]++ [D.str (nm2 (el (m8 l) x))])),D.int 0]]=mL (m8 l) y/\True))/\((mK (el (m8 l) x)=7->False)->(mK (el (m8 l) x)=10->((64:Int)=0->False)/\0+1<= [D.sct [D.int
(mK (el (m8 l) x)),D.str (mR (m8 l) x),D.bool (false=true),D.nil,D.int (IntKind.i64.wrap (((el (m8 l) x).fld 1).asInt.tmod 64))]].length/\0+x<=(mL (m8 l) x).length/\x+1<=16777216/\fits64 ((x:Int)+1)/\
((∃(y:Nat),y=0/\(m8 l).len-y<(m8 l).len-x/\((x:Int)+1=0/\False/\mR (m8 l) x= []/\True)/\True)\/∃(y:Nat),(0<y/\y<=(m8 l).len)/\(m8 l).len-y<(m8 l).len-x/\((x:Int)+1=(y:
Int)/\((0:Nat)=0/\x+1=y/\True)/\mR (m8 l) x=mR (m8 l) y/\True)/\List.take x (mL (m8 l) x)++List.take 1 [D.sct [D.int (mK (el (m8 l) x)),D.str (mR (m8 l) x),D.bool (false=true),D.nil,D.int
(IntKind.i64.wrap (((el (m8 l) x).fld 1).asInt.tmod 64))]]=mL (m8 l) y/\True))/\((mK (el (m8 l) x)=10->False)->0+1<= [D.sct [D.int (mK (el (m8 l) x)),D.str (mR (m8 l) x),D.bool (false=true),D.nil,D.int
0]].length/\0+x<=(mL (m8 l) x).length/\x+1<=16777216/\fits64 ((x:Int)+1)/\((∃(y:Nat),y=0/\(m8 l).len-y<(m8 l).len-x/\((x:Int)+1=0/\False/\mR (m8 l) x= []/\True)/\True)\/∃(y:
Nat),(0<y/\y<=(m8 l).len)/\(m8 l).len-y<(m8 l).len-x/\((x:Int)+1=(y:Int)/\((0:Nat)=0/\x+1=y/\True)/\mR (m8 l) x=mR (m8 l) y/\True)/\List.take x (mL (m8 l) x)++List.take 1 [D.sct
[D.int (mK (el (m8 l) x)),D.str (mR (m8 l) x),D.bool (false=true),D.nil,D.int 0]]=mL (m8 l) y/\True))))))))/\(((mK (el (m8 l) x)=1->False)->False)->(mK (el (m8 l) x)=1->(0:Int)<=0/\0<(↑(2:Nat):
Int)/\0+0<([D.str (nm1 (el (m8 l) x))]++ [D.str (nm2 (el (m8 l) x))]).length/\0+2<=([D.str (nm1 (el (m8 l) x))]++ [D.str (nm2 (el (m8 l) x))]).length/\0+1<= [D.sct [D.int (mK (el (m8 l) x)),D.str [],
D.bool (false=true),D.list (List.take 2 ([D.str (nm1 (el (m8 l) x))]++ [D.str (nm2 (el (m8 l) x))])),D.int 0]].length/\0+x<=(mL (m8 l) x).length/\x+1<=16777216/\fits64 ((x:Int)+1)/\((∃(y:Nat),y=0
/\(m8 l).len-y<(m8 l).len-x/\((x:Int)+1=0/\False/\(zas ([D.str (nm1 (el (m8 l) x))]++ [D.str (nm2 (el (m8 l) x))]) (0+0)).asStr= []/\True)/\True)\/∃(y:Nat),(0<y/\y<=(m8 l).len)/\(m8 l).len
-y<(m8 l).len-x/\((x:Int)+1=(y:Int)/\((0:Nat)=0/\x+1=y/\True)/\(zas ([D.str (nm1 (el (m8 l) x))]++ [D.str (nm2 (el (m8 l) x))]) (0+0)).asStr=mR (m8 l) y/\True)/\List.take x (mL (m8 l) x)
++List.take 1 [D.sct [D.int (mK (el (m8 l) x)),D.str [],D.bool (false=true),D.list (List.take 2 ([D.str (nm1 (el (m8 l) x))]++ [D.str (nm2 (el (m8 l) x))])),D.int 0]]=mL (m8 l) y/\True))/\((mK (el (m8 l) x)=
1->False)->(mK (el (m8 l) x)=4->((2:Int)=0->False)/\fits64 (1+IntKind.i64.wrap (((el (m8 l) x).fld 1).asInt.tmod 2))/\0+1<= [D.sct [D.int (mK (el (m8 l) x)),D.str [],D.bool (cNm (el (m8 l) x)).asProp,
D.nil,D.int (1+IntKind.i64.wrap (((el (m8 l) x).fld 1).asInt.tmod 2))]].length/\0+x<=(mL (m8 l) x).length/\x+1<=16777216/\fits64 ((x:Int)+1)/\((∃(y:Nat),y=0/\(m8 l).len-y<(m8 l).len-x/\((x
:Int)+1=0/\False/\mR (m8 l) x= []/\True)/\True)\/∃(y:Nat),(0<y/\y<=(m8 l).len)/\(m8 l).len-y<(m8 l).len-x/\((x:Int)+1=(y:Int)/\((0:Nat)=0/\x+1=y/\True)/\mR (m8 l) x=mR (m8
l) y/\True)/\List.take x (mL (m8 l) x)++List.take 1 [D.sct [D.int (mK (el (m8 l) x)),D.str [],D.bool (cNm (el (m8 l) x)).asProp,D.nil,D.int (1+IntKind.i64.wrap (((el (m8 l) x).fld 1).asInt.tmod 2))]]=mL (m8
l) y/\True))/\((mK (el (m8 l) x)=4->False)->(mK (el (m8 l) x)=5->0+1<= [D.sct [D.int (mK (el (m8 l) x)),D.str [],D.bool (cNm (el (m8 l) x)).asProp,D.nil,D.int 0]].length/\0+x<=(mL (m8 l) x).length/\x
+1<=16777216/\fits64 ((x:Int)+1)/\((∃(y:Nat),y=0/\(m8 l).len-y<(m8 l).len-x/\((x:Int)+1=0/\False/\mR (m8 l) x= []/\True)/\True)\/∃(y:Nat),(0<y/\y<=(m8 l).len)/\(m8 l).len-y<
(m8 l).len-x/\((x:Int)+1=(y:Int)/\((0:Nat)=0/\x+1=y/\True)/\mR (m8 l) x=mR (m8 l) y/\True)/\List.take x (mL (m8 l) x)++List.take 1 [D.sct [D.int (mK (el (m8 l) x)),D.str [],D.bool (cNm (el
(m8 l) x)).asProp,D.nil,D.int 0]]=mL (m8 l) y/\True))/\((mK (el (m8 l) x)=5->False)->(mK (el (m8 l) x)=6->0+2<=([D.str (nm1 (el (m8 l) x))]++ [D.str (nm2 (el (m8 l) x))]).length/\0+1<= [D.sct [D.int
(mK (el (m8 l) x)),D.str [],D.bool (cNm (el (m8 l) x)).asProp,D.list (List.take 2 ([D.str (nm1 (el (m8 l) x))]++ [D.str (nm2 (el (m8 l) x))])),D.int 0]].length/\0+x<=(mL (m8 l) x).length/\x+1<=16777216/\
fits64 ((x:Int)+1)/\((∃(y:Nat),y=0/\(m8 l).len-y<(m8 l).len-x/\((x:Int)+1=0/\False/\mR (m8 l) x= []/\True)/\True)\/∃(y:Nat),(0<y/\y<=(m8 l).len)/\(m8 l).len-y<(m8 l).len-x/\
((x:Int)+1=(y:Int)/\((0:Nat)=0/\x+1=y/\True)/\mR (m8 l) x=mR (m8 l) y/\True)/\List.take x (mL (m8 l) x)++List.take 1 [D.sct [D.int (mK (el (m8 l) x)),D.str [],D.bool (cNm (el (m8 l)
x)).asProp,D.list (List.take 2 ([D.str (nm1 (el (m8 l) x))]++ [D.str (nm2 (el (m8 l) x))])),D.int 0]]=mL (m8 l) y/\True))/\((mK (el (m8 l) x)=6->False)->(mK (el (m8 l) x)=7->0+2<=([D.str (nm1 (el (m8 l)
x))]++ [D.str (nm2 (el (m8 l) x))]).length/\0+1<= [D.sct [D.int (mK (el (m8 l) x)),D.str [],D.bool (cNm (el (m8 l) x)).asProp,D.list (List.take 2 ([D.str (nm1 (el (m8 l) x))]++ [D.str (nm2 (el (m8 l) x))])),
D.int 0]].length/\0+x<=(mL (m8 l) x).length/\x+1<=16777216/\fits64 ((x:Int)+1)/\((∃(y:Nat),y=0/\(m8 l).len-y<(m8 l).len-x/\((x:Int)+1=0/\False/\mR (m8 l) x= []/\True)/\True)\/∃(y
:Nat),(0<y/\y<=(m8 l).len)/\(m8 l).len-y<(m8 l).len-x/\((x:Int)+1=(y:Int)/\((0:Nat)=0/\x+1=y/\True)/\mR (m8 l) x=mR (m8 l) y/\True)/\List.take x (mL (m8 l) x)++List.take 1 [D.sct
[D.int (mK (el (m8 l) x)),D.str [],D.bool (cNm (el (m8 l) x)).asProp,D.list (List.take 2 ([D.str (nm1 (el (m8 l) x))]++ [D.str (nm2 (el (m8 l) x))])),D.int 0]]=mL (m8 l) y/\True))/\((mK (el (m8 l) x)=7->
False)->(mK (el (m8 l) x)=10->((64:Int)=0->False)/\0+1<= [D.sct [D.int (mK (el (m8 l) x)),D.str [],D.bool (false=true),D.nil,D.int (IntKind.i64.wrap (((el (m8 l) x).fld 1).asInt.tmod 64))]].length/\0+
x<=(mL (m8 l) x).length/\x+1<=16777216/\fits64 ((x:Int)+1)/\((∃(y:Nat),y=0/\(m8 l).len-y<(m8 l).len-x/\((x:Int)+1=0/\False/\mR (m8 l) x= []/\True)/\True)\/∃(y:Nat),(0<y/\y<=
(m8 l).len)/\(m8 l).len-y<(m8 l).len-x/\((x:Int)+1=(y:Int)/\((0:Nat)=0/\x+1=y/\True)/\mR (m8 l) x=mR (m8 l) y/\True)/\List.take x (mL (m8 l) x)++List.take 1 [D.sct [D.int (mK (el (m8 l)
x)),D.str [],D.bool (false=true),D.nil,D.int (IntKind.i64.wrap (((el (m8 l) x).fld 1).asInt.tmod 64))]]=mL (m8 l) y/\True))/\((mK (el (m8 l) x)=10->False)->0+1<= [D.sct [D.int (mK (el (m8 l) x)),D.str
[],D.bool (false=true),D.nil,D.int 0]].length/\0+x<=(mL (m8 l) x).length/\x+1<=16777216/\fits64 ((x:Int)+1)/\((∃(y:Nat),y=0/\(m8 l).len-y<(m8 l).len-x/\((x:Int)+1=0/\False/\mR (m8
l) x= []/\True)/\True)\/∃(y:Nat),(0<y/\y<=(m8 l).len)/\(m8 l).len-y<(m8 l).len-x/\((x:Int)+1=(y:Int)/\((0:Nat)=0/\x+1=y/\True)/\mR (m8 l) x=mR (m8 l) y/\True)/\List.take x (mL
(m8 l) x)++List.take 1 [D.sct [D.int (mK (el (m8 l) x)),D.str [],D.bool (false=true),D.nil,D.int 0]]=mL (m8 l) y/\True)))))))))/\((((el (m8 l) x).fld 4).asProp->False)->(mK (el (m8 l) x)=1->(0:Int)<=0
/\0<(↑(2:Nat):Int)/\0+0<([D.str (nm1 (el (m8 l) x))]++ [D.str (nm2 (el (m8 l) x))]).length/\0+2<=([D.str (nm1 (el (m8 l) x))]++ [D.str (nm2 (el (m8 l) x))]).length/\0+1<= [D.sct [D.int (mK (el (m8 l)
x)),D.str [],D.bool (false=true),D.list (List.take 2 ([D.str (nm1 (el (m8 l) x))]++ [D.str (nm2 (el (m8 l) x))])),D.int 0]].length/\0+x<=(mL (m8 l) x).length/\x+1<=16777216/\fits64 ((x:Int)+1)/\((∃
(y:Nat),y=0/\(m8 l).len-y<(m8 l).len-x/\((x:Int)+1=0/\False/\(zas ([D.str (nm1 (el (m8 l) x))]++ [D.str (nm2 (el (m8 l) x))]) (0+0)).asStr= []/\True)/\True)\/∃(y:Nat),(0<y/\y<=(m8
l).len)/\(m8 l).len-y<(m8 l).len-x/\((x:Int)+1=(y:Int)/\((0:Nat)=0/\x+1=y/\True)/\(zas ([D.str (nm1 (el (m8 l) x))]++ [D.str (nm2 (el (m8 l) x))]) (0+0)).asStr=mR (m8 l) y/\True)/\
List.take x (mL (m8 l) x)++List.take 1 [D.sct [D.int (mK (el (m8 l) x)),D.str [],D.bool (false=true),D.list (List.take 2 ([D.str (nm1 (el (m8 l) x))]++ [D.str (nm2 (el (m8 l) x))])),D.int 0]]=mL (m8 l) y/\
True))/\((mK (el (m8 l) x)=1->False)->(mK (el (m8 l) x)=4->((2:Int)=0->False)/\fits64 (1+IntKind.i64.wrap (((el (m8 l) x).fld 1).asInt.tmod 2))/\0+1<= [D.sct [D.int (mK (el (m8 l) x)),D.str [],D.bool
(cNm (el (m8 l) x)).asProp,D.nil,D.int (1+IntKind.i64.wrap (((el (m8 l) x).fld 1).asInt.tmod 2))]].length/\0+x<=(mL (m8 l) x).length/\x+1<=16777216/\fits64 ((x:Int)+1)/\((∃(y:Nat),y=0/\(m8 l).len
-y<(m8 l).len-x/\((x:Int)+1=0/\False/\mR (m8 l) x= []/\True)/\True)\/∃(y:Nat),(0<y/\y<=(m8 l).len)/\(m8 l).len-y<(m8 l).len-x/\((x:Int)+1=(y:Int)/\((0:Nat)=0/\x+1=y/\
True)/\mR (m8 l) x=mR (m8 l) y/\True)/\List.take x (mL (m8 l) x)++List.take 1 [D.sct [D.int (mK (el (m8 l) x)),D.str [],D.bool (cNm (el (m8 l) x)).asProp,D.nil,D.int (1+IntKind.i64.wrap (((el (m8 l) x).fld
1).asInt.tmod 2))]]=mL (m8 l) y/\True))/\((mK (el (m8 l) x)=4->False)->(mK (el (m8 l) x)=5->0+1<= [D.sct [D.int (mK (el (m8 l) x)),D.str [],D.bool (cNm (el (m8 l) x)).asProp,D.nil,D.int 0]].length/\0+
x<=(mL (m8 l) x).length/\x+1<=16777216/\fits64 ((x:Int)+1)/\((∃(y:Nat),y=0/\(m8 l).len-y<(m8 l).len-x/\((x:Int)+1=0/\False/\mR (m8 l) x= []/\True)/\True)\/∃(y:Nat),(0<y/\y<=
(m8 l).len)/\(m8 l).len-y<(m8 l).len-x/\((x:Int)+1=(y:Int)/\((0:Nat)=0/\x+1=y/\True)/\mR (m8 l) x=mR (m8 l) y/\True)/\List.take x (mL (m8 l) x)++List.take 1 [D.sct [D.int (mK (el (m8 l)
x)),D.str [],D.bool (cNm (el (m8 l) x)).asProp,D.nil,D.int 0]]=mL (m8 l) y/\True))/\((mK (el (m8 l) x)=5->False)->(mK (el (m8 l) x)=6->0+2<=([D.str (nm1 (el (m8 l) x))]++ [D.str (nm2 (el (m8 l)
x))]).length/\0+1<= [D.sct [D.int (mK (el (m8 l) x)),D.str [],D.bool (cNm (el (m8 l) x)).asProp,D.list (List.take 2 ([D.str (nm1 (el (m8 l) x))]++ [D.str (nm2 (el (m8 l) x))])),D.int 0]].length/\0+x<=(mL (m8
l) x).length/\x+1<=16777216/\fits64 ((x:Int)+1)/\((∃(y:Nat),y=0/\(m8 l).len-y<(m8 l).len-x/\((x:Int)+1=0/\False/\mR (m8 l) x= []/\True)/\True)\/∃(y:Nat),(0<y/\y<=(m8 l).len)/\
(m8 l).len-y<(m8 l).len-x/\((x:Int)+1=(y:Int)/\((0:Nat)=0/\x+1=y/\True)/\mR (m8 l) x=mR (m8 l) y/\True)/\List.take x (mL (m8 l) x)++List.take 1 [D.sct [D.int (mK (el (m8 l) x)),D.str [],
D.bool (cNm (el (m8 l) x)).asProp,D.list (List.take 2 ([D.str (nm1 (el (m8 l) x))]++ [D.str (nm2 (el (m8 l) x))])),D.int 0]]=mL (m8 l) y/\True))/\((mK (el (m8 l) x)=6->False)->(mK (el (m8 l) x)=7->0+2<=
([D.str (nm1 (el (m8 l) x))]++ [D.str (nm2 (el (m8 l) x))]).length/\0+1<= [D.sct [D.int (mK (el (m8 l) x)),D.str [],D.bool (cNm (el (m8 l) x)).asProp,D.list (List.take 2 ([D.str (nm1 (el (m8 l) x))]++ [D.str (nm2
(el (m8 l) x))])),D.int 0]].length/\0+x<=(mL (m8 l) x).length/\x+1<=16777216/\fits64 ((x:Int)+1)/\((∃(y:Nat),y=0/\(m8 l).len-y<(m8 l).len-x/\((x:Int)+1=0/\False/\mR (m8 l) x= []/\
True)/\True)\/∃(y:Nat),(0<y/\y<=(m8 l).len)/\(m8 l).len-y<(m8 l).len-x/\((x:Int)+1=(y:Int)/\((0:Nat)=0/\x+1=y/\True)/\mR (m8 l) x=mR (m8 l) y/\True)/\List.take x (mL (m8 l) x)++
List.take 1 [D.sct [D.int (mK (el (m8 l) x)),D.str [],D.bool (cNm (el (m8 l) x)).asProp,D.list (List.take 2 ([D.str (nm1 (el (m8 l) x))]++ [D.str (nm2 (el (m8 l) x))])),D.int 0]]=mL (m8 l) y/\True))/\((mK (el
(m8 l) x)=7->False)->(mK (el (m8 l) x)=10->((64:Int)=0->False)/\0+1<= [D.sct [D.int (mK (el (m8 l) x)),D.str [],D.bool (false=true),D.nil,D.int (IntKind.i64.wrap (((el (m8 l) x).fld 1).asInt.tmod
64))]].length/\0+x<=(mL (m8 l) x).length/\x+1<=16777216/\fits64 ((x:Int)+1)/\((∃(y:Nat),y=0/\(m8 l).len-y<(m8 l).len-x/\((x:Int)+1=0/\False/\mR (m8 l) x= []/\True)/\True)\/∃(y:
Nat),(0<y/\y<=(m8 l).len)/\(m8 l).len-y<(m8 l).len-x/\((x:Int)+1=(y:Int)/\((0:Nat)=0/\x+1=y/\True)/\mR (m8 l) x=mR (m8 l) y/\True)/\List.take x (mL (m8 l) x)++List.take 1 [D.sct
[D.int (mK (el (m8 l) x)),D.str [],D.bool (false=true),D.nil,D.int (IntKind.i64.wrap (((el (m8 l) x).fld 1).asInt.tmod 64))]]=mL (m8 l) y/\True))/\((mK (el (m8 l) x)=10->False)->0+1<= [D.sct [D.int (mK
(el (m8 l) x)),D.str [],D.bool (false=true),D.nil,D.int 0]].length/\0+x<=(mL (m8 l) x).length/\x+1<=16777216/\fits64 ((x:Int)+1)/\((∃(y:Nat),y=0/\(m8 l).len-y<(m8 l).len-x/\((x:Int)+
1=0/\False/\mR (m8 l) x= []/\True)/\True)\/∃(y:Nat),(0<y/\y<=(m8 l).len)/\(m8 l).len-y<(m8 l).len-x/\((x:Int)+1=(y:Int)/\((0:Nat)=0/\x+1=y/\True)/\mR (m8 l) x=mR (m8 l) y/\
True)/\List.take x (mL (m8 l) x)++List.take 1 [D.sct [D.int (mK (el (m8 l) x)),D.str [],D.bool (false=true),D.nil,D.int 0]]=mL (m8 l) y/\True)))))))))/\(((x:Int)<(↑(m8 l).len:Int)->False)->0+x<=
(mL (m8 l) x).length/\D.list (List.take x (mL (m8 l) x))=mD l)):=by intros;kernel_rfl
theorem zk5 (l:D) (k:Nat):(min (l.len:Int) (k:Int)).toNat<=l.len/\(min (l.len:Int) (k:Int)).toNat<=k:=by omega
theorem zk3 (l:D):(m8 l).len<=l.len/\(m8 l).len<=8:=by
 have h:=zk5 l 8
 have e:(m8 l).len=(min (l.len:Int) ((8:Nat):Int)).toNat:=za7 l _ h.1
 rw [e];exact h
theorem ztx {l:D} {x:Nat} (hx:x<(m8 l).len):el (m8 l) x=el l x:=by
 have h:=zk5 l 8
 have e:(m8 l).len=(min (l.len:Int) ((8:Nat):Int)).toNat:=za7 l _ h.1
 exact zcR l _ x (by omega)
theorem zg8 (l:D) (n:Nat):(mL l n).length=n:=by unfold mL;rw [List.length_map,List.length_range]
theorem zsp (l:D) (x:Nat):mL l (x+1)=mL l x++ [mC (el l x) (mR l x)]:=by unfold mL;rw [List.range_succ,List.map_append];rfl
theorem zra {l:D} {x:Nat} {e:D} (h:e=mC (el l x) (mR l x)):List.take x (mL l x)++List.take 1 [e]=mL l (x+1):=by
 subst h;rw [zsp,List.take_of_length_le (by rw [zg8];exact Nat.le_refl _)];rfl
theorem zuP {l:D} {x:Nat} (h:mK (el l x)=1):nm1 (el l x)=mR l (x+1):=by show _=if _ then _ else _;rw [if_pos h]
theorem zqn {l:D} {x:Nat} (h:mK (el l x)=1->False):mR l x=mR l (x+1):=by show _=if _ then _ else _;rw [if_neg h]
theorem zkB {d:D} {r:List UInt8} (h:(d.fld 4).asProp) (h1:mK d=1->False):r=mAm d r:=by unfold mAm;rw [if_pos ⟨h,h1⟩]
theorem zek {d:D} {r:List UInt8} (h:(d.fld 4).asProp->False): []=mAm d r:=by unfold mAm;rw [if_neg λk=>h k.1]
theorem zd2 {d:D} {r:List UInt8} (h:(mK d=1->False)->False): []=mAm d r:=by unfold mAm;rw [if_neg λk=>h k.2]
theorem zs3 {d:D} (h:zaf (d.fld 2).asInt 4=0):List.take 1 [D.str (nm1 d)]=mNm d:=by unfold mNm;rw [if_pos h];rfl
theorem zs4 {d:D} (h:zaf (d.fld 2).asInt 4=0->False):List.take 2 ([D.str (nm1 d)]++ [D.str (nm2 d)])=mNm d:=by unfold mNm;rw [if_neg h];rfl
theorem mC1 {d:D} {r a:List UInt8} {n:List D} (h:mK d=1) (ha:a=mAm d r) (hn:n=mNm d):D.sct [.int (mK d),.str a,.bool (false=true),.list n,.int 0]=mC d r:=by unfold mC;rw [if_pos h,ha,hn]
theorem mC4 {d:D} {r a:List UInt8} (h:mK d=4) (ha:a=mAm d r):D.sct [.int (mK d),.str a,.bool (d.fld 3).asProp,.nil,.int (1+IntKind.i64.wrap (((d.fld 1).asInt).tmod 2))]=mC d r:=by unfold mC;rw [if_neg (by omega),if_pos h,ha]
theorem mC5 {d:D} {r a:List UInt8} (h:mK d=5) (ha:a=mAm d r):D.sct [.int (mK d),.str a,.bool (d.fld 3).asProp,.nil,.int 0]=mC d r:=by unfold mC;rw [if_neg (by omega),if_neg (by omega),if_pos h,ha]
theorem mC6 {d:D} {r a:List UInt8} {n:List D} (h:mK d=6) (ha:a=mAm d r) (hn:n=mNm d):D.sct [.int (mK d),.str a,.bool (d.fld 3).asProp,.list n,.int 0]=mC d r:=by unfold mC;rw [if_neg (by omega),if_neg (by omega),if_neg (by omega),if_pos (.inl h),ha,hn]
theorem mC7 {d:D} {r a:List UInt8} {n:List D} (h:mK d=7) (ha:a=mAm d r) (hn:n=mNm d):D.sct [.int (mK d),.str a,.bool (d.fld 3).asProp,.list n,.int 0]=mC d r:=by unfold mC;rw [if_neg (by omega),if_neg (by omega),if_neg (by omega),if_pos (.inr h),ha,hn]
theorem zuN {d:D} {r a:List UInt8} (h:mK d=10) (ha:a=mAm d r):D.sct [.int (mK d),.str a,.bool (false=true),.nil,.int (IntKind.i64.wrap (((d.fld 1).asInt).tmod 64))]=mC d r:=by unfold mC;rw [if_neg (by omega),if_neg (by omega),if_neg (by omega),if_neg (by omega),if_pos h,ha]
theorem mC0 {d:D} {r a:List UInt8} (h1:mK d=1->False) (h4:mK d=4->False) (h5:mK d=5->False) (h6:mK d=6->False) (h7:mK d=7->False) (h10:mK d=10->False) (ha:a=mAm d r):
  D.sct [.int (mK d),.str a,.bool (false=true),.nil,.int 0]=mC d r:=by unfold mC;rw [if_neg h1,if_neg h4,if_neg h5,if_neg (λk=>k.elim h6 h7),if_neg h10,ha]
theorem zsr {l:D} {x:Nat} {e:D} {r:List UInt8} (hx:(x:Int)<l.len) (he:e=mC (el l x) (mR l x)) (hr:r=mR l (x+1)):
  (∃y:Nat,y=0/\l.len-y<l.len-x/\((x:Int)+1=0/\False/\r= []/\True)/\True)\/
  ∃y:Nat,(0<y/\y<=l.len)/\l.len-y<l.len-x/\((x:Int)+1=(y:Int)/\((0:Nat)=0/\x+1=y/\True)/\r=mR l y/\True)/\List.take x (mL l x)++List.take 1 [e]=mL l y/\True:=
 .inr ⟨x+1,⟨by omega,by omega⟩,by omega,⟨by omega,⟨rfl,rfl,trivial⟩,hr,trivial⟩,zra he,trivial⟩
theorem zjR {l:D} {e:D} {r:List UInt8} (hx:(0:Int)<l.len) (he:e=mC (el l 0) []) (hr:r=mR l 1):
  (∃y:Nat,y=0/\l.len-y<l.len-0/\((0:Int)+1=0/\False/\r= []/\True)/\True)\/
  ∃y:Nat,(0<y/\y<=l.len)/\l.len-y<l.len-0/\((0:Int)+1=(y:Int)/\((0:Nat)=0/\1=y/\True)/\r=mR l y/\True)/\List.take 1 [e]=mL l y/\True:=
 .inr ⟨1,⟨by omega,by omega⟩,by omega,⟨rfl,⟨rfl,rfl,trivial⟩,hr,trivial⟩,zra (x:=0) he,trivial⟩
theorem zl7 {l:D} (h:mK (el l 0)=1->False): []=mR l 1:=zqn h
theorem zrd {c:Int} (h:0<=c):0<=c.tmod 4/\c.tmod 4<=3:=by rw [Int.tmod_eq_emod_of_nonneg h];omega
theorem zuc (n:Int):0<=IntKind.u8.wrap n/\IntKind.u8.wrap n<256:=by
 show 0<=n.emod 256/\n.emod 256<256
 exact ⟨Int.emod_nonneg _ (by decide),Int.emod_lt_of_pos _ (by decide)⟩
theorem zjP {l:List D} (h:0<l.length):D.list l=zdV l:=by
 cases l with
 |nil=>cases h
 |cons a l=>rfl
theorem s29 (l:D) (hu:zph l):zae (zlU (λ_=>none) zhS) 3 29 [.dat 40 l] (.dat 22 (mD l)):=by
 rw [zxi]
 have hl:=zk3 l
 have hp:∀x,x<(m8 l).len->u8C (el (m8 l) x):=λx h=>by rw [ztx h];exact hu.out x (by omega)
 refine ⟨Int.le_refl _,by omega,by omega,Or.inl ⟨0,rfl,⟨rfl,trivial,rfl,trivial⟩,trivial⟩,λx hx=>⟨zgj (by omega),λh=> ?_,λh=> ?_⟩,λx hx=>⟨zgj (by omega),λh=> ?_,λh=>⟨by rw [zg8];omega, ?_⟩⟩⟩
 .subst hx
  have hq:=(hp 0 (by omega)).out
  have e1:=zrd hq.2.2.1
  have e2:=zrd (zuc (((el (m8 l) 0).fld 2).asInt+1)).1
  have w2:=zkt hq.2.1 2 (by omega)
  have w64:=zkt hq.2.1 64 (by omega)
  clear hp hl hu
  repeat' (first|apply And.intro|intro _|refine Or.inl (Exists.intro () (And.intro (Classical.byContradiction ‹(zaf _ 4=0->False)->False›) ?_))|refine Or.inr (Exists.intro () (And.intro ‹zaf _ 4=0->False› ?_))|fail)
  all_goals first
   |with_reducible rfl
   |exact True.intro
   |omega
   |exact Nat.le_refl _
   |exact zsk ‹_›
   |exact zoc ‹_›
   |exact zjR h (mC1 ‹_› (by first|exact zkB ‹_› ‹_›|exact zek ‹_›|exact zd2 ‹_›) (by first|exact zs3 ‹_›|exact zs4 ‹_›)) (zuP (x:=0) ‹_›)
   |exact zjR h (mC4 ‹_› (by first|exact zkB ‹_› ‹_›|exact zek ‹_›|exact zd2 ‹_›)) (zl7 ‹_›)
   |exact zjR h (mC5 ‹_› (by first|exact zkB ‹_› ‹_›|exact zek ‹_›|exact zd2 ‹_›)) (zl7 ‹_›)
   |exact zjR h (mC6 ‹_› (by first|exact zkB ‹_› ‹_›|exact zek ‹_›|exact zd2 ‹_›) (by first|exact zs3 ‹_›|exact zs4 ‹_›)) (zl7 ‹_›)
   |exact zjR h (mC7 ‹_› (by first|exact zkB ‹_› ‹_›|exact zek ‹_›|exact zd2 ‹_›) (by first|exact zs3 ‹_›|exact zs4 ‹_›)) (zl7 ‹_›)
   |exact zjR h (zuN ‹_› (by first|exact zkB ‹_› ‹_›|exact zek ‹_›|exact zd2 ‹_›)) (zl7 ‹_›)
   |exact zjR h (mC0 ‹_› ‹_› ‹_› ‹_› ‹_› ‹_› (by first|exact zkB ‹_› ‹_›|exact zek ‹_›|exact zd2 ‹_›)) (zl7 ‹_›)
   |rfl
   |exact Nat.zero_lt_succ _
 .have e:(m8 l).len=0:=by have h:¬(0:Int)<((m8 l).len:Int):=h;omega
  show D.nil=zdV (mL (m8 l) (m8 l).len)
  rw [e];rfl
 .have hq:=(hp x (by omega)).out
  have e1:=zrd hq.2.2.1
  have e2:=zrd (zuc (((el (m8 l) x).fld 2).asInt+1)).1
  have w2:=zkt hq.2.1 2 (by omega)
  have w64:=zkt hq.2.1 64 (by omega)
  have hll:0+x<=(mL (m8 l) x).length:=by rw [zg8];omega
  clear hp hu
  repeat' (first|apply And.intro|intro _|refine Or.inl (Exists.intro () (And.intro (Classical.byContradiction ‹(zaf _ 4=0->False)->False›) ?_))|refine Or.inr (Exists.intro () (And.intro ‹zaf _ 4=0->False› ?_))|fail)
  all_goals first
   |with_reducible rfl
   |exact True.intro
   |omega
   |exact hll
   |exact Nat.le_refl _
   |exact zsk ‹_›
   |exact zoc ‹_›
   |exact zsr h (mC1 ‹_› (by first|exact zkB ‹_› ‹_›|exact zek ‹_›|exact zd2 ‹_›) (by first|exact zs3 ‹_›|exact zs4 ‹_›)) (zuP ‹_›)
   |exact zsr h (mC4 ‹_› (by first|exact zkB ‹_› ‹_›|exact zek ‹_›|exact zd2 ‹_›)) (zqn ‹_›)
   |exact zsr h (mC5 ‹_› (by first|exact zkB ‹_› ‹_›|exact zek ‹_›|exact zd2 ‹_›)) (zqn ‹_›)
   |exact zsr h (mC6 ‹_› (by first|exact zkB ‹_› ‹_›|exact zek ‹_›|exact zd2 ‹_›) (by first|exact zs3 ‹_›|exact zs4 ‹_›)) (zqn ‹_›)
   |exact zsr h (mC7 ‹_› (by first|exact zkB ‹_› ‹_›|exact zek ‹_›|exact zd2 ‹_›) (by first|exact zs3 ‹_›|exact zs4 ‹_›)) (zqn ‹_›)
   |exact zsr h (zuN ‹_› (by first|exact zkB ‹_› ‹_›|exact zek ‹_›|exact zd2 ‹_›)) (zqn ‹_›)
   |exact zsr h (mC0 ‹_› ‹_› ‹_› ‹_› ‹_› ‹_› (by first|exact zkB ‹_› ‹_›|exact zek ‹_›|exact zd2 ‹_›)) (zqn ‹_›)
   |rfl
   |exact Nat.zero_lt_succ _
 .have e:=zgK hx.2 h
  subst e
  rw [List.take_of_length_le (by rw [zg8];exact Nat.le_refl _)]
  exact zjP (by rw [zg8];exact hx.1)
end Go.Ev
