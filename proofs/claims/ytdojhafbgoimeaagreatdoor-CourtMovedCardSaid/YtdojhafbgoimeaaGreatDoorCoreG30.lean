/- Part of the proof. -/
import Derived.Test.YtdojhafbgoimeaaGreatDoorCoreG28
import Derived.Test.YtdojhafbgoimeaaGreatDoorCoreG29
import Derived.Test.YtdojhafbgoimeaaGreatDoorRows
import Derived.Test.YtdojhafbgoimeaaGreatDoorCoreKit
import Derived.Test.YtdojhafbgoimeaaGreatDoorProg
import Derived.Test.YtdojhafbgoimeaaGreatDoorCoreG0
import Derived.OpenShut
import Derived.LaidSub
import Derived.MakeChecks

section
open Go.Proofs
namespace Go.Ev
noncomputable section
set_option maxRecDepth 100000
set_option maxHeartbeats 4000000
def zfI (l:D) (x:Nat) (e:D) (r:List UInt8):Prop:=
 (0:Nat)+(1:Nat)<= [e].length/\(0:Nat)+x<=(mL l x).length/\x+(1:Nat)<=(16777216:Nat)/\((-9223372036854775808:Int)<=(↑x:Int)+(1:Int)/\(↑x:Int)+(1:Int)<(9223372036854775808:Int))/\((∃(y:Nat),y=(0:Nat)/\l.len-y<l.len-x/\((↑x:Int)+(1:Int)=(0:Int)/\False/\r= []/\True)/\True)\/∃(y:Nat),((0:Nat)<y/\y<=l.len)/\l.len-y<l.len-x/\((↑x:Int)+(1:Int)=(↑y:Int)/\((0:Nat)=(0:Nat)/\x+(1:Nat)=y/\True)/\r=mR l y/\True)/\List.take x (mL l x)++List.take (1:Nat) [e]=mL l y/\True)
def zuZ (l:D) (x:Nat) (e:D) (r:List UInt8):Prop:=
 (0:Nat)+(1:Nat)<= [e].length/\(1:Nat)<=(16777216:Nat)/\((-9223372036854775808:Int)<=(0:Int)+(1:Int)/\(0:Int)+(1:Int)<(9223372036854775808:Int))/\((∃(y:Nat),y=(0:Nat)/\l.len-y<l.len-x/\((0:Int)+(1:Int)=(0:Int)/\False/\r= []/\True)/\True)\/∃(y:Nat),((0:Nat)<y/\y<=l.len)/\l.len-y<l.len-x/\((0:Int)+(1:Int)=(↑y:Int)/\((0:Nat)=(0:Nat)/\(1:Nat)=y/\True)/\r=mR l y/\True)/\List.take (1:Nat) [e]=mL l y/\True)
def zrh (l:D) (x:Nat):Prop:=
 mK (el (m8 l) (0:Nat))=(1:Int)->(0:Int)<=(0:Int)/\(0:Int)<(↑(2:Nat):Int)/\(0:Nat)+(0:Nat)<([D.str (nm1 (el (m8 l) (0:Nat)))]++ [D.str (nm2 (el (m8 l) (0:
 Nat)))]).length/\(0:Nat)+(2:Nat)<=([D.str (nm1 (el (m8 l) (0:Nat)))]++ [D.str (nm2 (el (m8 l) (0:Nat)))]).length/\zuZ (m8 l) x (D.sct [D.int (mK (el (m8 l) (0:Nat))),D.str [],
 D.bool (false=true),D.list (List.take (2:Nat) ([D.str (nm1 (el (m8 l) (0:Nat)))]++ [D.str (nm2 (el (m8 l) (0:Nat)))])),D.int (0:Int)]) ((zad ([D.str (nm1 (el (m8 l) (0:Nat)))]++
 [D.str (nm2 (el (m8 l) (0:Nat)))]) ((0:Nat)+(0:Nat))).asStr)
def zkg (l:D) (x:Nat):Prop:=
 ∃(y:Nat),y=(0:Nat)/\(m8 l).len-y<(m8 l).len-x/\((0:Int)+(1:Int)=(0:Int)/\False/\([]:List UInt8)= []/\True)/\True
def ztA (l:D) (x:Nat):Prop:=
 (mK (el (m8 l) (0:Nat))=(7:Int)->False)->(mK (el (m8 l) (0:Nat))=(10:Int)->((64:Int)=(0:Int)->False)/\(0:Nat)+(1:Nat)<= [D.sct [D.int (mK (el (m8 l) (0:Nat))),D.str [],
 D.bool (false=true),D.nil,D.int (IntKind.i64.wrap (((el (m8 l) (0:Nat)).fld (1:Nat)).asInt.tmod (64:Int)))]].length/\(1:Nat)<=(16777216:Nat)/\((-9223372036854775808:Int)<=(0:Int)
 +(1:Int)/\(0:Int)+(1:Int)<(9223372036854775808:Int))/\((zkg l x)\/∃(y:Nat),((0:Nat)<y/\y<=(m8 l).len)/\(m8 l).len-y<(m8 l).len-x/\((0:Int)+(1:Int)=(↑y:
 Int)/\((0:Nat)=(0:Nat)/\(1:Nat)=y/\True)/\ []=mR (m8 l) y/\True)/\List.take (1:Nat) [D.sct [D.int (mK (el (m8 l) (0:Nat))),D.str [],D.bool (false=true),D.nil,D.int
 (IntKind.i64.wrap (((el (m8 l) (0:Nat)).fld (1:Nat)).asInt.tmod (64:Int)))]]=mL (m8 l) y/\True))/\((mK (el (m8 l) (0:Nat))=(10:Int)->False)->(0:Nat)+(1:Nat)<= [D.sct [D.int (mK
 (el (m8 l) (0:Nat))),D.str [],D.bool (false=true),D.nil,D.int (0:Int)]].length/\(1:Nat)<=(16777216:Nat)/\((-9223372036854775808:Int)<=(0:Int)+(1:Int)/\(0:Int)+(1:Int)
 <(9223372036854775808:Int))/\((zkg l x)\/∃(y:Nat),((0:Nat)<y/\y<=(m8 l).len)/\(m8 l).len-y<(m8 l).len-x/\((0:Int)+(1:Int)=(↑y:Int)/\((0:Nat)=(0:Nat)/\(1:
 Nat)=y/\True)/\ []=mR (m8 l) y/\True)/\List.take (1:Nat) [D.sct [D.int (mK (el (m8 l) (0:Nat))),D.str [],D.bool (false=true),D.nil,D.int (0:Int)]]=mL (m8 l) y/\True))
def ztB (l:D) (x:Nat):Prop:=
 mK (el (m8 l) (0:Nat))=(4:Int)->((2:Int)=(0:Int)->False)/\((-9223372036854775808:Int)<=(1:Int)+IntKind.i64.wrap (((el (m8 l) (0:Nat)).fld (1:Nat)).asInt.tmod (2:Int))/\(1
 :Int)+IntKind.i64.wrap (((el (m8 l) (0:Nat)).fld (1:Nat)).asInt.tmod (2:Int))<(9223372036854775808:Int))/\(0:Nat)+(1:Nat)<= [D.sct [D.int (mK (el (m8 l) (0:Nat))),D.str [],
 D.bool (cNm (el (m8 l) (0:Nat))).asProp,D.nil,D.int ((1:Int)+IntKind.i64.wrap (((el (m8 l) (0:Nat)).fld (1:Nat)).asInt.tmod (2:Int)))]].length/\(1:Nat)<=(16777216:Nat)/\
 ((-9223372036854775808:Int)<=(0:Int)+(1:Int)/\(0:Int)+(1:Int)<(9223372036854775808:Int))/\((zkg l x)\/∃(y:Nat),((0:Nat)<y/\y<=(m8 l).len)/\(m8 l).len-y<(m8
 l).len-x/\((0:Int)+(1:Int)=(↑y:Int)/\((0:Nat)=(0:Nat)/\(1:Nat)=y/\True)/\ []=mR (m8 l) y/\True)/\List.take (1:Nat) [D.sct [D.int (mK (el (m8 l) (0:Nat))),D.str [],
 D.bool (cNm (el (m8 l) (0:Nat))).asProp,D.nil,D.int ((1:Int)+IntKind.i64.wrap (((el (m8 l) (0:Nat)).fld (1:Nat)).asInt.tmod (2:Int)))]]=mL (m8 l) y/\True)
def zri (l:D) (x:Nat):Prop:=
 mK (el (m8 l) (0:Nat))=(1:Int)->(0:Int)<=(0:Int)/\(0:Int)<(↑(1:Nat):Int)/\(0:Nat)+(0:Nat)< [D.str (nm1 (el (m8 l) (0:Nat)))].length/\(0:Nat)+(1:Nat)<= [D.str (nm1
 (el (m8 l) (0:Nat)))].length/\zuZ (m8 l) x (D.sct [D.int (mK (el (m8 l) (0:Nat))),D.str [],D.bool (false=true),D.list (List.take (1:Nat) [D.str (nm1 (el (m8 l) (0:Nat)))]),D.int (0:
 Int)]) ((zad [D.str (nm1 (el (m8 l) (0:Nat)))] ((0:Nat)+(0:Nat))).asStr)
def zot (l:D) (x:Nat):Prop:=
 mK (el (m8 l) (0:Nat))=(5:Int)->(0:Nat)+(1:Nat)<= [D.sct [D.int (mK (el (m8 l) (0:Nat))),D.str [],D.bool (cNm (el (m8 l) (0:Nat))).asProp,D.nil,D.int (0:Int)]].length/\(1:
 Nat)<=(16777216:Nat)/\((-9223372036854775808:Int)<=(0:Int)+(1:Int)/\(0:Int)+(1:Int)<(9223372036854775808:Int))/\((zkg l x)\/∃(y:Nat),((0:Nat)<y/\y<=(m8 l).len)/\
 (m8 l).len-y<(m8 l).len-x/\((0:Int)+(1:Int)=(↑y:Int)/\((0:Nat)=(0:Nat)/\(1:Nat)=y/\True)/\ []=mR (m8 l) y/\True)/\List.take (1:Nat) [D.sct [D.int (mK (el (m8 l) (0
 :Nat))),D.str [],D.bool (cNm (el (m8 l) (0:Nat))).asProp,D.nil,D.int (0:Int)]]=mL (m8 l) y/\True)
def zjf (l:D) (x:Nat):Prop:=
 (-9223372036854775808:Int)<=(1:Int)+IntKind.i64.wrap (((el (m8 l) x).fld (1:Nat)).asInt.tmod (2:Int))/\(1:Int)+IntKind.i64.wrap (((el (m8 l) x).fld (1:Nat)).asInt.tmod (2:Int))<
 (9223372036854775808:Int)
def zou (l:D) (x:Nat):Prop:=
 mK (el (m8 l) x)=(1:Int)->(0:Int)<=(0:Int)/\(0:Int)<(↑(2:Nat):Int)/\(0:Nat)+(0:Nat)<([D.str (nm1 (el (m8 l) x))]++ [D.str (nm2 (el (m8 l) x))]).length/\(0:Nat)+(2:
 Nat)<=([D.str (nm1 (el (m8 l) x))]++ [D.str (nm2 (el (m8 l) x))]).length/\zfI (m8 l) x (D.sct [D.int (mK (el (m8 l) x)),D.str [],D.bool (false=true),D.list (List.take (2:Nat) ([D.str (nm1
 (el (m8 l) x))]++ [D.str (nm2 (el (m8 l) x))])),D.int (0:Int)]) ((zad ([D.str (nm1 (el (m8 l) x))]++ [D.str (nm2 (el (m8 l) x))]) ((0:Nat)+(0:Nat))).asStr)
def zov (l:D) (x:Nat):Prop:=
 (mK (el (m8 l) x)=(7:Int)->False)->(mK (el (m8 l) x)=(10:Int)->((64:Int)=(0:Int)->False)/\zfI (m8 l) x (D.sct [D.int (mK (el (m8 l) x)),D.str (mR (m8 l) x),D.bool (false=true),
 D.nil,D.int (IntKind.i64.wrap (((el (m8 l) x).fld (1:Nat)).asInt.tmod (64:Int)))]) (mR (m8 l) x))/\((mK (el (m8 l) x)=(10:Int)->False)->zfI (m8 l) x (D.sct [D.int (mK (el (m8 l) x)),
 D.str (mR (m8 l) x),D.bool (false=true),D.nil,D.int (0:Int)]) (mR (m8 l) x))
def zow (l:D) (x:Nat):Prop:=
 (zkg l x)\/∃(y:Nat),((0:Nat)<y/\y<=(m8 l).len)/\(m8 l).len-y<(m8 l).len-x/\((0:Int)+(1:Int)=(↑y:Int)/\((0:Nat)=(0:Nat)/\(1:Nat)=y/\True)/\ []=mR (m8 l) y
 /\True)/\List.take (1:Nat) [D.sct [D.int (mK (el (m8 l) (0:Nat))),D.str [],D.bool (cNm (el (m8 l) (0:Nat))).asProp,D.list (List.take (2:Nat) ([D.str (nm1 (el (m8 l) (0:Nat)))]++ [D.str
 (nm2 (el (m8 l) (0:Nat)))])),D.int (0:Int)]]=mL (m8 l) y/\True
def zrf (l:D) (x:Nat):Prop:=
 (mK (el (m8 l) (0:Nat))=(1:Int)->False)->(ztB l x)/\((mK (el (m8 l) (0:Nat))=(4:Int)->False)->(zot l x)/\((mK (el (m8 l) (0:Nat))=(5:Int)->False)->(mK (el (m8 l) (0:
 Nat))=(6:Int)->(0:Nat)+(2:Nat)<=([D.str (nm1 (el (m8 l) (0:Nat)))]++ [D.str (nm2 (el (m8 l) (0:Nat)))]).length/\(0:Nat)+(1:Nat)<= [D.sct [D.int (mK (el (m8 l) (0:Nat))),
 D.str [],D.bool (cNm (el (m8 l) (0:Nat))).asProp,D.list (List.take (2:Nat) ([D.str (nm1 (el (m8 l) (0:Nat)))]++ [D.str (nm2 (el (m8 l) (0:Nat)))])),D.int (0:Int)]].length/\(1:Nat)<=
 (16777216:Nat)/\((-9223372036854775808:Int)<=(0:Int)+(1:Int)/\(0:Int)+(1:Int)<(9223372036854775808:Int))/\(zow l x))/\((mK (el (m8 l) (0:Nat))=(6:Int)->False)->(mK
 (el (m8 l) (0:Nat))=(7:Int)->(0:Nat)+(2:Nat)<=([D.str (nm1 (el (m8 l) (0:Nat)))]++ [D.str (nm2 (el (m8 l) (0:Nat)))]).length/\(0:Nat)+(1:Nat)<= [D.sct [D.int (mK (el (m8 l)
 (0:Nat))),D.str [],D.bool (cNm (el (m8 l) (0:Nat))).asProp,D.list (List.take (2:Nat) ([D.str (nm1 (el (m8 l) (0:Nat)))]++ [D.str (nm2 (el (m8 l) (0:Nat)))])),D.int (0:Int)]].length/\
 (1:Nat)<=(16777216:Nat)/\((-9223372036854775808:Int)<=(0:Int)+(1:Int)/\(0:Int)+(1:Int)<(9223372036854775808:Int))/\(zow l x))/\(ztA l x))))
def zox (l:D) (x:Nat):Prop:=
 (mK (el (m8 l) x)=(7:Int)->False)->(mK (el (m8 l) x)=(10:Int)->((64:Int)=(0:Int)->False)/\zfI (m8 l) x (D.sct [D.int (mK (el (m8 l) x)),D.str [],D.bool (false=true),D.nil,
 D.int (IntKind.i64.wrap (((el (m8 l) x).fld (1:Nat)).asInt.tmod (64:Int)))]) (mR (m8 l) x))/\((mK (el (m8 l) x)=(10:Int)->False)->zfI (m8 l) x (D.sct [D.int (mK (el (m8 l) x)),D.str [],
 D.bool (false=true),D.nil,D.int (0:Int)]) (mR (m8 l) x))
def zty (l:D) (x:Nat):Prop:=
 (mK (el (m8 l) x)=(1:Int)->False)->(mK (el (m8 l) x)=(4:Int)->((2:Int)=(0:Int)->False)/\(zjf l x)/\zfI (m8 l) x (D.sct [D.int (mK (el (m8 l) x)),D.str [],D.bool (cNm (el (m8
 l) x)).asProp,D.nil,D.int ((1:Int)+IntKind.i64.wrap (((el (m8 l) x).fld (1:Nat)).asInt.tmod (2:Int)))]) (mR (m8 l) x))/\((mK (el (m8 l) x)=(4:Int)->False)->(mK (el (m8 l) x)=(5:
 Int)->zfI (m8 l) x (D.sct [D.int (mK (el (m8 l) x)),D.str [],D.bool (cNm (el (m8 l) x)).asProp,D.nil,D.int (0:Int)]) (mR (m8 l) x))/\((mK (el (m8 l) x)=(5:Int)->False)->(mK (el (m8 l)
 x)=(6:Int)->(0:Nat)+(2:Nat)<=([D.str (nm1 (el (m8 l) x))]++ [D.str (nm2 (el (m8 l) x))]).length/\zfI (m8 l) x (D.sct [D.int (mK (el (m8 l) x)),D.str [],D.bool (cNm (el (m8 l)
 x)).asProp,D.list (List.take (2:Nat) ([D.str (nm1 (el (m8 l) x))]++ [D.str (nm2 (el (m8 l) x))])),D.int (0:Int)]) (mR (m8 l) x))/\((mK (el (m8 l) x)=(6:Int)->False)->(mK (el (m8 l) x)=
 (7:Int)->(0:Nat)+(2:Nat)<=([D.str (nm1 (el (m8 l) x))]++ [D.str (nm2 (el (m8 l) x))]).length/\zfI (m8 l) x (D.sct [D.int (mK (el (m8 l) x)),D.str [],D.bool (cNm (el (m8 l) x)).asProp,
 D.list (List.take (2:Nat) ([D.str (nm1 (el (m8 l) x))]++ [D.str (nm2 (el (m8 l) x))])),D.int (0:Int)]) (mR (m8 l) x))/\(zox l x))))
def ztz (l:D) (x:Nat):Prop:=
 (mK (el (m8 l) x)=(1:Int)->False)->(mK (el (m8 l) x)=(4:Int)->((2:Int)=(0:Int)->False)/\(zjf l x)/\zfI (m8 l) x (D.sct [D.int (mK (el (m8 l) x)),D.str [],D.bool (cNm (el (m8
 l) x)).asProp,D.nil,D.int ((1:Int)+IntKind.i64.wrap (((el (m8 l) x).fld (1:Nat)).asInt.tmod (2:Int)))]) (mR (m8 l) x))/\((mK (el (m8 l) x)=(4:Int)->False)->(mK (el (m8 l) x)=(5:
 Int)->zfI (m8 l) x (D.sct [D.int (mK (el (m8 l) x)),D.str [],D.bool (cNm (el (m8 l) x)).asProp,D.nil,D.int (0:Int)]) (mR (m8 l) x))/\((mK (el (m8 l) x)=(5:Int)->False)->(mK (el (m8 l)
 x)=(6:Int)->(0:Nat)+(1:Nat)<= [D.str (nm1 (el (m8 l) x))].length/\zfI (m8 l) x (D.sct [D.int (mK (el (m8 l) x)),D.str [],D.bool (cNm (el (m8 l) x)).asProp,D.list (List.take (1:Nat)
 [D.str (nm1 (el (m8 l) x))]),D.int (0:Int)]) (mR (m8 l) x))/\((mK (el (m8 l) x)=(6:Int)->False)->(mK (el (m8 l) x)=(7:Int)->(0:Nat)+(1:Nat)<= [D.str (nm1 (el (m8 l) x))].length/\
 zfI (m8 l) x (D.sct [D.int (mK (el (m8 l) x)),D.str [],D.bool (cNm (el (m8 l) x)).asProp,D.list (List.take (1:Nat) [D.str (nm1 (el (m8 l) x))]),D.int (0:Int)]) (mR (m8 l) x))/\(zox l
 x))))
def zoy (l:D) (x:Nat):Prop:=
 mK (el (m8 l) x)=(1:Int)->(0:Int)<=(0:Int)/\(0:Int)<(↑(1:Nat):Int)/\(0:Nat)+(0:Nat)< [D.str (nm1 (el (m8 l) x))].length/\(0:Nat)+(1:Nat)<= [D.str (nm1 (el (m8 l)
 x))].length/\zfI (m8 l) x (D.sct [D.int (mK (el (m8 l) x)),D.str [],D.bool (false=true),D.list (List.take (1:Nat) [D.str (nm1 (el (m8 l) x))]),D.int (0:Int)]) ((zad [D.str (nm1 (el (m8 l)
 x))] ((0:Nat)+(0:Nat))).asStr)
def zoz (l:D) (x:Nat):Prop:=
 (zkg l x)\/∃(y:Nat),((0:Nat)<y/\y<=(m8 l).len)/\(m8 l).len-y<(m8 l).len-x/\((0:Int)+(1:Int)=(↑y:Int)/\((0:Nat)=(0:Nat)/\(1:Nat)=y/\True)/\ []=mR (m8 l) y
 /\True)/\List.take (1:Nat) [D.sct [D.int (mK (el (m8 l) (0:Nat))),D.str [],D.bool (cNm (el (m8 l) (0:Nat))).asProp,D.list (List.take (1:Nat) [D.str (nm1 (el (m8 l) (0:Nat)))]),D.int (0
 :Int)]]=mL (m8 l) y/\True
def zrg (l:D) (x:Nat):Prop:=
 (mK (el (m8 l) (0:Nat))=(1:Int)->False)->(ztB l x)/\((mK (el (m8 l) (0:Nat))=(4:Int)->False)->(zot l x)/\((mK (el (m8 l) (0:Nat))=(5:Int)->False)->(mK (el (m8 l) (0:
 Nat))=(6:Int)->(0:Nat)+(1:Nat)<= [D.str (nm1 (el (m8 l) (0:Nat)))].length/\(0:Nat)+(1:Nat)<= [D.sct [D.int (mK (el (m8 l) (0:Nat))),D.str [],D.bool (cNm (el (m8 l) (0:
 Nat))).asProp,D.list (List.take (1:Nat) [D.str (nm1 (el (m8 l) (0:Nat)))]),D.int (0:Int)]].length/\(1:Nat)<=(16777216:Nat)/\((-9223372036854775808:Int)<=(0:Int)+(1:Int)/\(0:
 Int)+(1:Int)<(9223372036854775808:Int))/\(zoz l x))/\((mK (el (m8 l) (0:Nat))=(6:Int)->False)->(mK (el (m8 l) (0:Nat))=(7:Int)->(0:Nat)+(1:Nat)<= [D.str (nm1 (el (m8
 l) (0:Nat)))].length/\(0:Nat)+(1:Nat)<= [D.sct [D.int (mK (el (m8 l) (0:Nat))),D.str [],D.bool (cNm (el (m8 l) (0:Nat))).asProp,D.list (List.take (1:Nat) [D.str (nm1 (el (m8 l) (0:
 Nat)))]),D.int (0:Int)]].length/\(1:Nat)<=(16777216:Nat)/\((-9223372036854775808:Int)<=(0:Int)+(1:Int)/\(0:Int)+(1:Int)<(9223372036854775808:Int))/\(zoz l x))/\
 (ztA l x))))
theorem zxp:∀(l:D),zah (zjX (λ_=>none) zh9) 3 (29:FuncId) [V.dat (40:TypeId) l] (V.ownr (69:TypeId) false (0<(mL (m8 l) (m8 l).len).length) (mL (m8 l) (m8 l).len))=((0:Int)<=0/\0<=min
(l.len:Int) 8/\min (l.len:Int) 8<=(l.len:Int)/\((∃(x:Nat),x=0/\((0:Int)=0/\True/\([]:List UInt8)= []/\True)/\True)\/∃(x:Nat),(0<x/\x<=(m8 l).len)/\(0=(x:Int)/\False/\ []=mR (m8
l) x/\True)/\False/\True)/\(∀(x:Nat),x=0->(m8 l).len-x<LIM/\(0<(↑(m8 l).len:Int)->(0:Int)<=0/\0<(↑(m8 l).len:Int)/\((10:Int)=0->False)/\((4:Int)=0->False)/\0<=((el (m8 l) 0).fld
2).asInt.tmod 4/\((el (m8 l) 0).fld 2).asInt.tmod 4<=(zb9.length:Int)/\(zb9.length:Int)<=(zb9.length:Int)/\(0:Int)<=0/\(0:Int)<=1/\1<=(↑(List.take (zb9.length-(((el (m8 l) 0).fld 2).asInt.tmod
4).toNat) (List.drop (((el (m8 l) 0).fld 2).asInt.tmod 4).toNat zb9)).length:Int)/\(0<=((el (m8 l) 0).fld 2).asInt/\(0:Int)<=4/\(0<=((el (m8 l) 0).fld 2).asInt/\((el (m8 l) 0).fld 2).asInt<256)/\((0:Int)
<=4/\(4:Int)<256)/\((zae ((el (m8 l) 0).fld 2).asInt 4=0->False)->((4:Int)=0->False)/\0<=(IntKind.u8.wrap (((el (m8 l) 0).fld 2).asInt+1)).tmod 4/\(IntKind.u8.wrap (((el (m8 l) 0).fld 2).asInt+
1)).tmod 4<=(zb9.length:Int)/\(zb9.length:Int)<=(zb9.length:Int)/\(0:Int)<=0/\(0:Int)<=1/\1<=(↑(List.take (zb9.length-((IntKind.u8.wrap (((el (m8 l) 0).fld 2).asInt+1)).tmod 4).toNat)
(List.drop ((IntKind.u8.wrap (((el (m8 l) 0).fld 2).asInt+1)).tmod 4).toNat zb9)).length:Int)/\0+1<= [D.str (nm2 (el (m8 l) 0))].length/\0+1<= [D.str (nm1 (el (m8 l) 0))].length/\(1:Nat)+1<=8796093022208
/\((∃(x:Unit),zae ((el (m8 l) 0).fld 2).asInt 4=0/\False)\/∃(x:Unit),(zae ((el (m8 l) 0).fld 2).asInt 4=0->False)/\(((0:Nat)=0/\(1:Nat)+1=2/\True)/\True)/\List.take 1 [D.str (nm1 (el (m8
l) 0))]++List.take 1 [D.str (nm2 (el (m8 l) 0))]= [D.str (nm1 (el (m8 l) 0))]++ [D.str (nm2 (el (m8 l) 0))]/\True))/\(((zae ((el (m8 l) 0).fld 2).asInt 4=0->False)->False)->(∃(x:Unit),zae ((el (m8 l)
0).fld 2).asInt 4=0/\(((0:Nat)=0/\(1:Nat)=1/\(1:Nat)=1)/\True)/\ [D.str (nm1 (el (m8 l) 0))]= [D.str (nm1 (el (m8 l) 0))]/\True)\/∃(x:Unit),(zae ((el (m8 l) 0).fld 2).asInt 4=0->False)/\
False))/\(∀(x_1:Unit),zae ((el (m8 l) 0).fld 2).asInt 4=0->(((el (m8 l) 0).fld 4).asProp->((mK (el (m8 l) 0)=1->False)->(zri l x)/\(zrg l x))/\(((mK (el (m8 l) 0)=1->False)->False)->(zri l x)
/\(zrg l x)))/\((((el (m8 l) 0).fld 4).asProp->False)->(zri l x)/\(zrg l x)))/\∀(x_1:Unit),(zae ((el (m8 l) 0).fld 2).asInt 4=0->False)->(((el (m8 l) 0).fld 4).asProp->((mK (el (m8 l) 0)=1->
False)->(zrh l x)/\(zrf l x))/\(((mK (el (m8 l) 0)=1->False)->False)->(zrh l x)/\(zrf l x)))/\((((el (m8 l) 0).fld 4).asProp->False)->(zrh l x)/\(zrf l x)))/\((0<(↑(m8 l).len:Int)->False)->
(0<(mL (m8 l) (m8 l).len).length->False)))/\∀(x:Nat),0<x/\x<=(m8 l).len->(m8 l).len-x<LIM/\((x:Int)<(↑(m8 l).len:Int)->0<=(x:Int)/\(x:Int)<(↑(m8 l).len:Int)/\((10:Int)=0->False)/\
((4:Int)=0->False)/\0<=((el (m8 l) x).fld 2).asInt.tmod 4/\((el (m8 l) x).fld 2).asInt.tmod 4<=(zb9.length:Int)/\(zb9.length:Int)<=(zb9.length:Int)/\(0:Int)<=0/\(0:Int)<=1/\1<=(↑(List.take
(zb9.length-(((el (m8 l) x).fld 2).asInt.tmod 4).toNat) (List.drop (((el (m8 l) x).fld 2).asInt.tmod 4).toNat zb9)).length:Int)/\(0<=((el (m8 l) x).fld 2).asInt/\(0:Int)<=4/\(0<=((el (m8 l) x).fld 2).asInt
/\((el (m8 l) x).fld 2).asInt<256)/\((0:Int)<=4/\(4:Int)<256)/\((zae ((el (m8 l) x).fld 2).asInt 4=0->False)->((4:Int)=0->False)/\0<=(IntKind.u8.wrap (((el (m8 l) x).fld 2).asInt+1)).tmod 4/\
(IntKind.u8.wrap (((el (m8 l) x).fld 2).asInt+1)).tmod 4<=(zb9.length:Int)/\(zb9.length:Int)<=(zb9.length:Int)/\(0:Int)<=0/\(0:Int)<=1/\1<=(↑(List.take (zb9.length-((IntKind.u8.wrap (((el (m8
l) x).fld 2).asInt+1)).tmod 4).toNat) (List.drop ((IntKind.u8.wrap (((el (m8 l) x).fld 2).asInt+1)).tmod 4).toNat zb9)).length:Int)/\0+1<= [D.str (nm2 (el (m8 l) x))].length/\0+1<= [D.str (nm1 (el (m8 l)
x))].length/\(1:Nat)+1<=8796093022208/\((∃(x_1:Unit),zae ((el (m8 l) x).fld 2).asInt 4=0/\False)\/∃(x_1:Unit),(zae ((el (m8 l) x).fld 2).asInt 4=0->False)/\(((0:Nat)=0/\(1:Nat)+1=2/\
True)/\True)/\List.take 1 [D.str (nm1 (el (m8 l) x))]++List.take 1 [D.str (nm2 (el (m8 l) x))]= [D.str (nm1 (el (m8 l) x))]++ [D.str (nm2 (el (m8 l) x))]/\True))/\(((zae ((el (m8 l) x).fld 2).asInt 4=0->
False)->False)->(∃(x_1:Unit),zae ((el (m8 l) x).fld 2).asInt 4=0/\(((0:Nat)=0/\(1:Nat)=1/\(1:Nat)=1)/\True)/\ [D.str (nm1 (el (m8 l) x))]= [D.str (nm1 (el (m8 l) x))]/\True)\/∃(x_1:Unit),
(zae ((el (m8 l) x).fld 2).asInt 4=0->False)/\False))/\(∀(x_1:Unit),zae ((el (m8 l) x).fld 2).asInt 4=0->(((el (m8 l) x).fld 4).asProp->((mK (el (m8 l) x)=1->False)->(mK (el (m8 l) x)=1->(0:Int)
<=0/\0<(↑(1:Nat):Int)/\0+0< [D.str (nm1 (el (m8 l) x))].length/\0+1<= [D.str (nm1 (el (m8 l) x))].length/\zfI (m8 l) x (D.sct [D.int (mK (el (m8 l) x)),D.str (mR (m8 l) x),D.bool (false=true),D.list
(List.take 1 [D.str (nm1 (el (m8 l) x))]),D.int 0]) ((zad [D.str (nm1 (el (m8 l) x))] (0+0)).asStr))/\((mK (el (m8 l) x)=1->False)->(mK (el (m8 l) x)=4->((2:Int)=0->False)/\(zjf l x)/\zfI (m8 l) x
(D.sct [D.int (mK (el (m8 l) x)),D.str (mR (m8 l) x),D.bool (cNm (el (m8 l) x)).asProp,D.nil,D.int (1+IntKind.i64.wrap (((el (m8 l) x).fld 1).asInt.tmod 2))]) (mR (m8 l) x))/\((mK (el (m8 l) x)=4->False)->(mK
(el (m8 l) x)=5->zfI (m8 l) x (D.sct [D.int (mK (el (m8 l) x)),D.str (mR (m8 l) x),D.bool (cNm (el (m8 l) x)).asProp,D.nil,D.int 0]) (mR (m8 l) x))/\((mK (el (m8 l) x)=5->False)->(mK (el (m8 l) x)=6->0+
1<= [D.str (nm1 (el (m8 l) x))].length/\zfI (m8 l) x (D.sct [D.int (mK (el (m8 l) x)),D.str (mR (m8 l) x),D.bool (cNm (el (m8 l) x)).asProp,D.list (List.take 1 [D.str (nm1 (el (m8 l) x))]),D.int 0]) (mR (m8 l) x))
/\((mK (el (m8 l) x)=6->False)->(mK (el (m8 l) x)=7->0+1<= [D.str (nm1 (el (m8 l) x))].length/\zfI (m8 l) x (D.sct [D.int (mK (el (m8 l) x)),D.str (mR (m8 l) x),D.bool (cNm (el (m8 l) x)).asProp,D.list
(List.take 1 [D.str (nm1 (el (m8 l) x))]),D.int 0]) (mR (m8 l) x))/\(zov l x))))))/\(((mK (el (m8 l) x)=1->False)->False)->(zoy l x)/\(ztz l x)))/\((((el (m8 l) x).fld 4).asProp->False)->(zoy l x)
/\(ztz l x)))/\∀(x_1:Unit),(zae ((el (m8 l) x).fld 2).asInt 4=0->False)->(((el (m8 l) x).fld 4).asProp->((mK (el (m8 l) x)=1->False)->(mK (el (m8 l) x)=1->(0:Int)<=0/\0<(↑(2:Nat):Int)/\0+
0<([D.str (nm1 (el (m8 l) x))]++ [D.str (nm2 (el (m8 l) x))]).length/\0+2<=([D.str (nm1 (el (m8 l) x))]++ [D.str (nm2 (el (m8 l) x))]).length/\zfI (m8 l) x (D.sct [D.int (mK (el (m8 l) x)),D.str (mR (m8 l) x),
D.bool (false=true),D.list (List.take 2 ([D.str (nm1 (el (m8 l) x))]++ [D.str (nm2 (el (m8 l) x))])),D.int 0]) ((zad ([D.str (nm1 (el (m8 l) x))]++ [D.str (nm2 (el (m8 l) x))]) (0+0)).asStr))/\((mK (el (m8 l)
x)=1->False)->(mK (el (m8 l) x)=4->((2:Int)=0->False)/\(zjf l x)/\zfI (m8 l) x (D.sct [D.int (mK (el (m8 l) x)),D.str (mR (m8 l) x),D.bool (cNm (el (m8 l) x)).asProp,D.nil,D.int (1+
IntKind.i64.wrap (((el (m8 l) x).fld 1).asInt.tmod 2))]) (mR (m8 l) x))/\((mK (el (m8 l) x)=4->False)->(mK (el (m8 l) x)=5->zfI (m8 l) x (D.sct [D.int (mK (el (m8 l) x)),D.str (mR (m8 l) x),D.bool (cNm (el (m8
l) x)).asProp,D.nil,D.int 0]) (mR (m8 l) x))/\((mK (el (m8 l) x)=5->False)->(mK (el (m8 l) x)=6->0+2<=([D.str (nm1 (el (m8 l) x))]++ [D.str (nm2 (el (m8 l) x))]).length/\zfI (m8 l) x (D.sct [D.int (mK (el
(m8 l) x)),D.str (mR (m8 l) x),D.bool (cNm (el (m8 l) x)).asProp,D.list (List.take 2 ([D.str (nm1 (el (m8 l) x))]++ [D.str (nm2 (el (m8 l) x))])),D.int 0]) (mR (m8 l) x))/\((mK (el (m8 l) x)=6->False)->(mK (el
(m8 l) x)=7->0+2<=([D.str (nm1 (el (m8 l) x))]++ [D.str (nm2 (el (m8 l) x))]).length/\zfI (m8 l) x (D.sct [D.int (mK (el (m8 l) x)),D.str (mR (m8 l) x),D.bool (cNm (el (m8 l) x)).asProp,D.list (List.take 2
([D.str (nm1 (el (m8 l) x))]++ [D.str (nm2 (el (m8 l) x))])),D.int 0]) (mR (m8 l) x))/\(zov l x))))))/\(((mK (el (m8 l) x)=1->False)->False)->(zou l x)/\(zty l x)))/\((((el (m8 l) x).fld 4).asProp->
False)->(zou l x)/\(zty l x)))/\(((x:Int)<(↑(m8 l).len:Int)->False)->0<(mL (m8 l) (m8 l).len).length/\(0:Nat)=0/\x=(mL (m8 l) (m8 l).len).length/\mL (m8 l) x=mL (m8 l) (m8 l).len)):=by intros;kernel_rfl
theorem zyu (l:D) (hu:zqo l):zah (zjX (λ_=>none) zh9) 3 29 [.dat 40 l] (.ownr 69 false (0<(mL (m8 l) (m8 l).len).length) (mL (m8 l) (m8 l).len)):=by
 rw [zxp]
 unfold zrg zoz zoy ztz zty zox zrf zow zov zou zjf zot zri ztB ztA zkg zrh
 have hl:=zlF l
 have hp:∀x,x<(m8 l).len->u8C (el (m8 l) x):=λx h=>by rw [zve h];exact hu.out x (by omega)
 refine ⟨Int.le_refl _,by omega,by omega,Or.inl ⟨0,rfl,⟨rfl,trivial,rfl,trivial⟩,trivial⟩,λx hx=>⟨zh0 (by omega),λh=> ?_,λh=> ?_⟩,λx hx=>⟨zh0 (by omega),λh=> ?_,λh=> ?_⟩⟩
 .subst hx
  have hq:=(hp 0 (by omega)).out
  have e1:=zsz hq.2.2.1
  have e2:=zsz (zvV (((el (m8 l) 0).fld 2).asInt+1)).1
  have w2:=zk5 hq.2.1 2 (by omega)
  have w64:=zk5 hq.2.1 64 (by omega)
  clear hp hl hu
  repeat' (first|apply And.intro|intro _|refine Or.inl (Exists.intro () (And.intro (Classical.byContradiction ‹(zae _ 4=0->False)->False›) ?_))|refine Or.inr (Exists.intro () (And.intro ‹zae _ 4=0->False› ?_))|fail)
  all_goals first
   |with_reducible rfl
   |exact True.intro
   |omega
   |exact Nat.le_refl _
   |exact ztO ‹_›
   |exact zoV ‹_›
   |exact zkr h (mC1 ‹_› (by first|exact zld ‹_› ‹_›|exact zeq ‹_›|exact zd7 ‹_›) (by first|exact zuD ‹_›|exact zuE ‹_›)) (zwI (x:=0) ‹_›)
   |exact zkr h (mC4 ‹_› (by first|exact zld ‹_› ‹_›|exact zeq ‹_›|exact zd7 ‹_›)) (zmF ‹_›)
   |exact zkr h (mC5 ‹_› (by first|exact zld ‹_› ‹_›|exact zeq ‹_›|exact zd7 ‹_›)) (zmF ‹_›)
   |exact zkr h (mC6 ‹_› (by first|exact zld ‹_› ‹_›|exact zeq ‹_›|exact zd7 ‹_›) (by first|exact zuD ‹_›|exact zuE ‹_›)) (zmF ‹_›)
   |exact zkr h (mC7 ‹_› (by first|exact zld ‹_› ‹_›|exact zeq ‹_›|exact zd7 ‹_›) (by first|exact zuD ‹_›|exact zuE ‹_›)) (zmF ‹_›)
   |exact zkr h (zwH ‹_› (by first|exact zld ‹_› ‹_›|exact zeq ‹_›|exact zd7 ‹_›)) (zmF ‹_›)
   |exact zkr h (mC0 ‹_› ‹_› ‹_› ‹_› ‹_› ‹_› (by first|exact zld ‹_› ‹_›|exact zeq ‹_›|exact zd7 ‹_›)) (zmF ‹_›)
   |rfl
   |exact Nat.zero_lt_succ _
 .intro k
  rw [zgp] at k
  have h:¬(0:Int)<((m8 l).len:Int):=h
  omega
 .have hq:=(hp x (by omega)).out
  have e1:=zsz hq.2.2.1
  have e2:=zsz (zvV (((el (m8 l) x).fld 2).asInt+1)).1
  have w2:=zk5 hq.2.1 2 (by omega)
  have w64:=zk5 hq.2.1 64 (by omega)
  have hll:0+x<=(mL (m8 l) x).length:=by rw [zgp];omega
  clear hp hu
  repeat' (first|apply And.intro|intro _|refine Or.inl (Exists.intro () (And.intro (Classical.byContradiction ‹(zae _ 4=0->False)->False›) ?_))|refine Or.inr (Exists.intro () (And.intro ‹zae _ 4=0->False› ?_))|fail)
  all_goals first
   |with_reducible rfl
   |exact True.intro
   |omega
   |exact hll
   |exact Nat.le_refl _
   |exact ztO ‹_›
   |exact zoV ‹_›
   |exact ztV h (mC1 ‹_› (by first|exact zld ‹_› ‹_›|exact zeq ‹_›|exact zd7 ‹_›) (by first|exact zuD ‹_›|exact zuE ‹_›)) (zwI ‹_›)
   |exact ztV h (mC4 ‹_› (by first|exact zld ‹_› ‹_›|exact zeq ‹_›|exact zd7 ‹_›)) (zrt ‹_›)
   |exact ztV h (mC5 ‹_› (by first|exact zld ‹_› ‹_›|exact zeq ‹_›|exact zd7 ‹_›)) (zrt ‹_›)
   |exact ztV h (mC6 ‹_› (by first|exact zld ‹_› ‹_›|exact zeq ‹_›|exact zd7 ‹_›) (by first|exact zuD ‹_›|exact zuE ‹_›)) (zrt ‹_›)
   |exact ztV h (mC7 ‹_› (by first|exact zld ‹_› ‹_›|exact zeq ‹_›|exact zd7 ‹_›) (by first|exact zuD ‹_›|exact zuE ‹_›)) (zrt ‹_›)
   |exact ztV h (zwH ‹_› (by first|exact zld ‹_› ‹_›|exact zeq ‹_›|exact zd7 ‹_›)) (zrt ‹_›)
   |exact ztV h (mC0 ‹_› ‹_› ‹_› ‹_› ‹_› ‹_› (by first|exact zld ‹_› ‹_›|exact zeq ‹_›|exact zd7 ‹_›)) (zrt ‹_›)
   |rfl
   |exact Nat.zero_lt_succ _
 .have e:=zgT hx.2 h
  subst e
  exact ⟨by rw [zgp];exact hx.1,rfl,(zgp _ _).symm,rfl⟩
end
end Go.Ev

end

section
open Go.Proofs
namespace Go.Ev
noncomputable section
set_option maxRecDepth 100000
theorem zy8:∀(k:Int) (a:List UInt8) (la:Prop) (nm:D) (n:Int),zah (zjX (λ_=>none) λ_ _=>none) 4 (39:FuncId) [V.agg [V.int IntKind.u8 k,V.str a,V.prop la,V.dat (29:TypeId) nm,V.int
IntKind.i64 n]] (V.prop (zfa k))=(((k=9->False)->(k=10↔zfa k))/\(k=9->(true=true↔zfa k))):=by intros;kernel_rfl
theorem s39 (k:Int) (a:List UInt8) (la:Prop) (nm:D) (n:Int):zah (zjX (λ_=>none) λ_ _=>none) 4 39 [.agg [.int .u8 k,.str a,.prop la,.dat 29 nm,.int .i64 n]] (.prop (zfa k)):=by
 rw [zy8]
 exact ⟨λh=>⟨λe=>⟨.inr e⟩,λq=>q.out.elim (λe=>(h e).elim) id⟩,λh=>⟨λ_=>⟨.inl h⟩,λ_=>rfl⟩⟩
theorem v90:∀d,5<=d->VC d 90 zmr:=λd hd=>
 zaf (C:=zjX (λ_=>none) zh9) (G:=GC) (B:=2) (m:=3) rfl rfl rfl (λd _=>zg7 d) (λ_ _ _ _ h=>(zg3 h).elim) (λus p r hc hp ht=>by
  unfold zmr at hc
  split at hc
  .cases hc;exact s90 _ _ _ hp.1 hp.2
  .cases hc) (λ_ _=>rfl) rfl rfl d hd
theorem vg0:∀d,5<=d->∀g c,(λ|90=>some zmr|_=>none:FuncId->Option Con) g=some c->VC d g c:=λd hd g c h=>by
 dsimp only at h
 split at h
 .cases h;exact v90 d hd
 .cases h
theorem v30:∀d,8<=d->VC d 30 zuU:=λd hd=>
 zat (C:=zjX (λ|90=>some zmr|_=>none) zh9) (G:=GC) (B:=5) (m:=3) rfl rfl rfl vg0 (λus p r hc hp ht=>by
  unfold zuU at hc
  split at hc
  .cases hc;exact s30 _ _ hp.1 hp.2.1 hp.2.2
  .cases hc) (λ_ _=>rfl) rfl rfl d hd
theorem zy2 (g:D):∀d,8<=d->VC d 30 (zn8 g):=λd hd us p r hc hp=>by
 unfold zn8 at hc;split at hc
 .cases hc;obtain ⟨h1,rfl⟩:=hp;exact v30 d hd _ _ _ rfl h1
 .cases hc
def zsd:Con:=λ| [.dat 40 l]=>some (zqo l,.ownr 69 false (0<(mL (m8 l) (m8 l).len).length) (mL (m8 l) (m8 l).len))|_=>none
theorem zy1:∀d,5<=d->VC d 29 zsd:=λd hd=>
 zat (C:=zjX (λ_=>none) zh9) (G:=GC) (B:=2) (m:=3) rfl rfl rfl (λd _=>zg7 d) (λus p r hc hp ht=>by
  unfold zsd at hc
  split at hc
  .cases hc;exact zyu _ hp
  .cases hc) (λ_ _=>rfl) rfl rfl d hd
theorem zy0 (L:List D):∀d,5<=d->VC d 29 (zn7 L):=λd hd us p r hc hp=>by
 unfold zn7 at hc;split at hc
 .cases hc;obtain ⟨h1,rfl⟩:=hp;exact zy1 d hd _ _ _ rfl h1
 .cases hc
theorem v39:∀d,6<=d->VC d 39 ztd:=λd hd=>
 zat (C:=zjX (λ_=>none) (λ_ _=>none)) (G:=GC) (B:=2) (m:=4) rfl rfl rfl (λd _=>zg7 d) (λus p r hc hp ht=>by
  unfold ztd at hc
  split at hc
  .cases hc;exact s39 _ _ _ _ _
  .cases hc) (λ_ _=>rfl) rfl rfl d hd
theorem zy4:∀d,6<=d->VC d 40 zn9:=λd hd=>
 zat (C:=zjX (λ_=>none) (λ_ _=>none)) (G:=GC) (B:=2) (m:=4) rfl rfl rfl (λd _=>zg7 d) (λus p r hc hp ht=>by
  unfold zn9 at hc
  split at hc
  .cases hc;exact zyw _ hp.1 hp.2
  .cases hc) (λ_ _=>rfl) rfl rfl d hd
open Classical in
theorem zy3:∀d,46<=d->VC d 35 zlk:=λd hd us p r hc hp=>by
 have hc0:=hc
 unfold zlk at hc;split at hc
 .rename_i c g
  exact zat (C:=zqV os1 c g) (G:=GC) (B:=42) (m:=4) (g:=35) (c:=λus=>if us= [.dat 22 c,.dat 23 g] then zlk us else none) rfl rfl rfl zzk (λus p r hc hp ht=>by
   split at hc
   .rename_i e;subst e;cases hc;exact zyv _ _ hp
   .cases hc) (λ_ _=>rfl) rfl rfl d hd _ p r (by show (if _ then _ else _)=_;rw [if_pos rfl];exact hc0) hp
 .cases hc
theorem zzj (L:List D) (g:D):∀d,46<=d->∀f k,mv0 L g f=some k->VC d f k:=λd hd f k h=>by
 unfold mv0 at h
 split at h
 .cases h;exact zy0 L d (by omega)
 .cases h;exact v39 d (by omega)
 .cases h;exact zqa (zy2 g d (by omega))
 .cases h;exact zy3 d (by omega)
 .cases h;exact zy4 d (by omega)
 .cases h
theorem zv3 (d:D) (r:List UInt8):D.sct [D.int (cK (mC d r)),D.str (cA (mC d r)),D.bool (cL (mC d r)),cNm (mC d r),D.int (cN (mC d r))]=mC d r:=by
 unfold mC
 split
 .rfl
 .split
  .rfl
  .split
   .rfl
   .split
    .rfl
    .split<;>rfl
theorem zoB:∀i:Nat,i<20->∀j:Nat,j<20->zjg i=zjg j->i=j:=by decide+kernel
theorem zru {l p:D} (hu:zqo l) (L:List D) (hL:L=mL (m8 l) (m8 l).len) (g:D) (hg:g=gsD 20 p):mvF L g:=by
 classical
 have hll:L.length=(m8 l).len:=by rw [hL,zgp]
 have l8:=(zlF l).2
 have hLe:∀x,x<L.length->zad L x=mC (el (m8 l) x) (mR (m8 l) x):=λx hx=>by
  have:=zrs l (i:=x) (by omega)
  rw [<-this]
  show _=zad (za6 _).asList x
  rw [zcN,hL]
 have hgl:g.len=(mG 20 p).len:=by rw [hg];exact zoF 20 p
 have g20:g.len<=20:=by
  have:=(zo0 (n:=20) (by omega) p).2
  omega
 have hge:∀i,i<g.len->el g i=gE (mG 20 p) i:=λi hi=>by rw [hg];exact zsq 20 p (by omega)
 have hmem:∀{M:List D} {i:Nat},i<M.length->zad M i∈M:=λhi=>by
  unfold zad;rw [List.getElem?_eq_getElem hi];exact List.getElem_mem hi
 have hat:∀d,d∈g.asList->∃i,i<g.len/\d=el g i:=λd hd=>by
  obtain ⟨i,hi,rfl⟩:=List.getElem_of_mem hd
  exact ⟨i,hi,by show _=zad g.asList i;unfold zad;rw [List.getElem?_eq_getElem hi];rfl⟩
 -- the text
 have hdm:∀x,x<(dlD L).len->∃j,j<L.length/\el (dlD L) x=zad L j/\¬zfa (cK (zad L j)):=λx hx=>by
  unfold dlD at hx⊢
  by_cases h0:0<L.length
  .rw [if_pos h0] at hx⊢
   have hm:zad (dlL L L.length) x∈dlL L L.length:=hmem hx
   have hm2:=List.mem_filter.1 hm
   obtain ⟨j,hj,e⟩:=List.mem_take_iff_getElem.1 hm2.1
   have e2:zad L j=zad (dlL L L.length) x:=by unfold zad at e⊢;rw [List.getElem?_eq_getElem (by omega)];exact e
   exact ⟨j,by omega,e2.symm,by rw [e2];exact of_decide_eq_true hm2.2⟩
  .rw [if_neg h0] at hx;exact absurd hx (Nat.not_lt_zero _)
 have hk:∀x,x<(dlD L).len->¬zfa (cK (el (dlD L) x)):=λx hx=>by
  obtain ⟨j,_,e,h⟩:=hdm x hx
  rw [e];exact h
 have hdl:(dlD L).len<=L.length:=by
  unfold dlD;split
  .exact (zqZ L L.length).2
  .exact Nat.zero_le _
 have hv:(zbB (dlD L)).2=0:=by
  unfold dlD;split
  .rename_i h0
   have hb:=zvf hu
   have e:mD l= .list L:=by
    unfold mD;rw [<-hL,<-zkp h0]
   rw [e] at hb
   have:=zqx hb (λd=>decide (¬zfa (cK d))) (λd _ h1=>decide_eq_true λq=>by rcases q.out with h|h<;>omega)
   unfold dlL;rw [List.take_of_length_le (Nat.le_refl _)];exact this
  .exact zj4 (Nat.zero_le _) λi hi=>absurd hi (Nat.not_lt_zero _)
 have hs:zaX (dlD L):=⟨by omega,λi hi=>by
  obtain ⟨j,hj,e,_⟩:=hdm i hi
  rw [e,hLe j hj]
  have:=(ztS ((zoZ hu) (show j<(m8 l).len by omega)) (mR (m8 l) j)).few
  omega⟩
 have htg:tgG g:=⟨λi hi=>by
  have:=zwA 20 p (i:=i) (by rw [<-hg];exact hi)
  rw [<-hg] at this;exact this⟩
 have hokM:∀g':D,g'.len<=20->okO (dlD L) g':=λg' h=>⟨by omega,hv⟩
 have hlen:∀(c ll:D) (n k:Nat),(zbQ (List.replicate n (D.int 0)) ll k).length=n:=λc ll n k=>by rw [zcA,List.length_replicate]
 have hgd:∀d,d∈g.asList->gD (gAt d)=d:=λd hd=>by
  obtain ⟨i,hi,rfl⟩:=hat d hd
  rw [hge i hi];rfl
 have hnm:∀i,i<g.len->((el g i).fld 0).asStr=zjg i:=λi hi=>by rw [hge i hi];rfl
 refine ⟨by omega,λx hx=>by rw [hLe x hx];exact zv3 _ _,g20,⟨?_⟩,hgd,⟨hs,.inl ⟨g20,htg⟩⟩,hokM g g20,λM hM=> ?_,⟨hs,.inl ⟨Nat.zero_le _,⟨λi hi=>absurd hi (Nat.not_lt_zero _)⟩⟩⟩,hokM .nil (Nat.zero_le _),λM hM x hx=> ?_⟩
 .rw [hg];show za6 _=za6 (za6 _).asList;rw [zcN]
 .have hl:M.length=g.len:=hM.length_eq
  have hMe:∀j,j<M.length->∃i,i<g.len/\zad M j=el g i:=λj hj=>hat _ (hM.mem_iff.1 (hmem hj))
  refine ⟨⟨hs,.inl ⟨by show M.length<=20;omega,⟨λj hj=> ?_⟩⟩⟩,hokM (.list M) (by show M.length<=20;omega),⟨hlen .nil _ _ _,by rw [hlen .nil];exact hl,λi j hi hj hn=> ?_⟩⟩
  .obtain ⟨i,hi,e⟩:=hMe j hj
   show (gAt (zad M j)).tg.len<=100
   rw [e];exact htg.out i hi
  .obtain ⟨i',hi',e⟩:=hMe j (by omega)
   have hn:=hn.out
   rw [e,hnm i hi,hnm i' hi'] at hn
   have:=zoB i (by omega) i' (by omega) hn
   subst this
   exact zuT hk (hokM g g20) (hokM (.list M) (by show M.length<=20;omega)) hM hi (by omega) (by rw [e])
 .have hm:el g x∈M:=hM.mem_iff.2 (hmem (M:=g.asList) hx)
  obtain ⟨i,hi,e⟩:=List.getElem_of_mem hm
  exact ⟨i,hi,⟨by unfold zad;rw [List.getElem?_eq_getElem hi];show (M[i].fld 0).asStr=_;rw [e]⟩⟩
def zhb:Con:=λ| [.dat 40 l,.dat 48 p,.dat 65 sw]=>some (zqo l/\zus p/\u8S sw,.prop True)|_=>none
open Classical in
theorem zyB:∀d,50<=d->VC d 10 zhb:=λd hd us p r hc hp=>by
 have hc0:=hc
 unfold zhb at hc;split at hc
 .rename_i l ps sw
  exact zat (C:=zqU (mv0 (mL (m8 l) (m8 l).len) (gsD 20 ps)) (mL (m8 l) (m8 l).len) (gsD 20 ps) sw) (G:=GC) (B:=46) (m:=4) (g:=10) (c:=λus=>if us= [.dat 40 l,.dat 48 ps,.dat 65 sw] then zhb us else none) rfl rfl rfl (zzj _ _) (λus p r hc hp ht=>by
   split at hc
   .rename_i e;subst e;cases hc
    have h30:=zo0 (n:=30) (by omega) sw
    exact s10 l ps sw _ _ hp.1 rfl hp.2.1 rfl ⟨λi hi=>by rw [zvg hi];exact hp.2.2.out i (by omega)⟩ (by omega) (zru hp.1 _ rfl _ rfl)
   .cases hc) (λ_ _=>rfl) rfl rfl d hd _ p r (by show (if _ then _ else _)=_;rw [if_pos rfl];exact hc0) hp
 .cases hc
section
variable {P:Program}
theorem zgs {f:Nat} {t:TypeId} {d:D} {k:IntKind} (hu:P.underlying t=some (.int k)) (h:okD P (f+1) t d):inR k d.asInt:=by
 unfold okD at h;rw [hu] at h
 obtain ⟨n,rfl,hr⟩:=h
 exact hr
theorem zh6 {f:Nat} {t e:TypeId} {d:D} (hu:P.underlying t=some (.slice e)) (h:okD P (f+1) t d):∀i,i<d.len->okD P f e (el d i):=by
 unfold okD at h;rw [hu] at h
 rcases h with rfl| ⟨l,rfl,_,h⟩
 .exact λi hi=>by simp [D.len,D.asList] at hi
 .refine λi hi=>h i _ ?_
  have hi:i<l.length:=hi
  show l[i]? =some (zad l i)
  unfold zad
  rw [List.getElem?_eq_getElem hi];rfl
theorem zpa {f:Nat} {t u:TypeId} {d:D} {f0 f1 f2 f3 f4:Field} (hu:P.underlying t=some (.struct #[f0,f1,f2,f3,f4])) (h0:f0.type=u) (h1:f1.type=u) (h2:f2.type=u)
  (hb:P.underlying u=some (.int .u8)) (h:okD P (f+2) t d):u8C d:=by
 unfold okD at h;rw [hu] at h
 obtain ⟨ds,rfl,hl,hf⟩:=h
 match ds,hl with
 | [a,b,c,x,y],_=>exact ⟨zgs hb (h0▸hf 0 _ a rfl rfl),zgs hb (h1▸hf 1 _ b rfl rfl),zgs hb (h2▸hf 2 _ c rfl rfl)⟩
theorem zpb {f:Nat} {t u:TypeId} {d:D} {f0 f1:Field} (hu:P.underlying t=some (.struct #[f0,f1])) (h0:f0.type=u) (h1:f1.type=u)
  (hb:P.underlying u=some (.int .u8)) (h:okD P (f+2) t d):u8P d:=by
 unfold okD at h;rw [hu] at h
 obtain ⟨ds,rfl,hl,hf⟩:=h
 match ds,hl with
 | [a,b],_=>exact ⟨zgs hb (h0▸hf 0 _ a rfl rfl),zgs hb (h1▸hf 1 _ b rfl rfl)⟩
end
theorem zxV {d:D} (h:okD Tryz.prog 20 40 d):zqo d:=⟨λi hi=>zpa Tryz.underlying121 rfl rfl rfl Tryz.underlying5 (zh6 Tryz.underlying40 h i hi)⟩
theorem zsC {P:Program} {f n:Nat} {t e:TypeId} {d:D} (hu:P.underlying t=some (.array n e)) (h:okD P (f+1) t d) {i:Nat} (hi:i<n):okD P f e (d.fld i):=by
 unfold okD at h;rw [hu] at h
 obtain ⟨ds,rfl,hl,h⟩:=h
 refine h i _ ?_
 show ds[i]? =some (zad ds i)
 unfold zad
 rw [List.getElem?_eq_getElem (by omega)];rfl
theorem zxW {d:D} (h:okD Tryz.prog 20 48 d):zus d:=⟨λi hi=>zpb Tryz.underlying42 rfl rfl Tryz.underlying5 (zh6 Tryz.underlying48 h i hi)⟩
theorem zxX {d:D} (h:okD Tryz.prog 20 65 d):u8S d:=⟨λi hi=>by
 have k:=zh6 Tryz.underlying65 h i hi
 exact ⟨zgs Tryz.underlying5 (zsC Tryz.underlying72 k (i:=0) (by omega)),zgs Tryz.underlying5 (zsC Tryz.underlying72 k (i:=1) (by omega))⟩⟩
end
end Go.Ev

end

section
open Go.Proofs Go.Proofs.YtdojhafbgoimeaaGreatDoor
namespace Go.Ev
noncomputable section
open Go.ChangeShapes Go.WideShapes Go.ChangeAt Go.RowKit
theorem zqv {P:Program} {w:World} {n e:Nat} {k:IntKind} {t:TypeId} {fuel:Nat} {cs:List Value} {zs:List Int} {p:List MemPlace} {enc:TypeId×Value->Unit} {base:Nat} {sp:Nat->Bool} {held:Bool}
  (ht:P.underlying t=some (.array n e)) (he:P.underlying e=some (.int k)) (hc1:P.cellsOf e=1) (hct:P.cellsOf t=n)
  (h:DataW.trod enc P w base sp held fuel t cs=some (.agg (zs.map λz=> .lit (.int k z)),p)):cs=zs.map (Value.int k):=by
 obtain ⟨xs,m,_,ex,hlen,hxl,hel⟩:=DataW.trod_array ht h
 have e3:(zs.map λz=>(DataW.lit (.int k z):DataW Unit))=xs.map (·.1):=DataW.agg.inj (Prod.mk.inj ex).1
 have hzl:zs.length=n:=by have:=congrArg List.length e3;simp at this;omega
 rw [hct] at hlen
 refine List.ext_getElem? λi=> ?_
 by_cases hi:i<n
 .have k0:=hel i hi
  rw [hc1,Nat.mul_one,List.getElem?_eq_getElem (by omega:i<xs.length)] at k0
  obtain ⟨z,e1,e2,_⟩:=DataW.trod_int he k0
  have h0:((cs.drop i).take 1)[0]? =some (.int k z):=by rw [e1];rfl
  have h1:cs[i]? =some (.int k z):=by simpa using h0
  have h2:(zs.map λz=>(DataW.lit (.int k z):DataW Unit))[i]? =(xs.map (·.1))[i]? :=by rw [e3]
  rw [List.getElem?_map,List.getElem?_map,List.getElem?_eq_getElem (by omega:i<zs.length),List.getElem?_eq_getElem (by omega:i<xs.length),e2] at h2
  simp only [Option.map_some,Option.some.injEq,DataW.lit.injEq,Lit.int.injEq,true_and] at h2
  rw [h1,List.getElem?_map,List.getElem?_eq_getElem (by omega:i<zs.length),Option.map_some,h2]
 .rw [List.getElem?_eq_none (by omega),List.getElem?_eq_none (by simp;omega)]
theorem zqE {s:ByteArray} {l:List UInt8} (h:s.data.toList=l):s=⟨⟨l⟩⟩:=by subst h;rfl
theorem zmw {P:Program} {w:World} {t ts ti tb:TypeId} {fuel:Nat} {c:List Value} {s:List UInt8} {a b:Int} {x y z:Bool} {p:List MemPlace} {enc:TypeId×Value->Unit} {base:Nat} {sp:Nat->Bool} {held:Bool} {fs:Array Field} {f0 f1 f2 f3 f4 f5:Field}
  (ht:P.underlying t=some (.struct fs)) (hf:fs= #[f0,f1,f2,f3,f4,f5]) (ho:f0.offset=0/\f1.offset=1/\f2.offset=2/\f3.offset=3/\f4.offset=4/\f5.offset=5)
  (hty:f0.type=ts/\f1.type=ti/\f2.type=ti/\f3.type=tb/\f4.type=tb/\f5.type=tb) (hs:P.underlying ts=some .string) (hi:P.underlying ti=some (.int .i64)) (hb:P.underlying tb=some .bool)
  (hc:P.cellsOf ts=1/\P.cellsOf ti=1/\P.cellsOf tb=1/\P.cellsOf t=6)
  (h:DataW.trod enc P w base sp held fuel t c=some (.agg [.lit (.string s),.lit (.int .i64 a),.lit (.int .i64 b),.lit (.bool x),.lit (.bool y),.lit (.bool z)],p)):
  c= [.string ⟨⟨s⟩⟩,.int .i64 a,.int .i64 b,.bool x,.bool y,.bool z]:=by
 obtain ⟨xs,m,_,ex,hlen,hxl,hel⟩:=DataW.trod_struct ht h
 subst hf
 rw [hc.2.2.2] at hlen
 have hxl:xs.length=6:=hxl
 match xs,hxl with
 | [x0,x1,x2,x3,x4,x5],_=>
  have e3:=DataW.agg.inj (Prod.mk.inj ex).1
  simp only [List.map_cons,List.map_nil,List.cons.injEq,and_true] at e3
  obtain ⟨g0,g1,g2,g3,g4,g5⟩:=e3
  match c,hlen with
  | [c0,c1,c2,c3,c4,c5],_=>
   have k0:=hel 0 f0 rfl
   have k1:=hel 1 f1 rfl
   have k2:=hel 2 f2 rfl
   have k3:=hel 3 f3 rfl
   have k4:=hel 4 f4 rfl
   have k5:=hel 5 f5 rfl
   rw [ho.1,hty.1,hc.1] at k0
   rw [ho.2.1,hty.2.1,hc.2.1] at k1
   rw [ho.2.2.1,hty.2.2.1,hc.2.1] at k2
   rw [ho.2.2.2.1,hty.2.2.2.1,hc.2.2.1] at k3
   rw [ho.2.2.2.2.1,hty.2.2.2.2.1,hc.2.2.1] at k4
   rw [ho.2.2.2.2.2,hty.2.2.2.2.2,hc.2.2.1] at k5
   obtain ⟨v0,d0,q0,_⟩:=DataW.trod_string hs k0
   obtain ⟨v1,d1,q1,_⟩:=DataW.trod_int hi k1
   obtain ⟨v2,d2,q2,_⟩:=DataW.trod_int hi k2
   obtain ⟨v3,d3,q3⟩:=DataW.trod_bool hb k3
   obtain ⟨v4,d4,q4⟩:=DataW.trod_bool hb k4
   obtain ⟨v5,d5,q5⟩:=DataW.trod_bool hb k5
   have d0:c0= .string v0:=(List.cons.inj d0).1
   have d1:c1= .int .i64 v1:=(List.cons.inj d1).1
   have d2:c2= .int .i64 v2:=(List.cons.inj d2).1
   have d3:c3= .bool v3:=(List.cons.inj d3).1
   have d4:c4= .bool v4:=(List.cons.inj d4).1
   have d5:c5= .bool v5:=(List.cons.inj d5).1
   subst q0 q1 q2 q3 q4 q5
   have r0:=Lit.string.inj (DataW.lit.inj g0)
   have r1:=(Lit.int.inj (DataW.lit.inj g1)).2
   have r2:=(Lit.int.inj (DataW.lit.inj g2)).2
   have r3:=Lit.bool.inj (DataW.lit.inj g3)
   have r4:=Lit.bool.inj (DataW.lit.inj g4)
   have r5:=Lit.bool.inj (DataW.lit.inj g5)
   subst r1 r2 r3 r4 r5
   rw [d0,d1,d2,d3,d4,d5,zqE r0.symm]
theorem zlh {α:Type} {k:Nat}:∀(n:Nat) {a b:List α},a.length=n*k->b.length=n*k->(∀i,i<n->(a.drop (i*k)).take k=(b.drop (i*k)).take k)->a=b
 |0,a,b,ha,hb,_=>by rw [List.eq_nil_of_length_eq_zero (by omega:a.length=0),List.eq_nil_of_length_eq_zero (by omega:b.length=0)]
 |n+1,a,b,ha,hb,h=>by
  have h0:=h 0 (by omega)
  rw [Nat.zero_mul,List.drop_zero,List.drop_zero] at h0
  have ha':a.length=n*k+k:=by rw [ha,Nat.succ_mul]
  have hb':b.length=n*k+k:=by rw [hb,Nat.succ_mul]
  have h1:a.drop k=b.drop k:=zlh (k:=k) n (by rw [List.length_drop];omega) (by rw [List.length_drop];omega) λi hi=>by
   have:=h (i+1) (by omega)
   rw [List.drop_drop,List.drop_drop]
   rw [Nat.succ_mul,Nat.add_comm] at this
   exact this
  rw [<-List.take_append_drop k a,<-List.take_append_drop k b,h0,h1]
def zsI:List Int:= [1,10,100,1000,10000,100000,1000000,10000000,100000000,1000000000,10000000000,100000000000,1000000000000,10000000000000,100000000000000,1000000000000000,10000000000000000,100000000000000000,1000000000000000000,10000000000000000000]
abbrev ztL:List (String×DataW Unit):=Rows.courtMovedRow.laid
theorem zrC {W:World} (h:laidMetH Tryz.prog ztL W):∃cs,W.var? Tryz.prog "internal/strconv.uint64pow10" =some cs/\cs.toList=zsH:=by
 rw [MakeChecks.laidMetH_plain _ _ _ (by kernel_rfl)] at h
 obtain ⟨ps,hl,_,_⟩:=h
 obtain ⟨_,_,_,_,_,_,_,_,_,_,hl,_⟩:=hl
 obtain ⟨_,_,_,_,_,_,_,_,_,_,hl,_⟩:=hl
 obtain ⟨g,t,cs,fuel,p,q,hg,ht,hv,hd,_,_⟩:=hl
 obtain rfl:=Option.some.inj ((show Tryz.prog.globalNamed "internal/strconv.uint64pow10" =some 6 by kernel_rfl).symm.trans hg)
 obtain rfl:=Option.some.inj ((show (Tryz.prog.globals[6]?).map (·.type)=some 270 by kernel_rfl).symm.trans ht)
 refine ⟨cs,hv, ?_⟩
 have e:(Rows.laid_internal_strconv_uint64pow10:DataW Unit)= .agg (zsI.map λz=> .lit (.int .u64 z)):=by kernel_rfl
 rw [e] at hd
 exact zqv (zs:=zsI) (n:=20) (e:=254) Tryz.underlying270 Tryz.underlying254 (by kernel_rfl) (by kernel_rfl) hd
theorem zmx {W:World} (h:laidMetH Tryz.prog ztL W):∃cs,W.var? Tryz.prog "trestle/court.forms" =some cs/\cs.toList=zsl:=by
 rw [MakeChecks.laidMetH_plain _ _ _ (by kernel_rfl)] at h
 obtain ⟨ps,hl,_,_⟩:=h
 obtain ⟨_,_,_,_,_,_,_,_,_,_,hl,_⟩:=hl
 obtain ⟨_,_,_,_,_,_,_,_,_,_,hl,_⟩:=hl
 obtain ⟨_,_,_,_,_,_,_,_,_,_,hl,_⟩:=hl
 obtain ⟨_,_,_,_,_,_,_,_,_,_,hl,_⟩:=hl
 obtain ⟨_,_,_,_,_,_,_,_,_,_,hl,_⟩:=hl
 obtain ⟨_,_,_,_,_,_,_,_,_,_,hl,_⟩:=hl
 obtain ⟨g,t,cs,fuel,p,q,hg,ht,hv,hd,_,_⟩:=hl
 obtain rfl:=Option.some.inj ((show Tryz.prog.globalNamed "trestle/court.forms" =some 0 by kernel_rfl).symm.trans hg)
 obtain rfl:=Option.some.inj ((show (Tryz.prog.globals[0]?).map (·.type)=some 196 by kernel_rfl).symm.trans ht)
 refine ⟨cs,hv, ?_⟩
 obtain ⟨xs,m,_,ex,hlen,hxl,hel⟩:=DataW.trod_array Tryz.underlying196 hd
 have hc6:Tryz.prog.cellsOf 195=6:=by kernel_rfl
 rw [show Tryz.prog.cellsOf 196=66 by kernel_rfl] at hlen
 rw [hc6] at hel
 match xs,hxl with
 | [x0,x1,x2,x3,x4,x5,x6,x7,x8,x9,x10],_=>
  have e3:=DataW.agg.inj (Prod.mk.inj ex).1
  simp only [List.map_cons,List.map_nil,List.cons.injEq,and_true] at e3
  obtain ⟨g0,g1,g2,g3,g4,g5,g6,g7,g8,g9,g10⟩:=e3
  have one:∀{c:List Value} {x:DataW Unit×List MemPlace} {s:List UInt8} {a b:Int} {u v z:Bool},DataW.trod (λ_=>()) Tryz.prog W 0 (λ_=>true) false m 195 c=some x->DataW.agg [.lit (.string s),.lit (.int .i64 a),.lit (.int .i64 b),.lit (.bool u),.lit (.bool v),.lit (.bool z)]=x.1->c= [.string ⟨⟨s⟩⟩,.int .i64 a,.int .i64 b,.bool u,.bool v,.bool z]:=λ{c x s a b u v z} h1 h2=>by
   obtain ⟨x1,x2⟩:=x
   cases h2
   exact zmw Tryz.underlying195 rfl ⟨rfl,rfl,rfl,rfl,rfl,rfl⟩ ⟨rfl,rfl,rfl,rfl,rfl,rfl⟩ Tryz.underlying9 Tryz.underlying3 Tryz.underlying4 ⟨by kernel_rfl,by kernel_rfl,by kernel_rfl,hc6⟩ h1
  refine zlh (k:=6) 11 hlen (by rfl) λi hi=> ?_
  match i,hi with
  |0,h=>exact one (hel 0 h) g0
  |1,h=>exact one (hel 1 h) g1
  |2,h=>exact one (hel 2 h) g2
  |3,h=>exact one (hel 3 h) g3
  |4,h=>exact one (hel 4 h) g4
  |5,h=>exact one (hel 5 h) g5
  |6,h=>exact one (hel 6 h) g6
  |7,h=>exact one (hel 7 h) g7
  |8,h=>exact one (hel 8 h) g8
  |9,h=>exact one (hel 9 h) g9
  |10,h=>exact one (hel 10 h) g10
theorem zqb {W:World} (hsh:W.ShapedOpen Tryz.prog) {g e:Nat} {n:String} {cs:Array Value} (hg:Tryz.prog.globalNamed n=some g) (hlt:g<Tryz.prog.globals.size)
  (ht:(((begin Tryz.prog (λ_ _=>0) default).world.heap[g]?).bind Obj.row?).map (·.2)=some e) (hv:W.var? Tryz.prog n=some cs):∃arr fz,W.heap[g]? =some (.cells arr e fz)/\arr.toList=cs.toList:=by
 cases hr:((begin Tryz.prog (λ_ _=>0) default).world.heap[g]?).bind Obj.row? with
 |none=>rw [hr] at ht;cases ht
 |some y=>
  obtain ⟨zero,t⟩:=y
  rw [hr] at ht
  simp only [Option.map_some,Option.some.injEq] at ht
  subst ht
  obtain ⟨cs',h1,_,_⟩:=hsh.1 g zero _ hlt hr
  refine ⟨cs',_,h1, ?_⟩
  have:W.var? Tryz.prog n=some cs':=by
   unfold World.var?
   rw [hg]
   simp only [Option.bind_some,h1]
  rw [hv] at this
  rw [Option.some.inj this]
theorem laidG_of {W:World} (hsh:W.ShapedOpen Tryz.prog) (h:laidMetH Tryz.prog ztL W):LaidG W:=λx hx=>by
 rcases List.mem_cons.1 hx with hx|hx
 .subst hx
  refine ⟨by show 0<9;omega,by kernel_rfl, ?_⟩
  obtain ⟨cs,hv,hc⟩:=zmx h
  obtain ⟨arr,fz,h1,h2⟩:=zqb hsh (e:=196) (show Tryz.prog.globalNamed "trestle/court.forms" =some 0 by kernel_rfl) (Nat.le_of_ble_eq_true (by kernel_rfl)) (by kernel_rfl) hv
  exact ⟨arr,fz,h1,h2.trans hc⟩
 .have hx:=List.mem_singleton.1 hx
  subst hx
  refine ⟨by show 6<9;omega,by kernel_rfl, ?_⟩
  obtain ⟨cs,hv,hc⟩:=zrC h
  obtain ⟨arr,fz,h1,h2⟩:=zqb hsh (e:=270) (show Tryz.prog.globalNamed "internal/strconv.uint64pow10" =some 6 by kernel_rfl) (Nat.le_of_ble_eq_true (by kernel_rfl)) (by kernel_rfl) hv
  exact ⟨arr,fz,h1,h2.trans hc⟩
end
end Go.Ev

end
