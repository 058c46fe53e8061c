/- Part of the proof. -/
import Derived.Test.YtdojhafbgoimeaaGreatDoorProg
import Derived.Test.YtdojhafbgoimeaaGreatDoorCoreG0
import Derived.Test.YtdojhafbgoimeaaGreatDoorCoreG2

section
open Go.Proofs
namespace Go.Ev
noncomputable section
def I (n:Nat):Value:= .int .i64 (Int.ofNat n)
def U (n:Nat):Value:= .int .u8 (Int.ofNat n)
def Bw1:ABk:=ABk.cells [.string ⟨#[]⟩,I 0,I 0,.bool false,.bool false,.bool false,.string ⟨#[114,97,110,107]⟩,I 0,I 0,.bool false,.bool true,.bool true,.string ⟨#[101,108,100,101,114]⟩,I 0,I 0,.bool false,.bool false,.bool false,.string ⟨#[121,111,117,116,104]⟩,I 0,I 0,.bool false,.bool false,.bool false,.string ⟨#[115,105,100,101]⟩,I 1,I 2,.bool true,.bool false,.bool false,.string ⟨#[104,111,115,116]⟩,I 0,I 0,.bool true,.bool false,.bool false,.string ⟨#[116,111,110,103,117,101]⟩,I 0,I 0,.bool true,.bool true,.bool false,.string ⟨#[99,111,117,114,116]⟩,I 0,I 0,.bool true,.bool true,.bool false,.string ⟨#[110,97,109,101]⟩,I 0,I 0,.bool false,.bool false,.bool false,.string ⟨#[108,105,115,116]⟩,I 0,I 0,.bool false,.bool false,.bool false,.string ⟨#[108,111,116]⟩,I 0,I 63,.bool false,.bool false,.bool false] 196 0 none true
def Bw2:ABk:=ABk.cells [.int .u64 (Int.ofNat 1),.int .u64 (Int.ofNat 10),.int .u64 (Int.ofNat 100),.int .u64 (Int.ofNat 1000),.int .u64 (Int.ofNat 10000),.int .u64 (Int.ofNat 100000),.int .u64 (Int.ofNat 1000000),.int .u64 (Int.ofNat 10000000),.int .u64 (Int.ofNat 100000000),.int .u64 (Int.ofNat 1000000000),.int .u64 (Int.ofNat 10000000000),.int .u64 (Int.ofNat 100000000000),.int .u64 (Int.ofNat 1000000000000),.int .u64 (Int.ofNat 10000000000000),.int .u64 (Int.ofNat 100000000000000),.int .u64 (Int.ofNat 1000000000000000),.int .u64 (Int.ofNat 10000000000000000),.int .u64 (Int.ofNat 100000000000000000),.int .u64 (Int.ofNat 1000000000000000000),.int .u64 (Int.ofNat 10000000000000000000)] 270 0 none true
def Bw3:ABk:=ABk.cells [.string ⟨#[97,100,97]⟩,.string ⟨#[99,111,117,110,116]⟩,.string ⟨#[]⟩,I 0,I 2,.string ⟨#[]⟩,.bool false,.bool false,.slice none 0 0,.string ⟨#[98,101,97]⟩,.string ⟨#[100,117,107,101]⟩,.string ⟨#[]⟩,I 1700,I 0,.string ⟨#[]⟩,.bool false,.bool false,.slice none 0 0,.string ⟨#[99,121,114]⟩,.string ⟨#[100,117,107,101]⟩,.string ⟨#[]⟩,I 1650,I 0,.string ⟨#[]⟩,.bool false,.bool false,.slice none 0 0,.string ⟨#[100,97,110]⟩,.string ⟨#[]⟩,.string ⟨#[]⟩,I 0,I 1,.string ⟨#[]⟩,.bool false,.bool false,.slice none 0 0,.string ⟨#[101,118,97]⟩,.string ⟨#[99,111,117,110,116]⟩,.string ⟨#[]⟩,I 0,I 1,.string ⟨#[]⟩,.bool false,.bool false,.slice none 0 0] 53 9 none false
def Bw4:ABk:=ABk.cells [U 1,.string ⟨#[]⟩,.bool false,.slice (some ⟨9,0,none⟩) 2 2,I 0,U 2,.string ⟨#[100,117,107,101]⟩,.bool false,.slice none 0 0,I 0,U 4,.string ⟨#[]⟩,.bool false,.slice none 0 0,I 1,U 8,.string ⟨#[]⟩,.bool false,.slice none 0 0,I 0] 69 5 none false
def Bw5:ABk:=ABk.cells [.string ⟨#[100,117,107,101]⟩,.string ⟨#[99,111,117,110,116]⟩] 9 1 none false
def Bw6:ABk:=ABk.cells [U 1,.string ⟨#[]⟩,.bool false,.slice (some ⟨231,0,none⟩) 2 18446744073709551616,I 0,U 2,.string ⟨#[100,117,107,101]⟩,.bool false,.slice none 0 0,I 0,U 4,.string ⟨#[]⟩,.bool false,.slice none 0 0,I 1,U 8,.string ⟨#[]⟩,.bool false,.slice none 0 0,I 0] 69 5 (some 240) false
def Bw7:ABk:=ABk.cells [I 2,I 1,I 0,I 3,I 2] 3 1 none false
def Bw8:ABk:=ABk.cells [I 2,I 1,I 4,I 0,I 3] 3 1 (some 96) false
def Bw9:ABk:=ABk.cells [U 1,.string ⟨#[]⟩,.bool false,.slice (some ⟨231,0,none⟩) 2 18446744073709551616,I 0,U 2,.string ⟨#[100,117,107,101]⟩,.bool false,.slice none 0 0,I 0,U 4,.string ⟨#[]⟩,.bool false,.slice none 0 0,I 1] 69 5 (some 243) false
def zvF:ABk:=ABk.cells [I 2,I 1,I 4,I 0] 3 1 (some 97) false
def zxG:ABk:=ABk.cells [I 2,I 1,I 4,I 0,I 3] 3 1 none false
def zxH:ABk:=ABk.cells [I 0,I 1,I 2] 3 1 (some 148) false
def zxI:ABk:=ABk.cells [I 0,I 1] 3 1 (some 150) false
def zxJ:ABk:=ABk.cells [I 0,I 1,I 2] 3 1 none false
def sL (b o n c:Nat):Value:= .slice (some ⟨b,o,none⟩) n c
def tN {α:Type} (x:α):T α:=T.leaf.node (some x) T.leaf
def tE {α:Type}:T α:=T.leaf
def znK:Value:= .tuple {toList:= [sL 97 0 5 18446744073709551616,I 0]}
def zlA:Value:= .tuple {toList:= [sL 10 0 4 4,sL 11 0 5 5]}
def zrf:Value:= .tuple {toList:= [.slice none 0 0,I 32]}
def zsV:Value:= .tuple {toList:= [I 2,I 1]}
def zxh:Value:= .tuple {toList:= [sL 243 0 4 18446744073709551616,I 0,I 0]}
def s0:zab×zaa:=(⟨105,tN (.bool false),[]⟩,⟨tE.node (some Bw1) (tE.node none (tN Bw2)),9,9⟩)
def s1:zab×zaa:=(⟨105,((((tN (sL 11 0 5 5)).node none tE).node none tE).node (some (sL 10 0 4 4)) (tE.node none (tN zlA))).node (some (.bool false)) ((tE.node none (tN zlA)).node (some (sL 11
0 5 5)) (tE.node none (tN (sL 10 0 4 4)))),[]⟩,⟨((tE.node none (tN Bw3)).node none ((tN Bw5).node none tE)).node (some Bw1) (tE.node none ((tN Bw4).node (some Bw2) tE)),12,9⟩)
def s2:zab×zaa:=(⟨105,((((tN (sL 11 0 5 5)).node none tE).node (some (sL 97 0 5 18446744073709551616)) ((tN znK).node none tE)).node (some (sL 10 0 4 4)) (((tN (sL 10 0 4 4)).node none tE).node
none ((tN (I 0)).node (some zlA) tE))).node (some (.bool false)) ((((tN znK).node none tE).node (some (I 0)) ((tN (sL 97 0 5 18446744073709551616)).node (some zlA) tE)).node (some (sL 11 0 5 5)) (((tN (sL 11 0 5
5)).node none tE).node none (tN (sL 10 0 4 4)))),[]⟩,⟨((tE.node none (tN Bw3)).node none ((((tE.node none (tN Bw8)).node none tE).node (some Bw5) tE).node none tE)).node (some Bw1) (((((tE.node none (tN zvF)).node
none tE).node none tE).node none tE).node none ((tN Bw4).node (some Bw2) tE)),98,9⟩)
def s3:zab×zaa:=(⟨105,((((tN (sL 11 0 5 5)).node none (tN (sL 10 0 4 4))).node (some (sL 97 0 5 18446744073709551616)) ((tN znK).node none (tN (.slice none 0 0)))).node (some (sL 10 0 4 4))
(((tN (sL 10 0 4 4)).node none (tN (sL 11 0 5 5))).node (some (.slice none 0 0)) ((tN (I 0)).node (some zlA) tE))).node (some (.bool false)) ((((tN znK).node none (tN (sL 10 0 2 4))).node (some (I 0)) ((tN (sL 97 0 5
18446744073709551616)).node (some zlA) (tN (I 32)))).node (some (sL 11 0 5 5)) (((tN (sL 11 0 5 5)).node none (tN zrf)).node (some (I 32)) ((tN zrf).node (some (sL 10 0 4 4)) tE))),[]⟩,⟨((tE.node none (tN Bw3)).node
none ((((tE.node none (tN Bw8)).node none tE).node (some Bw5) tE).node none tE)).node (some Bw1) (((((tE.node none (tN zvF)).node none tE).node none tE).node none tE).node none ((tN Bw4).node (some Bw2) tE)),98,9⟩)
def s4:zab×zaa:=(⟨105,(((((tN (sL 11 0 5 5)).node (some (sL 11 0 5 5)) tE).node (some (I 2)) ((tN (I 1)).node (some (sL 10 0 4 4)) tE)).node (some (sL 97 0 5 18446744073709551616)) (((tN
(.pointer (some ⟨11,36,none⟩))).node (some znK) tE).node none (tN (.slice none 0 0)))).node (some (sL 10 0 4 4)) ((((tN (.agg {toList:= [.string ⟨#[97,100,97]⟩,.string ⟨#[99,111,117,110,116]⟩,.string ⟨#[]⟩,
I 0,I 2,.string ⟨#[]⟩,.bool false,.bool false,.slice none 0 0]})).node (some (sL 10 0 4 4)) tE).node none (tN (sL 11 0 5 5))).node (some (.slice none 0 0)) (((tN zsV).node (some (I 0)) tE).node (some zlA) (tN
zsV)))).node (some (.bool false)) (((((tN (.pointer (some ⟨11,0,none⟩))).node (some znK) tE).node (some (I 1)) (tN (sL 10 0 2 4))).node (some (I 0)) (((tN (.agg {toList:= [.string ⟨#[101,118,97]⟩,.string ⟨#[99,
111,117,110,116]⟩,.string ⟨#[]⟩,I 0,I 1,.string ⟨#[]⟩,.bool false,.bool false,.slice none 0 0]})).node (some (sL 97 0 5 18446744073709551616)) tE).node (some zlA) (tN (I 32)))).node (some (sL 11 0 5 5))
((((tN (sL 11 0 5 5)).node (some (sL 11 0 5 5)) tE).node none (tN zrf)).node (some (I 32)) (((tN (I 2)).node (some zrf) tE).node (some (sL 10 0 4 4)) (tN (sL 10 0 4 4))))),[]⟩,⟨((tE.node none (tN Bw3)).node none
((((tE.node none (tN Bw8)).node none tE).node (some Bw5) tE).node none tE)).node (some Bw1) (((((tE.node none (tN zvF)).node none tE).node none tE).node none tE).node none ((tN Bw4).node (some Bw2) tE)),98,9⟩)
def s5:zab×zaa:=(⟨105,((((((tN (sL 150 0 3 18446744073709551616)).node (some (sL 11 0 5 5)) tE).node (some (sL 11 0 5 5)) (tN (.bool false))).node (some (I 2)) (((tN (sL 11 0 5 5)).node (some (I
1)) tE).node (some (sL 10 0 4 4)) (tN (.bool false)))).node (some (sL 97 0 5 18446744073709551616)) ((((tN (.bool false)).node (some (.pointer (some ⟨11,36,none⟩))) tE).node (some znK) (tN (.bool false))).node none
(((tN (.bool false)).node (some (sL 97 0 5 18446744073709551616)) tE).node (some (.slice none 0 0)) (tN (.bool false))))).node (some (sL 10 0 4 4)) (((((tN (.bool true)).node (some (.agg {toList:= [.string ⟨#[97,100,
97]⟩,.string ⟨#[99,111,117,110,116]⟩,.string ⟨#[]⟩,I 0,I 2,.string ⟨#[]⟩,.bool false,.bool false,.slice none 0 0]})) tE).node (some (sL 10 0 4 4)) (tN (I 32))).node none (((tN (sL 222 0 5 5)).node (some
(.bool false)) tE).node (some (sL 11 0 5 5)) (tN (I 1)))).node (some (.slice none 0 0)) ((((tN (sL 10 0 4 4)).node (some zsV) tE).node (some (I 0)) (tN (I 2))).node (some zlA) ((tN (.bool true)).node (some zsV) (tN
(sL 10 0 4 4)))))).node (some (.bool false)) ((((((tN (sL 151 0 3 3)).node (some (.pointer (some ⟨11,0,none⟩))) tE).node (some znK) (tN (.bool false))).node (some (I 1)) (((tN (sL 152 0 5 5)).node (some (I 0))
tE).node (some (sL 10 0 2 4)) (tN (.bool false)))).node (some (I 0)) ((((tN (.bool false)).node (some (.agg {toList:= [.string ⟨#[101,118,97]⟩,.string ⟨#[99,111,117,110,116]⟩,.string ⟨#[]⟩,I 0,I 1,.string
⟨#[]⟩,.bool false,.bool false,.slice none 0 0]})) tE).node (some (sL 97 0 5 18446744073709551616)) (tN (.bool false))).node (some zlA) (((tN (.bool false)).node (some (sL 98 0 5 5)) tE).node (some (I 32)) (tN (.bool
false))))).node (some (sL 11 0 5 5)) (((((tN (.bool false)).node (some (sL 11 0 5 5)) tE).node (some (sL 11 0 5 5)) (tN (.bool false))).node none (((tN (.bool true)).node (some (.bool false)) tE).node (some zrf) (tN
(.bool false)))).node (some (I 32)) ((((tN (sL 10 0 2 4)).node (some (I 2)) tE).node (some zrf) (tN (.bool false))).node (some (sL 10 0 4 4)) ((tN (.bool false)).node (some (sL 10 0 4 4)) (tN (sL 11 0 5 5)))))),[]⟩,
⟨(((tE.node none (tE.node none (((tN zxJ).node none tE).node none tE))).node none (tN Bw3)).node none ((((tE.node none (tN Bw8)).node none tE).node (some Bw5) tE).node none tE)).node (some Bw1) (((((tE.node none (tN
zvF)).node none tE).node none (tE.node none (((tN Bw7).node none tE).node none tE))).node none ((tE.node none (((tN zxI).node none tE).node none tE)).node none tE)).node none ((((tE.node none (tN zxG)).node none
tE).node (some Bw4) tE).node (some Bw2) ((tE.node none (((tN zxH).node none tE).node none tE)).node none (tE.node none ((tE.node none (tN Bw7)).node none tE))))),223,9⟩)
def s7:zab×zaa:=(⟨105,((((((tN (sL 150 0 3 18446744073709551616)).node (some (sL 11 0 5 5)) tE).node (some (sL 11 0 5 5)) ((tN (sL 243 0 4 18446744073709551616)).node (some (.bool false))
tE)).node (some (I 2)) (((tN (sL 11 0 5 5)).node (some (I 1)) tE).node (some (sL 10 0 4 4)) (tN (.bool false)))).node (some (sL 97 0 5 18446744073709551616)) ((((tN (.bool false)).node (some (.pointer (some ⟨11,36,
none⟩))) tE).node (some znK) (tN (.bool false))).node (some (I 0)) (((tN (.bool false)).node (some (sL 97 0 5 18446744073709551616)) tE).node (some (.slice none 0 0)) (tN (.bool false))))).node (some (sL 10 0 4 4))
(((((tN (.bool true)).node (some (.agg {toList:= [.string ⟨#[97,100,97]⟩,.string ⟨#[99,111,117,110,116]⟩,.string ⟨#[]⟩,I 0,I 2,.string ⟨#[]⟩,.bool false,.bool false,.slice none 0 0]})) tE).node (some (sL
10 0 4 4)) ((tN (I 0)).node (some (I 32)) tE)).node (some (sL 243 0 4 18446744073709551616)) (((tN (sL 222 0 5 5)).node (some (.bool false)) tE).node (some (sL 11 0 5 5)) (tN (I 1)))).node (some (.slice none 0 0)) ((((tN
(sL 10 0 4 4)).node (some zsV) tE).node (some (I 0)) (tN (I 2))).node (some zlA) (((tN zxh).node (some (.bool true)) tE).node (some zsV) (tN (sL 10 0 4 4)))))).node (some (.bool false)) ((((((tN (sL 151 0 3 3)).node
(some (.pointer (some ⟨11,0,none⟩))) tE).node (some znK) ((tN (I 0)).node (some (.bool false)) tE)).node (some (I 1)) (((tN (sL 152 0 5 5)).node (some (I 0)) tE).node (some (sL 10 0 2 4)) (tN (.bool false)))).node
(some (I 0)) ((((tN (.bool false)).node (some (.agg {toList:= [.string ⟨#[101,118,97]⟩,.string ⟨#[99,111,117,110,116]⟩,.string ⟨#[]⟩,I 0,I 1,.string ⟨#[]⟩,.bool false,.bool false,.slice none 0 0]}))
tE).node (some (sL 97 0 5 18446744073709551616)) (tN (.bool false))).node (some zlA) (((tN (.bool false)).node (some (sL 98 0 5 5)) tE).node (some (I 32)) (tN (.bool false))))).node (some (sL 11 0 5 5)) (((((tN (.bool
false)).node (some (sL 11 0 5 5)) tE).node (some (sL 11 0 5 5)) (tN (.bool false))).node (some (I 0)) (((tN (.bool true)).node (some (.bool false)) tE).node (some zrf) (tN (.bool false)))).node (some (I 32)) ((((tN (sL
10 0 2 4)).node (some (I 2)) tE).node (some zrf) (tN (.bool false))).node (some (sL 10 0 4 4)) (((tN zxh).node (some (.bool false)) tE).node (some (sL 10 0 4 4)) (tN (sL 11 0 5 5)))))),[]⟩,⟨(((tE.node none ((tE.node
none (tE.node none (tN Bw5))).node none (((tN zxJ).node none tE).node none tE))).node none ((tE.node none (tE.node none (tE.node none (tN Bw6)))).node (some Bw3) tE)).node none ((((tE.node none (tN Bw8)).node none
tE).node (some Bw5) tE).node none tE)).node (some Bw1) (((((tE.node none (tN zvF)).node none (tE.node none (tE.node none (tN Bw9)))).node none (tE.node none (((tN Bw7).node none tE).node none tE))).node none ((tE.node
none (((tN zxI).node none tE).node none tE)).node none tE)).node none ((((tE.node none (tN zxG)).node none tE).node (some Bw4) tE).node (some Bw2) ((tE.node none (((tN zxH).node none tE).node none tE)).node none
(tE.node none ((tE.node none (tN Bw7)).node none tE))))),244,9⟩)
def s8:zab×zaa:=(⟨105,((((((tN (sL 150 0 3 18446744073709551616)).node (some (sL 11 0 5 5)) (tN (sL 10 5 3 3))).node (some (sL 11 0 5 5)) ((tN (sL 243 0 4 18446744073709551616)).node (some
(.bool false)) tE)).node (some (I 2)) (((tN (sL 11 0 5 5)).node (some (I 1)) (tN (.bool true))).node (some (sL 10 0 4 4)) ((tN (.bool true)).node (some (.bool false)) tE))).node (some (sL 97 0 5 18446744073709551616))
((((tN (.bool false)).node (some (.pointer (some ⟨11,36,none⟩))) (tN (.bool true))).node (some znK) ((tN (.bool true)).node (some (.bool false)) tE)).node (some (I 0)) (((tN (.bool false)).node (some (sL 97 0 5
18446744073709551616)) tE).node (some (.slice none 0 0)) ((tN (.bool true)).node (some (.bool false)) tE)))).node (some (sL 10 0 4 4)) (((((tN (.bool true)).node (some (.agg {toList:= [.string ⟨#[97,100,97]⟩,.string
⟨#[99,111,117,110,116]⟩,.string ⟨#[]⟩,I 0,I 2,.string ⟨#[]⟩,.bool false,.bool false,.slice none 0 0]})) (tN (.bool true))).node (some (sL 10 0 4 4)) ((tN (I 0)).node (some (I 32)) tE)).node (some (sL 243 0 4
18446744073709551616)) (((tN (sL 222 0 5 5)).node (some (.bool false)) tE).node (some (sL 11 0 5 5)) ((tN (sL 243 0 4 18446744073709551616)).node (some (I 1)) tE))).node (some (.slice none 0 0)) ((((tN (sL 10 0 4
4)).node (some zsV) (tN (sL 245 0 5 5))).node (some (I 0)) ((tN (I 0)).node (some (I 2)) tE)).node (some zlA) (((tN zxh).node (some (.bool true)) tE).node (some zsV) ((tN (.bool true)).node (some (sL 10 0 4 4))
tE))))).node (some (.bool true)) ((((((tN (sL 151 0 3 3)).node (some (.pointer (some ⟨11,0,none⟩))) (tN (.string ⟨#[]⟩))).node (some znK) ((tN (I 0)).node (some (.bool false)) tE)).node (some (I 1)) (((tN (sL 152 0 5
5)).node (some (I 0)) (tN (.bool true))).node (some (sL 10 0 2 4)) ((tN (.bool true)).node (some (.bool false)) tE))).node (some (I 0)) ((((tN (.bool false)).node (some (.agg {toList:= [.string ⟨#[101,118,97]⟩,
.string ⟨#[99,111,117,110,116]⟩,.string ⟨#[]⟩,I 0,I 1,.string ⟨#[]⟩,.bool false,.bool false,.slice none 0 0]})) (tN (sL 244 0 5 5))).node (some (sL 97 0 5 18446744073709551616)) ((tN (.bool true)).node (some
(.bool false)) tE)).node (some zlA) (((tN (.bool false)).node (some (sL 98 0 5 5)) tE).node (some (I 32)) ((tN (.bool true)).node (some (.bool false)) tE)))).node (some (sL 11 0 5 5)) (((((tN (.bool false)).node (some
(sL 11 0 5 5)) (tN (.bool true))).node (some (sL 11 0 5 5)) ((tN (I 0)).node (some (.bool false)) tE)).node (some (I 0)) (((tN (.bool true)).node (some (.bool false)) tE).node (some zrf) ((tN (sL 10 0 4 4)).node (some
(.bool false)) tE))).node (some (I 32)) ((((tN (sL 10 0 2 4)).node (some (I 2)) (tN (I 4))).node (some zrf) ((tN (.bool true)).node (some (.bool false)) tE)).node (some (sL 10 0 4 4)) (((tN zxh).node (some (.bool
false)) tE).node (some (sL 10 0 4 4)) ((tN (sL 10 0 4 4)).node (some (sL 11 0 5 5)) tE))))),[]⟩,⟨(((tE.node none ((tE.node none (tE.node none (tN Bw5))).node none (((tN zxJ).node none tE).node none tE))).node none
((tE.node none (tE.node none (tE.node none (tN Bw6)))).node (some Bw3) tE)).node none ((((tE.node none (tN Bw8)).node none tE).node (some Bw5) tE).node none ((tE.node none (tE.node none (tE.node none (tN (ABk.cells [I 0,
I 1,I 2,I 3,I 4] 3 1 none false))))).node none tE))).node (some Bw1) (((((tE.node none (tN zvF)).node none (tE.node none (tE.node none (tN Bw9)))).node none (tE.node none (((tN Bw7).node none tE).node none tE))).node
none ((tE.node none (((tN zxI).node none tE).node none (tE.node none (tN Bw7)))).node none tE)).node none ((((tE.node none (tN zxG)).node none tE).node (some Bw4) tE).node (some Bw2) ((tE.node none (((tN zxH).node
none tE).node none tE)).node none (tE.node none ((tE.node none (tN Bw7)).node none tE))))),246,9⟩)
end
end Go.Ev

end

section
open Go.Proofs
namespace Go.Ev
noncomputable section
def GB:Nat:=65185151242703554760590262029100101153646988597309960020356494379340201592426774597868716031
def GA:Msk:={bits:=GB,fast:=true,ora:=λ_=>none}
def OUT:Run:=ev Tryz.prog GA 99
theorem zrX:(Tryz.prog.funcs[18]?).isSome=true:=by kernel_rfl
def fn9:Func:=(Tryz.prog.funcs[18]?).get zrX
def zi8:Code:=match fn9.body with|some b=>b|none=> .skip
def hdC:Code->Code| .seq a _=>a|c=>c
def tlC:Code->Code| .seq _ b=>b|_=> .skip
def F0:zab:=frameOf 105 ⟨[]⟩
def h0:zaa:={GH with wlow:=GH.next}
def b1:Code:=tlC zi8
def b2:Code:=tlC b1
def b3:Code:=tlC b2
def b4:Code:=tlC b3
def b5:Code:=tlC b4
def b6:Code:=tlC b5
def b7:Code:=tlC b6
def b8:Code:=tlC b7
theorem d0:zi8= .seq (hdC zi8) b1:=by kernel_rfl
theorem d1:b1= .seq (hdC b1) b2:=by kernel_rfl
theorem d2:b2= .seq (hdC b2) b3:=by kernel_rfl
theorem d3:b3= .seq (hdC b3) b4:=by kernel_rfl
theorem d4:b4= .seq (hdC b4) b5:=by kernel_rfl
theorem d5:b5= .seq (hdC b5) b6:=by kernel_rfl
theorem d6:b6= .seq (hdC b6) b7:=by kernel_rfl
theorem d7:b7= .seq (hdC b7) b8:=by kernel_rfl
theorem a0:ze5 Tryz.prog GA OUT 99999999999999999999 none (hdC zi8) F0 h0=some (.normal,s0.1,s0.2):=by kernel_rfl
theorem a1:ze5 Tryz.prog GA OUT 99999999999999999998 none (hdC b1) s0.1 s0.2=some (.normal,s1.1,s1.2):=by kernel_rfl
theorem a2:ze5 Tryz.prog GA OUT 99999999999999999997 none (hdC b2) s1.1 s1.2=some (.normal,s2.1,s2.2):=by kernel_rfl
theorem a3:ze5 Tryz.prog GA OUT 99999999999999999996 none (hdC b3) s2.1 s2.2=some (.normal,s3.1,s3.2):=by kernel_rfl
theorem a4:ze5 Tryz.prog GA OUT 99999999999999999995 none (hdC b4) s3.1 s3.2=some (.normal,s4.1,s4.2):=by kernel_rfl
end
end Go.Ev

end

section
open Go.Proofs
namespace Go.Ev
noncomputable section
theorem a5:ze5 Tryz.prog GA OUT 99999999999999999994 none (hdC b5) s4.1 s4.2=some (.normal,s5.1,s5.2):=by kernel_rfl
theorem a6:ze5 Tryz.prog GA OUT 99999999999999999993 none (hdC b6) s5.1 s5.2=some (.normal,s7.1,s7.2):=by kernel_rfl
theorem a7:ze5 Tryz.prog GA OUT 99999999999999999992 none (hdC b7) s7.1 s7.2=some (.normal,s8.1,s8.2):=by kernel_rfl
theorem a8:ze5 Tryz.prog GA OUT 99999999999999999992 none b8 s8.1 s8.2=some (.ret,s8.1,s8.2):=by kernel_rfl
end
end Go.Ev

end
