/- Part of the proof. -/
import Derived.Test.YtdojhafbgoimeaaGreatDoorCoreG29
import Derived.Test.YtdojhafbgoimeaaGreatDoorCoreG23
import Derived.Test.YtdojhafbgoimeaaGreatDoorCoreKit
import Derived.Test.YtdojhafbgoimeaaGreatDoorProg
import Derived.Test.YtdojhafbgoimeaaGreatDoorCoreG0
import Derived.Test.YtdojhafbgoimeaaGreatDoorCoreG2

section
open Go.Proofs
namespace Go.Ev
noncomputable section
set_option maxRecDepth 100000
set_option maxHeartbeats 4000000
def zu1 (c:D) (g:D):Prop:=
 eqN (liD (zar c) (cgD g)).fst (lrD c g).fst->((liD (zar c) (cgD g)).snd=(lrD c g).snd->zgb (zar c) (cgD g)/\zbJ (orD (zar c) (cgD g))/\(znF (orD (zar c) (cgD g)) D.nil->zgb (zar c) (cgD g)/\
 (clD (zar c) (cgD g)).len<=100/\(eqN (clD (zar c) (cgD g)) D.nil->zgb (zar c) (cgD g)/\(deD (zar c) (cgD g)).len<=100/\(eqN (deD (zar c) (cgD g)) D.nil->zan (zar c)/\(zcc (zar c) c->tgB
 (cgD g)/\(zeC (cgD g) g↔True))/\((zcc (zar c) c->False)->(false=true↔True)))/\((eqN (deD (zar c) (cgD g)) D.nil->False)->(false=true↔True)))/\((eqN (clD (zar c) (cgD g)) D.nil->False)->
 (false=true↔True)))/\((znF (orD (zar c) (cgD g)) D.nil->False)->(false=true↔True)))/\(((liD (zar c) (cgD g)).snd=(lrD c g).snd->False)->(false=true↔True))
theorem zzq:∀(c g:D),zac (zbp os4 c g) 3 (17:FuncId) [V.dat (22:TypeId) c,V.dat (23:TypeId) g] (V.prop True)=(zan c/\tgB g/\zgb (zar c) (cgD g)/\zgb c g/\zan c/\((zaK c).snd=0->
((g.len:Int)<=64->((zan c/\(zaK c).snd=0)/\tgG g/\g.len<=20)/\((zan c/\(zaK c).snd=0)/\tgG g/\g.len<=20)/\((0<=(g.len:Int)/\(g.len:Int)<=100)/\zws (roD c g) g.len)/\(liD (zar c) (cgD
g)).fst.len<=100/\(eqN (liD (zar c) (cgD g)).fst (lrD c g).fst->((liD (zar c) (cgD g)).snd=(lrD c g).snd->zgb (zar c) (cgD g)/\zbJ (orD (zar c) (cgD g))/\(znF (orD (zar c) (cgD g)) (roD c g)->
zgb (zar c) (cgD g)/\(clD (zar c) (cgD g)).len<=100/\(eqN (clD (zar c) (cgD g)) (crD (roD c g) g.len)->zgb (zar c) (cgD g)/\(deD (zar c) (cgD g)).len<=100/\(eqN (deD (zar c) (cgD g)) (zba (zbZ c g
c.len))->zan (zar c)/\(zcc (zar c) c->tgB (cgD g)/\(zeC (cgD g) g↔True))/\((zcc (zar c) c->False)->(false=true↔True)))/\((eqN (deD (zar c) (cgD g)) (zba (zbZ c g c.len))->False)->
(false=true↔True)))/\((eqN (clD (zar c) (cgD g)) (crD (roD c g) g.len)->False)->(false=true↔True)))/\((znF (orD (zar c) (cgD g)) (roD c g)->False)->(false=true↔True)))/\(((liD (zar c) (cgD
g)).snd=(lrD c g).snd->False)->(false=true↔True)))/\((eqN (liD (zar c) (cgD g)).fst (lrD c g).fst->False)->(false=true↔True)))/\(((g.len:Int)<=64->False)->(liD (zar c) (cgD g)).fst.len<=100/\
(zu1 c g)/\((eqN (liD (zar c) (cgD g)).fst (lrD c g).fst->False)->(false=true↔True))))/\(((zaK c).snd=0->False)->(liD (zar c) (cgD g)).fst.len<=100/\(zu1 c g)/\((eqN (liD (zar c) (cgD g)).fst
(lrD c g).fst->False)->(false=true↔True)))):=by intros;kernel_rfl
theorem s17 (c g:D) (hc:zkH c) (hB:tgB g) (hg:g.len<=64->zfQ g 12):zac (zbp os4 c g) 3 17 [.dat 22 c,.dat 23 g] (.prop True):=by
 have hp:=zwt hc hB hg
 have hq:=zsd hp
 have hs:=hp.out.1
 have fin:((zcc (zar c) c->tgB (cgD g)/\(zeC (cgD g) g↔True))/\((zcc (zar c) c->False)->(false=true↔True))):=⟨λ_=>⟨zsl hB,ntT (zk6 g)⟩,noH (zwn c)⟩
 have h1:eqN (liD (zar c) (cgD g)).fst (lrD c g).fst:=by rw [zwK];exact zfu _
 have h2:(liD (zar c) (cgD g)).snd=(lrD c g).snd:=by rw [zwK]
 have hcl:(clD (zar c) (cgD g)).len<=100:=by have:=zwE (zar c) (cgD g);rw [zcC] at this;have:=zve hp;omega
 have hde:(deD (zar c) (cgD g)).len<=100:=by have:=zwH (zar c) (cgD g);rw [zbB] at this;have:=hs.out.1;omega
 have g1:¬okO c g->zu1 c g:=λh=>by
  have e1:orD (zar c) (cgD g)= .nil:=by unfold orD;rw [if_neg λk=>h (zdu.1 k)]
  have e2:clD (zar c) (cgD g)= .nil:=by unfold clD;rw [if_neg λk=>h (zdu.1 k)]
  have e3:deD (zar c) (cgD g)= .nil:=by unfold deD;rw [if_neg λk=>h (zdu.1 k)]
  have h3:znF (orD (zar c) (cgD g)) .nil:=by rw [e1];exact zjX _
  have h4:eqN (clD (zar c) (cgD g)) .nil:=by rw [e2];exact zfu _
  have h5:eqN (deD (zar c) (cgD g)) .nil:=by rw [e3];exact zfu _
  exact λ_=>⟨λ_=>⟨hq,zr0 hq,λ_=>⟨hq,hcl,λ_=>⟨hq,hde,λ_=>⟨zlO hs,fin⟩,noH h5⟩,noH h4⟩,noH h3⟩,noH h2⟩
 rw [zzq]
 refine ⟨hs,hB,hq,hp,hs,λhb=>⟨λhl=> ?_,λhl=>⟨zq6 hq,g1 λk=>hl (by have:=k.out.1;omega),noH h1⟩⟩,λhb=>⟨zq6 hq,g1 λk=>hb k.out.2,noH h1⟩⟩
 have k:okO c g:=⟨by omega,hb⟩
 have hz:=zhn hp k.out.1
 have h3:znF (orD (zar c) (cgD g)) (roD c g):=by rw [zlz,zky k];exact zjX _
 have h4:=zxJ k
 have h5:eqN (deD (zar c) (cgD g)) (zba (zbZ c g c.len)):=by rw [zvw];unfold deD;rw [if_pos k];exact zfu _
 refine ⟨⟨⟨hs,hb⟩,hz.2,hz.1⟩,⟨⟨hs,hb⟩,hz.2,hz.1⟩,⟨⟨by omega,by omega⟩,by rw [zky k];exact zvF k hz.1⟩,zq6 hq,λ_=>⟨λ_=>⟨hq,zr0 hq,λ_=>⟨hq,hcl,λ_=>⟨hq,hde,λ_=>⟨zlO hs,fin⟩,noH h5⟩,noH h4⟩,noH h3⟩,noH h2⟩,noH h1⟩
end
end Go.Ev

end

section
open Go.Proofs
namespace Go.Ev
noncomputable section
structure tgC (g:D):Prop where
 out:∀i,i<g.len->(gAt (el g i)).tg.len<=8796093022208
def zpv:Con:=λ| [.dat 23 l,.int .i64 n]=>some (l.len<=64,.prop (zfQ l n))|_=>none
def zvQ:Con:=λ| [.dat 22 _,.dat 23 g]=>some (tgC g,.prop True)|_=>none
def os5:FuncId->Option Con
 |15=>some zso
 |16=>some (zy3 zpv)
 |17=>some zsP
 |_=>none
end
end Go.Ev

end

section
open Go.Proofs
namespace Go.Ev
noncomputable section
def I (n:Nat):Value:= .int .i64 (Int.ofNat n)
def U (n:Nat):Value:= .int .u8 (Int.ofNat n)
def Bw1:ABk:=ABk.cells [.string ⟨#[]⟩,I 0,I 0,.bool false,.bool false,.bool false,.string ⟨#[114,97,110,107]⟩,I 0,I 0,.bool false,.bool true,.bool true,.string ⟨#[101,108,100,101,114]⟩,I 0,I 0,.bool false,.bool false,.bool false,.string ⟨#[121,111,117,116,104]⟩,I 0,I 0,.bool false,.bool false,.bool false,.string ⟨#[115,105,100,101]⟩,I 1,I 2,.bool true,.bool false,.bool false,.string ⟨#[104,111,115,116]⟩,I 0,I 0,.bool true,.bool false,.bool false,.string ⟨#[116,111,110,103,117,101]⟩,I 0,I 0,.bool true,.bool true,.bool false,.string ⟨#[99,111,117,114,116]⟩,I 0,I 0,.bool true,.bool true,.bool false,.string ⟨#[110,97,109,101]⟩,I 0,I 0,.bool false,.bool false,.bool false,.string ⟨#[108,105,115,116]⟩,I 0,I 0,.bool false,.bool false,.bool false,.string ⟨#[108,111,116]⟩,I 0,I 63,.bool false,.bool false,.bool false] 196 0 none true
def Bw2:ABk:=ABk.cells [.int .u64 (Int.ofNat 1),.int .u64 (Int.ofNat 10),.int .u64 (Int.ofNat 100),.int .u64 (Int.ofNat 1000),.int .u64 (Int.ofNat 10000),.int .u64 (Int.ofNat 100000),.int .u64 (Int.ofNat 1000000),.int .u64 (Int.ofNat 10000000),.int .u64 (Int.ofNat 100000000),.int .u64 (Int.ofNat 1000000000),.int .u64 (Int.ofNat 10000000000),.int .u64 (Int.ofNat 100000000000),.int .u64 (Int.ofNat 1000000000000),.int .u64 (Int.ofNat 10000000000000),.int .u64 (Int.ofNat 100000000000000),.int .u64 (Int.ofNat 1000000000000000),.int .u64 (Int.ofNat 10000000000000000),.int .u64 (Int.ofNat 100000000000000000),.int .u64 (Int.ofNat 1000000000000000000),.int .u64 (Int.ofNat 10000000000000000000)] 270 0 none true
def Bw3:ABk:=ABk.cells [.string ⟨#[97,100,97]⟩,.string ⟨#[99,111,117,110,116]⟩,.string ⟨#[]⟩,I 0,I 2,.string ⟨#[]⟩,.bool false,.bool false,.slice none 0 0,.string ⟨#[98,101,97]⟩,.string ⟨#[100,117,107,101]⟩,.string ⟨#[]⟩,I 1700,I 0,.string ⟨#[]⟩,.bool false,.bool false,.slice none 0 0,.string ⟨#[99,121,114]⟩,.string ⟨#[100,117,107,101]⟩,.string ⟨#[]⟩,I 1650,I 0,.string ⟨#[]⟩,.bool false,.bool false,.slice none 0 0,.string ⟨#[100,97,110]⟩,.string ⟨#[]⟩,.string ⟨#[]⟩,I 0,I 1,.string ⟨#[]⟩,.bool false,.bool false,.slice none 0 0,.string ⟨#[101,118,97]⟩,.string ⟨#[99,111,117,110,116]⟩,.string ⟨#[]⟩,I 0,I 1,.string ⟨#[]⟩,.bool false,.bool false,.slice none 0 0] 53 9 none false
def Bw4:ABk:=ABk.cells [U 1,.string ⟨#[]⟩,.bool false,.slice (some ⟨9,0,none⟩) 2 2,I 0,U 2,.string ⟨#[100,117,107,101]⟩,.bool false,.slice none 0 0,I 0,U 4,.string ⟨#[]⟩,.bool false,.slice none 0 0,I 1,U 8,.string ⟨#[]⟩,.bool false,.slice none 0 0,I 0] 69 5 none false
def Bw5:ABk:=ABk.cells [.string ⟨#[100,117,107,101]⟩,.string ⟨#[99,111,117,110,116]⟩] 9 1 none false
def Bw6:ABk:=ABk.cells [U 1,.string ⟨#[]⟩,.bool false,.slice (some ⟨231,0,none⟩) 2 18446744073709551616,I 0,U 2,.string ⟨#[100,117,107,101]⟩,.bool false,.slice none 0 0,I 0,U 4,.string ⟨#[]⟩,.bool false,.slice none 0 0,I 1,U 8,.string ⟨#[]⟩,.bool false,.slice none 0 0,I 0] 69 5 (some 240) false
def Bw7:ABk:=ABk.cells [I 2,I 1,I 0,I 3,I 2] 3 1 none false
def Bw8:ABk:=ABk.cells [I 2,I 1,I 4,I 0,I 3] 3 1 (some 96) false
def Bw9:ABk:=ABk.cells [U 1,.string ⟨#[]⟩,.bool false,.slice (some ⟨231,0,none⟩) 2 18446744073709551616,I 0,U 2,.string ⟨#[100,117,107,101]⟩,.bool false,.slice none 0 0,I 0,U 4,.string ⟨#[]⟩,.bool false,.slice none 0 0,I 1] 69 5 (some 243) false
def zvT:ABk:=ABk.cells [I 2,I 1,I 4,I 0] 3 1 (some 97) false
def zyn:ABk:=ABk.cells [I 2,I 1,I 4,I 0,I 3] 3 1 none false
def zxE:ABk:=ABk.cells [I 0,I 1,I 2] 3 1 (some 148) false
def zxp:ABk:=ABk.cells [I 0,I 1] 3 1 (some 150) false
def zxF:ABk:=ABk.cells [I 0,I 1,I 2] 3 1 none false
def sL (b o n c:Nat):Value:= .slice (some ⟨b,o,none⟩) n c
def tN {α:Type} (x:α):T α:=T.leaf.node (some x) T.leaf
def tE {α:Type}:T α:=T.leaf
def zoi:Value:= .tuple {toList:= [sL 97 0 5 18446744073709551616,I 0]}
def zl5:Value:= .tuple {toList:= [sL 10 0 4 4,sL 11 0 5 5]}
def zrx:Value:= .tuple {toList:= [.slice none 0 0,I 32]}
def ztp:Value:= .tuple {toList:= [I 2,I 1]}
def zxf:Value:= .tuple {toList:= [sL 243 0 4 18446744073709551616,I 0,I 0]}
def s0:zab×zaa:=(⟨105,tN (.bool false),[]⟩,⟨tE.node (some Bw1) (tE.node none (tN Bw2)),9,9⟩)
def s1:zab×zaa:=(⟨105,((((tN (sL 11 0 5 5)).node none tE).node none tE).node (some (sL 10 0 4 4)) (tE.node none (tN zl5))).node (some (.bool false)) ((tE.node none (tN zl5)).node (some (sL 11
0 5 5)) (tE.node none (tN (sL 10 0 4 4)))),[]⟩,⟨((tE.node none (tN Bw3)).node none ((tN Bw5).node none tE)).node (some Bw1) (tE.node none ((tN Bw4).node (some Bw2) tE)),12,9⟩)
def s2:zab×zaa:=(⟨105,((((tN (sL 11 0 5 5)).node none tE).node (some (sL 97 0 5 18446744073709551616)) ((tN zoi).node none tE)).node (some (sL 10 0 4 4)) (((tN (sL 10 0 4 4)).node none tE).node
none ((tN (I 0)).node (some zl5) tE))).node (some (.bool false)) ((((tN zoi).node none tE).node (some (I 0)) ((tN (sL 97 0 5 18446744073709551616)).node (some zl5) tE)).node (some (sL 11 0 5 5)) (((tN (sL 11 0 5
5)).node none tE).node none (tN (sL 10 0 4 4)))),[]⟩,⟨((tE.node none (tN Bw3)).node none ((((tE.node none (tN Bw8)).node none tE).node (some Bw5) tE).node none tE)).node (some Bw1) (((((tE.node none (tN zvT)).node
none tE).node none tE).node none tE).node none ((tN Bw4).node (some Bw2) tE)),98,9⟩)
def s3:zab×zaa:=(⟨105,((((tN (sL 11 0 5 5)).node none (tN (sL 10 0 4 4))).node (some (sL 97 0 5 18446744073709551616)) ((tN zoi).node none (tN (.slice none 0 0)))).node (some (sL 10 0 4 4))
(((tN (sL 10 0 4 4)).node none (tN (sL 11 0 5 5))).node (some (.slice none 0 0)) ((tN (I 0)).node (some zl5) tE))).node (some (.bool false)) ((((tN zoi).node none (tN (sL 10 0 2 4))).node (some (I 0)) ((tN (sL 97 0 5
18446744073709551616)).node (some zl5) (tN (I 32)))).node (some (sL 11 0 5 5)) (((tN (sL 11 0 5 5)).node none (tN zrx)).node (some (I 32)) ((tN zrx).node (some (sL 10 0 4 4)) tE))),[]⟩,⟨((tE.node none (tN Bw3)).node
none ((((tE.node none (tN Bw8)).node none tE).node (some Bw5) tE).node none tE)).node (some Bw1) (((((tE.node none (tN zvT)).node none tE).node none tE).node none tE).node none ((tN Bw4).node (some Bw2) tE)),98,9⟩)
def s4:zab×zaa:=(⟨105,(((((tN (sL 11 0 5 5)).node (some (sL 11 0 5 5)) tE).node (some (I 2)) ((tN (I 1)).node (some (sL 10 0 4 4)) tE)).node (some (sL 97 0 5 18446744073709551616)) (((tN
(.pointer (some ⟨11,36,none⟩))).node (some zoi) tE).node none (tN (.slice none 0 0)))).node (some (sL 10 0 4 4)) ((((tN (.agg {toList:= [.string ⟨#[97,100,97]⟩,.string ⟨#[99,111,117,110,116]⟩,.string ⟨#[]⟩,
I 0,I 2,.string ⟨#[]⟩,.bool false,.bool false,.slice none 0 0]})).node (some (sL 10 0 4 4)) tE).node none (tN (sL 11 0 5 5))).node (some (.slice none 0 0)) (((tN ztp).node (some (I 0)) tE).node (some zl5) (tN
ztp)))).node (some (.bool false)) (((((tN (.pointer (some ⟨11,0,none⟩))).node (some zoi) tE).node (some (I 1)) (tN (sL 10 0 2 4))).node (some (I 0)) (((tN (.agg {toList:= [.string ⟨#[101,118,97]⟩,.string ⟨#[99,
111,117,110,116]⟩,.string ⟨#[]⟩,I 0,I 1,.string ⟨#[]⟩,.bool false,.bool false,.slice none 0 0]})).node (some (sL 97 0 5 18446744073709551616)) tE).node (some zl5) (tN (I 32)))).node (some (sL 11 0 5 5))
((((tN (sL 11 0 5 5)).node (some (sL 11 0 5 5)) tE).node none (tN zrx)).node (some (I 32)) (((tN (I 2)).node (some zrx) tE).node (some (sL 10 0 4 4)) (tN (sL 10 0 4 4))))),[]⟩,⟨((tE.node none (tN Bw3)).node none
((((tE.node none (tN Bw8)).node none tE).node (some Bw5) tE).node none tE)).node (some Bw1) (((((tE.node none (tN zvT)).node none tE).node none tE).node none tE).node none ((tN Bw4).node (some Bw2) tE)),98,9⟩)
def s5:zab×zaa:=(⟨105,((((((tN (sL 150 0 3 18446744073709551616)).node (some (sL 11 0 5 5)) tE).node (some (sL 11 0 5 5)) (tN (.bool false))).node (some (I 2)) (((tN (sL 11 0 5 5)).node (some (I
1)) tE).node (some (sL 10 0 4 4)) (tN (.bool false)))).node (some (sL 97 0 5 18446744073709551616)) ((((tN (.bool false)).node (some (.pointer (some ⟨11,36,none⟩))) tE).node (some zoi) (tN (.bool false))).node none
(((tN (.bool false)).node (some (sL 97 0 5 18446744073709551616)) tE).node (some (.slice none 0 0)) (tN (.bool false))))).node (some (sL 10 0 4 4)) (((((tN (.bool true)).node (some (.agg {toList:= [.string ⟨#[97,100,
97]⟩,.string ⟨#[99,111,117,110,116]⟩,.string ⟨#[]⟩,I 0,I 2,.string ⟨#[]⟩,.bool false,.bool false,.slice none 0 0]})) tE).node (some (sL 10 0 4 4)) (tN (I 32))).node none (((tN (sL 222 0 5 5)).node (some
(.bool false)) tE).node (some (sL 11 0 5 5)) (tN (I 1)))).node (some (.slice none 0 0)) ((((tN (sL 10 0 4 4)).node (some ztp) tE).node (some (I 0)) (tN (I 2))).node (some zl5) ((tN (.bool true)).node (some ztp) (tN
(sL 10 0 4 4)))))).node (some (.bool false)) ((((((tN (sL 151 0 3 3)).node (some (.pointer (some ⟨11,0,none⟩))) tE).node (some zoi) (tN (.bool false))).node (some (I 1)) (((tN (sL 152 0 5 5)).node (some (I 0))
tE).node (some (sL 10 0 2 4)) (tN (.bool false)))).node (some (I 0)) ((((tN (.bool false)).node (some (.agg {toList:= [.string ⟨#[101,118,97]⟩,.string ⟨#[99,111,117,110,116]⟩,.string ⟨#[]⟩,I 0,I 1,.string
⟨#[]⟩,.bool false,.bool false,.slice none 0 0]})) tE).node (some (sL 97 0 5 18446744073709551616)) (tN (.bool false))).node (some zl5) (((tN (.bool false)).node (some (sL 98 0 5 5)) tE).node (some (I 32)) (tN (.bool
false))))).node (some (sL 11 0 5 5)) (((((tN (.bool false)).node (some (sL 11 0 5 5)) tE).node (some (sL 11 0 5 5)) (tN (.bool false))).node none (((tN (.bool true)).node (some (.bool false)) tE).node (some zrx) (tN
(.bool false)))).node (some (I 32)) ((((tN (sL 10 0 2 4)).node (some (I 2)) tE).node (some zrx) (tN (.bool false))).node (some (sL 10 0 4 4)) ((tN (.bool false)).node (some (sL 10 0 4 4)) (tN (sL 11 0 5 5)))))),[]⟩,
⟨(((tE.node none (tE.node none (((tN zxF).node none tE).node none tE))).node none (tN Bw3)).node none ((((tE.node none (tN Bw8)).node none tE).node (some Bw5) tE).node none tE)).node (some Bw1) (((((tE.node none (tN
zvT)).node none tE).node none (tE.node none (((tN Bw7).node none tE).node none tE))).node none ((tE.node none (((tN zxp).node none tE).node none tE)).node none tE)).node none ((((tE.node none (tN zyn)).node none
tE).node (some Bw4) tE).node (some Bw2) ((tE.node none (((tN zxE).node none tE).node none tE)).node none (tE.node none ((tE.node none (tN Bw7)).node none tE))))),223,9⟩)
def s7:zab×zaa:=(⟨105,((((((tN (sL 150 0 3 18446744073709551616)).node (some (sL 11 0 5 5)) tE).node (some (sL 11 0 5 5)) ((tN (sL 243 0 4 18446744073709551616)).node (some (.bool false))
tE)).node (some (I 2)) (((tN (sL 11 0 5 5)).node (some (I 1)) tE).node (some (sL 10 0 4 4)) (tN (.bool false)))).node (some (sL 97 0 5 18446744073709551616)) ((((tN (.bool false)).node (some (.pointer (some ⟨11,36,
none⟩))) tE).node (some zoi) (tN (.bool false))).node (some (I 0)) (((tN (.bool false)).node (some (sL 97 0 5 18446744073709551616)) tE).node (some (.slice none 0 0)) (tN (.bool false))))).node (some (sL 10 0 4 4))
(((((tN (.bool true)).node (some (.agg {toList:= [.string ⟨#[97,100,97]⟩,.string ⟨#[99,111,117,110,116]⟩,.string ⟨#[]⟩,I 0,I 2,.string ⟨#[]⟩,.bool false,.bool false,.slice none 0 0]})) tE).node (some (sL
10 0 4 4)) ((tN (I 0)).node (some (I 32)) tE)).node (some (sL 243 0 4 18446744073709551616)) (((tN (sL 222 0 5 5)).node (some (.bool false)) tE).node (some (sL 11 0 5 5)) (tN (I 1)))).node (some (.slice none 0 0)) ((((tN
(sL 10 0 4 4)).node (some ztp) tE).node (some (I 0)) (tN (I 2))).node (some zl5) (((tN zxf).node (some (.bool true)) tE).node (some ztp) (tN (sL 10 0 4 4)))))).node (some (.bool false)) ((((((tN (sL 151 0 3 3)).node
(some (.pointer (some ⟨11,0,none⟩))) tE).node (some zoi) ((tN (I 0)).node (some (.bool false)) tE)).node (some (I 1)) (((tN (sL 152 0 5 5)).node (some (I 0)) tE).node (some (sL 10 0 2 4)) (tN (.bool false)))).node
(some (I 0)) ((((tN (.bool false)).node (some (.agg {toList:= [.string ⟨#[101,118,97]⟩,.string ⟨#[99,111,117,110,116]⟩,.string ⟨#[]⟩,I 0,I 1,.string ⟨#[]⟩,.bool false,.bool false,.slice none 0 0]}))
tE).node (some (sL 97 0 5 18446744073709551616)) (tN (.bool false))).node (some zl5) (((tN (.bool false)).node (some (sL 98 0 5 5)) tE).node (some (I 32)) (tN (.bool false))))).node (some (sL 11 0 5 5)) (((((tN (.bool
false)).node (some (sL 11 0 5 5)) tE).node (some (sL 11 0 5 5)) (tN (.bool false))).node (some (I 0)) (((tN (.bool true)).node (some (.bool false)) tE).node (some zrx) (tN (.bool false)))).node (some (I 32)) ((((tN (sL
10 0 2 4)).node (some (I 2)) tE).node (some zrx) (tN (.bool false))).node (some (sL 10 0 4 4)) (((tN zxf).node (some (.bool false)) tE).node (some (sL 10 0 4 4)) (tN (sL 11 0 5 5)))))),[]⟩,⟨(((tE.node none ((tE.node
none (tE.node none (tN Bw5))).node none (((tN zxF).node none tE).node none tE))).node none ((tE.node none (tE.node none (tE.node none (tN Bw6)))).node (some Bw3) tE)).node none ((((tE.node none (tN Bw8)).node none
tE).node (some Bw5) tE).node none tE)).node (some Bw1) (((((tE.node none (tN zvT)).node none (tE.node none (tE.node none (tN Bw9)))).node none (tE.node none (((tN Bw7).node none tE).node none tE))).node none ((tE.node
none (((tN zxp).node none tE).node none tE)).node none tE)).node none ((((tE.node none (tN zyn)).node none tE).node (some Bw4) tE).node (some Bw2) ((tE.node none (((tN zxE).node none tE).node none tE)).node none
(tE.node none ((tE.node none (tN Bw7)).node none tE))))),244,9⟩)
def s8:zab×zaa:=(⟨105,((((((tN (sL 150 0 3 18446744073709551616)).node (some (sL 11 0 5 5)) (tN (sL 10 5 3 3))).node (some (sL 11 0 5 5)) ((tN (sL 243 0 4 18446744073709551616)).node (some
(.bool false)) tE)).node (some (I 2)) (((tN (sL 11 0 5 5)).node (some (I 1)) (tN (.bool true))).node (some (sL 10 0 4 4)) ((tN (.bool true)).node (some (.bool false)) tE))).node (some (sL 97 0 5 18446744073709551616))
((((tN (.bool false)).node (some (.pointer (some ⟨11,36,none⟩))) (tN (.bool true))).node (some zoi) ((tN (.bool true)).node (some (.bool false)) tE)).node (some (I 0)) (((tN (.bool false)).node (some (sL 97 0 5
18446744073709551616)) tE).node (some (.slice none 0 0)) ((tN (.bool true)).node (some (.bool false)) tE)))).node (some (sL 10 0 4 4)) (((((tN (.bool true)).node (some (.agg {toList:= [.string ⟨#[97,100,97]⟩,.string
⟨#[99,111,117,110,116]⟩,.string ⟨#[]⟩,I 0,I 2,.string ⟨#[]⟩,.bool false,.bool false,.slice none 0 0]})) (tN (.bool true))).node (some (sL 10 0 4 4)) ((tN (I 0)).node (some (I 32)) tE)).node (some (sL 243 0 4
18446744073709551616)) (((tN (sL 222 0 5 5)).node (some (.bool false)) tE).node (some (sL 11 0 5 5)) ((tN (sL 243 0 4 18446744073709551616)).node (some (I 1)) tE))).node (some (.slice none 0 0)) ((((tN (sL 10 0 4
4)).node (some ztp) (tN (sL 245 0 5 5))).node (some (I 0)) ((tN (I 0)).node (some (I 2)) tE)).node (some zl5) (((tN zxf).node (some (.bool true)) tE).node (some ztp) ((tN (.bool true)).node (some (sL 10 0 4 4))
tE))))).node (some (.bool true)) ((((((tN (sL 151 0 3 3)).node (some (.pointer (some ⟨11,0,none⟩))) (tN (.string ⟨#[]⟩))).node (some zoi) ((tN (I 0)).node (some (.bool false)) tE)).node (some (I 1)) (((tN (sL 152 0 5
5)).node (some (I 0)) (tN (.bool true))).node (some (sL 10 0 2 4)) ((tN (.bool true)).node (some (.bool false)) tE))).node (some (I 0)) ((((tN (.bool false)).node (some (.agg {toList:= [.string ⟨#[101,118,97]⟩,
.string ⟨#[99,111,117,110,116]⟩,.string ⟨#[]⟩,I 0,I 1,.string ⟨#[]⟩,.bool false,.bool false,.slice none 0 0]})) (tN (sL 244 0 5 5))).node (some (sL 97 0 5 18446744073709551616)) ((tN (.bool true)).node (some
(.bool false)) tE)).node (some zl5) (((tN (.bool false)).node (some (sL 98 0 5 5)) tE).node (some (I 32)) ((tN (.bool true)).node (some (.bool false)) tE)))).node (some (sL 11 0 5 5)) (((((tN (.bool false)).node (some
(sL 11 0 5 5)) (tN (.bool true))).node (some (sL 11 0 5 5)) ((tN (I 0)).node (some (.bool false)) tE)).node (some (I 0)) (((tN (.bool true)).node (some (.bool false)) tE).node (some zrx) ((tN (sL 10 0 4 4)).node (some
(.bool false)) tE))).node (some (I 32)) ((((tN (sL 10 0 2 4)).node (some (I 2)) (tN (I 4))).node (some zrx) ((tN (.bool true)).node (some (.bool false)) tE)).node (some (sL 10 0 4 4)) (((tN zxf).node (some (.bool
false)) tE).node (some (sL 10 0 4 4)) ((tN (sL 10 0 4 4)).node (some (sL 11 0 5 5)) tE))))),[]⟩,⟨(((tE.node none ((tE.node none (tE.node none (tN Bw5))).node none (((tN zxF).node none tE).node none tE))).node none
((tE.node none (tE.node none (tE.node none (tN Bw6)))).node (some Bw3) tE)).node none ((((tE.node none (tN Bw8)).node none tE).node (some Bw5) tE).node none ((tE.node none (tE.node none (tE.node none (tN (ABk.cells [I 0,
I 1,I 2,I 3,I 4] 3 1 none false))))).node none tE))).node (some Bw1) (((((tE.node none (tN zvT)).node none (tE.node none (tE.node none (tN Bw9)))).node none (tE.node none (((tN Bw7).node none tE).node none tE))).node
none ((tE.node none (((tN zxp).node none tE).node none (tE.node none (tN Bw7)))).node none tE)).node none ((((tE.node none (tN zyn)).node none tE).node (some Bw4) tE).node (some Bw2) ((tE.node none (((tN zxE).node
none tE).node none tE)).node none (tE.node none ((tE.node none (tN Bw7)).node none tE))))),246,9⟩)
end
end Go.Ev

end

section
open Go.Proofs
namespace Go.Ev
noncomputable section
def GB:Nat:=65185151242703554760590262029100101153646988597309960020356494379340201592426774597868716031
def GA:Msk:={bits:=GB,fast:=true,ora:=λ_=>none}
def OUT:Run:=ev Tryz.prog GA 99
theorem zsy:(Tryz.prog.funcs[18]?).isSome=true:=by kernel_rfl
def fn9:Func:=(Tryz.prog.funcs[18]?).get zsy
def zkq:Code:=match fn9.body with|some b=>b|none=> .skip
def hdC:Code->Code| .seq a _=>a|c=>c
def tlC:Code->Code| .seq _ b=>b|_=> .skip
def F0:zab:=frameOf 105 ⟨[]⟩
def h0:zaa:={GH with wlow:=GH.next}
def b1:Code:=tlC zkq
def b2:Code:=tlC b1
def b3:Code:=tlC b2
def b4:Code:=tlC b3
def b5:Code:=tlC b4
def b6:Code:=tlC b5
def b7:Code:=tlC b6
def b8:Code:=tlC b7
theorem d0:zkq= .seq (hdC zkq) b1:=by kernel_rfl
theorem d1:b1= .seq (hdC b1) b2:=by kernel_rfl
theorem d2:b2= .seq (hdC b2) b3:=by kernel_rfl
theorem d3:b3= .seq (hdC b3) b4:=by kernel_rfl
theorem d4:b4= .seq (hdC b4) b5:=by kernel_rfl
theorem d5:b5= .seq (hdC b5) b6:=by kernel_rfl
theorem d6:b6= .seq (hdC b6) b7:=by kernel_rfl
theorem d7:b7= .seq (hdC b7) b8:=by kernel_rfl
theorem a0:zfH Tryz.prog GA OUT 99999999999999999999 none (hdC zkq) F0 h0=some (.normal,s0.1,s0.2):=by kernel_rfl
theorem a1:zfH Tryz.prog GA OUT 99999999999999999998 none (hdC b1) s0.1 s0.2=some (.normal,s1.1,s1.2):=by kernel_rfl
theorem a2:zfH Tryz.prog GA OUT 99999999999999999997 none (hdC b2) s1.1 s1.2=some (.normal,s2.1,s2.2):=by kernel_rfl
theorem a3:zfH Tryz.prog GA OUT 99999999999999999996 none (hdC b3) s2.1 s2.2=some (.normal,s3.1,s3.2):=by kernel_rfl
theorem a4:zfH Tryz.prog GA OUT 99999999999999999995 none (hdC b4) s3.1 s3.2=some (.normal,s4.1,s4.2):=by kernel_rfl
end
end Go.Ev

end

section
open Go.Proofs
namespace Go.Ev
noncomputable section
theorem a5:zfH Tryz.prog GA OUT 99999999999999999994 none (hdC b5) s4.1 s4.2=some (.normal,s5.1,s5.2):=by kernel_rfl
theorem a6:zfH Tryz.prog GA OUT 99999999999999999993 none (hdC b6) s5.1 s5.2=some (.normal,s7.1,s7.2):=by kernel_rfl
theorem a7:zfH Tryz.prog GA OUT 99999999999999999992 none (hdC b7) s7.1 s7.2=some (.normal,s8.1,s8.2):=by kernel_rfl
theorem a8:zfH Tryz.prog GA OUT 99999999999999999992 none b8 s8.1 s8.2=some (.ret,s8.1,s8.2):=by kernel_rfl
end
end Go.Ev

end
