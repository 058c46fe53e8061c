/- Part of the proof. -/
import Derived.Test.YtdojhafbgoimeaaGreatDoorCoreG25
open Go.Proofs
namespace Go.Ev
theorem zvI:zk7 Tryz.prog {bits:=GB,fast:=true,ora:=λ_=>none}=true:=by kernel_rfl
theorem zrc:Tryz.prog.follows .mixedOrders=true:=by kernel_rfl
theorem zcz {P:Program} {G:Msk} {out:Run} {k:Nat} {a b:Code} {F F1:zab} {h h1:zaa} (e:zeO P G out k none a F h=some (.normal,F1,h1)):zeO P G out (k+1) none (.seq a b) F h=zeO P G out k none b F1 h1:=by
 show zdS (zeO P G out k) none a b F h=_
 unfold zdS
 rw [e]
theorem zr3:zeO Tryz.prog GA OUT 100000000000000000000 none zir F0 h0=some (.ret,s8.1,s8.2):=by
 have t0:=(congrArg (λc=>zeO Tryz.prog GA OUT 100000000000000000000 none c F0 h0) d0).trans (zcz (b:=b1) a0)
 have t1:=(congrArg (λc=>zeO Tryz.prog GA OUT 99999999999999999999 none c s0.1 s0.2) d1).trans (zcz (b:=b2) a1)
 have t2:=(congrArg (λc=>zeO Tryz.prog GA OUT 99999999999999999998 none c s1.1 s1.2) d2).trans (zcz (b:=b3) a2)
 have t3:=(congrArg (λc=>zeO Tryz.prog GA OUT 99999999999999999997 none c s2.1 s2.2) d3).trans (zcz (b:=b4) a3)
 have t4:=(congrArg (λc=>zeO Tryz.prog GA OUT 99999999999999999996 none c s3.1 s3.2) d4).trans (zcz (b:=b5) a4)
 have t5:=(congrArg (λc=>zeO Tryz.prog GA OUT 99999999999999999995 none c s4.1 s4.2) d5).trans (zcz (b:=b6) a5)
 have t6:=(congrArg (λc=>zeO Tryz.prog GA OUT 99999999999999999994 none c s5.1 s5.2) d6).trans (zcz (b:=b7) a6)
 have t7:=(congrArg (λc=>zeO Tryz.prog GA OUT 99999999999999999993 none c s7.1 s7.2) d7).trans (zcz (b:=b8) a7)
 exact t0.trans (t1.trans (t2.trans (t3.trans (t4.trans (t5.trans (t6.trans (t7.trans a8)))))))
theorem zto:cond (Nat.testBit GA.bits 18) Tryz.prog.funcs[18]? none=some fn9:=by kernel_rfl
theorem zp5:fn9.body=some zir:=by kernel_rfl
theorem zkP:fn9.ntmps=105:=by kernel_rfl
theorem ztl:ev Tryz.prog GA 100=zeO Tryz.prog GA OUT 100000000000000000000:=rfl
theorem zpH {P:Program} {G:Msk} {run:Run} {g:FuncId} {args:Array Value} {h h' hh h2:zaa} {fn:Func} {body:Code} {F F1:zab} {v:Value}
  (e1:cond (Nat.testBit G.bits g) P.funcs[g]? none=some fn) (e2:fn.body=some body) (e3:(Nat.blt fn.ntmps args.size||Nat.blt 1000000 fn.ntmps)=false)
  (e4:frameOf fn.ntmps args=F) (e5:({h with wlow:=h.next}:zaa)=h') (e6:run none body F h'=some (.ret,F1,hh)) (e7:za9 (zgQ P G run) hh F1.marks=some h2) (e8:zaU P h2 F1 fn=some v):
  zcE P G run g args h=some (v,zdo G.fast h h2 v):=by
 unfold zcE
 rw [e1]
 simp only [e2,e3,cond_false]
 rw [e4,e5,e6]
 simp only [e7,e8]
theorem ztm:ev Tryz.prog GA 100 none zir F0 h0=some (.ret,s8.1,s8.2):=(congrFun (congrFun (congrFun (congrFun ztl none) zir) F0) h0).trans zr3
theorem ztB:s8.1.marks= []:=rfl
theorem zvY:zaU Tryz.prog s8.2 s8.1 fn9=some (.bool true):=by kernel_rfl
theorem zr4:zcE Tryz.prog GA (ev Tryz.prog GA 100) 18 ⟨[]⟩ GH=some (.bool true,zdo GA.fast GH s8.2 (.bool true)):=
 zpH zto zp5 (by rw [zkP];rfl) (by rw [zkP];rfl) rfl ztm (by rw [ztB];rfl) zvY
theorem zuM:(flatR (.bool true)&&Nat.ble GH.next (zdo GA.fast GH s8.2 (.bool true)).wlow)=true:=by kernel_rfl
theorem znJ {P:Program} {G:Msk} {d:Nat} {g:FuncId} {v:Value} {h:zaa} (e:zcE P G (ev P G d) g ⟨[]⟩ GH=some (v,h)) (k:(flatR v&&Nat.ble GH.next h.wlow)=true):ziH P G d g []=some v:=by
 unfold ziH
 simp only [List.all_nil,cond_true]
 rw [e]
 simp only [k,cond_true]
theorem zp1:ziH Tryz.prog {bits:=GB,fast:=true,ora:=λ_=>none} 100 18 []=some (.bool true):=znJ (G:=GA) zr4 zuM
theorem zmS:flatR (.bool true)=true/\∀n w,LaidG w->(∀w,(callFunc 18 #[]).run Tryz.prog w= .ok (.enter 18 #[]) w)/\CallsIn (FNC none) n Tryz.prog 18 #[] w (λe w'=>e= .returned (.bool true)/\(∀b,b<w.heap.size->w'.heap[b]? =w.heap[b]?)/\w.heap.size<=w'.heap.size/\w'.os=w.os/\w'.tape=w.tape/\Out w w'):=zou (P:=Tryz.prog) (GOK.of zvI) zrc zp1
theorem zvX:GOK Tryz.prog {bits:=GB,fast:=false,ora:=λg=>cond (Nat.beq g 18) (some (.bool true)) none}:=by
 refine ⟨λg fn body hg hf hb=>(GOK.of zvI).1 g fn body hg hf hb,λg v h=> ?_,λg xs v h=> ?_,λg f h=> ?_,λg h=>absurd h Bool.false_ne_true⟩
 .cases hq:Nat.beq g 18 with
  |false=>simp only [hq,cond_false] at h;cases h
  |true=>
   simp only [hq,cond_true,Option.some.injEq] at h
   subst h
   rw [Nat.eq_of_beq_eq_true hq]
   exact zmS
 .cases h
 .cases h
end Go.Ev
