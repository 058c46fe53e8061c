/- Part of the proof. -/
import Derived.Test.YtdojhafbgoimeaaGreatDoorCoreG26
open Go.Proofs
namespace Go.Ev
theorem zzx:zmf Tryz.prog {bits:=GB,fast:=true,ora:=λ_=>none}=true:=by kernel_rfl
theorem zto:Tryz.prog.follows .mixedOrders=true:=by kernel_rfl
theorem zcz {P:Program} {G:Msk} {out:Run} {k:Nat} {a b:Code} {F F1:zab} {h h1:zaa} (e:ze5 P G out k none a F h=some (.normal,F1,h1)):ze5 P G out (k+1) none (.seq a b) F h=ze5 P G out k none b F1 h1:=by
 show zdY (ze5 P G out k) none a b F h=_
 unfold zdY
 rw [e]
theorem zun:ze5 Tryz.prog GA OUT 100000000000000000000 none zi8 F0 h0=some (.ret,s8.1,s8.2):=by
 have t0:=(congrArg (λc=>ze5 Tryz.prog GA OUT 100000000000000000000 none c F0 h0) d0).trans (zcz (b:=b1) a0)
 have t1:=(congrArg (λc=>ze5 Tryz.prog GA OUT 99999999999999999999 none c s0.1 s0.2) d1).trans (zcz (b:=b2) a1)
 have t2:=(congrArg (λc=>ze5 Tryz.prog GA OUT 99999999999999999998 none c s1.1 s1.2) d2).trans (zcz (b:=b3) a2)
 have t3:=(congrArg (λc=>ze5 Tryz.prog GA OUT 99999999999999999997 none c s2.1 s2.2) d3).trans (zcz (b:=b4) a3)
 have t4:=(congrArg (λc=>ze5 Tryz.prog GA OUT 99999999999999999996 none c s3.1 s3.2) d4).trans (zcz (b:=b5) a4)
 have t5:=(congrArg (λc=>ze5 Tryz.prog GA OUT 99999999999999999995 none c s4.1 s4.2) d5).trans (zcz (b:=b6) a5)
 have t6:=(congrArg (λc=>ze5 Tryz.prog GA OUT 99999999999999999994 none c s5.1 s5.2) d6).trans (zcz (b:=b7) a6)
 have t7:=(congrArg (λc=>ze5 Tryz.prog GA OUT 99999999999999999993 none c s7.1 s7.2) d7).trans (zcz (b:=b8) a7)
 exact t0.trans (t1.trans (t2.trans (t3.trans (t4.trans (t5.trans (t6.trans (t7.trans a8)))))))
theorem zwi:cond (Nat.testBit GA.bits 18) Tryz.prog.funcs[18]? none=some fn9:=by kernel_rfl
theorem zrW:fn9.body=some zi8:=by kernel_rfl
theorem zlX:fn9.ntmps=105:=by kernel_rfl
theorem zwb:ev Tryz.prog GA 100=ze5 Tryz.prog GA OUT 100000000000000000000:=rfl
theorem zry {P:Program} {G:Msk} {run:Run} {g:FuncId} {args:Array Value} {h h' hh h2:zaa} {fn:Func} {body:Code} {F F1:zab} {v:Value}
  (e1:cond (Nat.testBit G.bits g) P.funcs[g]? none=some fn) (e2:fn.body=some body) (e3:(Nat.blt fn.ntmps args.size||Nat.blt 1000000 fn.ntmps)=false)
  (e4:frameOf fn.ntmps args=F) (e5:({h with wlow:=h.next}:zaa)=h') (e6:run none body F h'=some (.ret,F1,hh)) (e7:zbd (zhc P G run) hh F1.marks=some h2) (e8:zaU P h2 F1 fn=some v):
  zci P G run g args h=some (v,zdq G.fast h h2 v):=by
 unfold zci
 rw [e1]
 simp only [e2,e3,cond_false]
 rw [e4,e5,e6]
 simp only [e7,e8]
theorem zwc:ev Tryz.prog GA 100 none zi8 F0 h0=some (.ret,s8.1,s8.2):=(congrFun (congrFun (congrFun (congrFun zwb none) zi8) F0) h0).trans zun
theorem zwF:s8.1.marks= []:=rfl
theorem zzW:zaU Tryz.prog s8.2 s8.1 fn9=some (.bool true):=by kernel_rfl
theorem zuo:zci Tryz.prog GA (ev Tryz.prog GA 100) 18 ⟨[]⟩ GH=some (.bool true,zdq GA.fast GH s8.2 (.bool true)):=
 zry zwi zrW (by rw [zlX];rfl) (by rw [zlX];rfl) rfl zwc (by rw [zwF];rfl) zzW
theorem zyq:(flatR (.bool true)&&Nat.ble GH.next (zdq GA.fast GH s8.2 (.bool true)).wlow)=true:=by kernel_rfl
theorem zoQ {P:Program} {G:Msk} {d:Nat} {g:FuncId} {v:Value} {h:zaa} (e:zci P G (ev P G d) g ⟨[]⟩ GH=some (v,h)) (k:(flatR v&&Nat.ble GH.next h.wlow)=true):zjo P G d g []=some v:=by
 unfold zjo
 simp only [List.all_nil,cond_true]
 rw [e]
 simp only [k,cond_true]
theorem zrT:zjo Tryz.prog {bits:=GB,fast:=true,ora:=λ_=>none} 100 18 []=some (.bool true):=zoQ (G:=GA) zuo zyq
theorem znY:flatR (.bool true)=true/\∀n w,LaidG w->(∀w,(callFunc 18 #[]).run Tryz.prog w= .ok (.enter 18 #[]) w)/\CallsIn (FNC none) n Tryz.prog 18 #[] w (λe w'=>e= .returned (.bool true)/\(∀b,b<w.heap.size->w'.heap[b]? =w.heap[b]?)/\w.heap.size<=w'.heap.size/\w'.os=w.os/\w'.tape=w.tape/\Out w w'):=zp2 (P:=Tryz.prog) (GOK.of zzx) zto zrT
theorem zzU:GOK Tryz.prog {bits:=GB,fast:=false,ora:=λg=>cond (Nat.beq g 18) (some (.bool true)) none}:=by
 refine ⟨λg fn body hg hf hb=>(GOK.of zzx).1 g fn body hg hf hb,λg v h=> ?_,λg xs v h=> ?_,λg f h=> ?_,λg h=>absurd h Bool.false_ne_true⟩
 .cases hq:Nat.beq g 18 with
  |false=>simp only [hq,cond_false] at h;cases h
  |true=>
   simp only [hq,cond_true,Option.some.injEq] at h
   subst h
   rw [Nat.eq_of_beq_eq_true hq]
   exact znY
 .cases h
 .cases h
end Go.Ev
