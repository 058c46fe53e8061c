/-
  Part of the engine that the claim is proved with: it states nothing of the document by itself.
-/
import Derived.Test.YtidhienppjdimaaGreatDoorCoreG26
open Go.Proofs
namespace Go.Ev
theorem okGB : okMask Tryz.prog { bits := GB, fast := true, ora := fun _ => none } = true := by kernel_rfl
theorem mixedT : Tryz.prog.follows .mixedOrders = true := by kernel_rfl
theorem evIn_seq {P : Program} {G : Msk} {out : Run} {k : Nat} {a b : Code} {F F1 : AFrame} {h h1 : AHeap} (e : evIn P G out k none a F h = some (.normal, F1, h1)) : evIn P G out (k + 1) none (.seq a b) F h = evIn P G out k none b F1 h1 := by
 show evSeq (evIn P G out k) none a b F h = _
 unfold evSeq
 rw [e]
theorem ev_body : evIn Tryz.prog GA OUT 1000000000000000 none body9 F0 h0 = some (.ret, s8.1, s8.2) := by
 have t0 := (congrArg (fun c => evIn Tryz.prog GA OUT 1000000000000000 none c F0 h0) d0).trans (evIn_seq (b := b1) a0)
 have t1 := (congrArg (fun c => evIn Tryz.prog GA OUT 999999999999999 none c s0.1 s0.2) d1).trans (evIn_seq (b := b2) a1)
 have t2 := (congrArg (fun c => evIn Tryz.prog GA OUT 999999999999998 none c s1.1 s1.2) d2).trans (evIn_seq (b := b3) a2)
 have t3 := (congrArg (fun c => evIn Tryz.prog GA OUT 999999999999997 none c s2.1 s2.2) d3).trans (evIn_seq (b := b4) a3)
 have t4 := (congrArg (fun c => evIn Tryz.prog GA OUT 999999999999996 none c s3.1 s3.2) d4).trans (evIn_seq (b := b5) a4)
 have t5 := (congrArg (fun c => evIn Tryz.prog GA OUT 999999999999995 none c s4.1 s4.2) d5).trans (evIn_seq (b := b6) a5)
 have t6 := (congrArg (fun c => evIn Tryz.prog GA OUT 999999999999994 none c s5.1 s5.2) d6).trans (evIn_seq (b := b7) a6)
 have t7 := (congrArg (fun c => evIn Tryz.prog GA OUT 999999999999993 none c s7.1 s7.2) d7).trans (evIn_seq (b := b8) a7)
 exact t0.trans (t1.trans (t2.trans (t3.trans (t4.trans (t5.trans (t6.trans (t7.trans a8)))))))
theorem fn9_at : cond (Nat.testBit GA.bits 10) Tryz.prog.funcs[10]? none = some fn9 := by kernel_rfl
theorem fn9_body : fn9.body = some body9 := by kernel_rfl
theorem fn9_tmps : fn9.ntmps = 105 := by kernel_rfl
theorem ev_100 : ev Tryz.prog GA 100 = evIn Tryz.prog GA OUT 1000000000000000 := rfl
theorem callF_eq {P : Program} {G : Msk} {run : Run} {g : FuncId} {args : Array Value} {h h' hh h2 : AHeap} {fn : Func} {body : Code} {F F1 : AFrame} {v : Value}
  (e1 : cond (Nat.testBit G.bits g) P.funcs[g]? none = some fn) (e2 : fn.body = some body) (e3 : (Nat.blt fn.ntmps args.size || Nat.blt 1000000 fn.ntmps) = false)
  (e4 : frameOf fn.ntmps args = F) (e5 : ({ h with wlow := h.next } : AHeap) = h') (e6 : run none body F h' = some (.ret, F1, hh)) (e7 : endMarks (dcall P G run) hh F1.marks = some h2) (e8 : resultsA P h2 F1 fn = some v) :
  callF P G run g args h = some (v, leave G.fast h h2 v) := by
 unfold callF
 rw [e1]
 simp only [e2, e3, cond_false]
 rw [e4, e5, e6]
 simp only [e7, e8]
theorem ev_run : ev Tryz.prog GA 100 none body9 F0 h0 = some (.ret, s8.1, s8.2) := (congrFun (congrFun (congrFun (congrFun ev_100 none) body9) F0) h0).trans ev_body
theorem marks8 : s8.1.marks = [] := rfl
theorem res8 : resultsA Tryz.prog s8.2 s8.1 fn9 = some (.bool true) := by kernel_rfl
theorem ev_call : callF Tryz.prog GA (ev Tryz.prog GA 100) 10 ⟨[]⟩ GH = some (.bool true, leave GA.fast GH s8.2 (.bool true)) :=
 callF_eq fn9_at fn9_body (by rw [fn9_tmps]; rfl) (by rw [fn9_tmps]; rfl) rfl ev_run (by rw [marks8]; rfl) res8
theorem left8 : (flatR (.bool true) && Nat.ble GH.next (leave GA.fast GH s8.2 (.bool true)).wlow) = true := by kernel_rfl
theorem evCall_eq {P : Program} {G : Msk} {d : Nat} {g : FuncId} {v : Value} {h : AHeap} (e : callF P G (ev P G d) g ⟨[]⟩ GH = some (v, h)) (k : (flatR v && Nat.ble GH.next h.wlow) = true) : evCall P G d g [] = some v := by
 unfold evCall
 simp only [List.all_nil, cond_true]
 rw [e]
 simp only [k, cond_true]
theorem ev_awake : evCall Tryz.prog { bits := GB, fast := true, ora := fun _ => none } 100 10 [] = some (.bool true) := evCall_eq (G := GA) ev_call left8
theorem awake_did : flatR (.bool true) = true ∧ ∀ n w, LaidG w → (∀ w, (callFunc 10 #[]).run Tryz.prog w = .ok (.enter 10 #[]) w) ∧ CallsIn (FNC none) n Tryz.prog 10 #[] w (fun e w' => e = .returned (.bool true) ∧ (∀ b, b < w.heap.size → w'.heap[b]? = w.heap[b]?) ∧ w.heap.size ≤ w'.heap.size ∧ w'.os = w.os ∧ w'.tape = w.tape ∧ Out w w') := ora_of_ev (P := Tryz.prog) (GOK.of okGB) mixedT ev_awake
theorem okGS : GOK Tryz.prog { bits := GB, fast := false, ora := fun g => cond (Nat.beq g 10) (some (.bool true)) none } := by
 refine ⟨fun g fn body hg hf hb => (GOK.of okGB).1 g fn body hg hf hb, fun g v h => ?_, fun g xs v h => ?_, fun g f h => ?_, fun g h => absurd h Bool.false_ne_true⟩
 ·cases hq : Nat.beq g 10 with
  | false => simp only [hq, cond_false] at h; cases h
  | true =>
   simp only [hq, cond_true, Option.some.injEq] at h
   subst h
   rw [Nat.eq_of_beq_eq_true hq]
   exact awake_did
 ·cases h
 ·cases h
end Go.Ev
