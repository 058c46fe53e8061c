/- Part of the proof. -/
import Derived.Test.YtdojhafbgoimeaaGreatDoorCoreG25

section
open Go.Proofs
namespace Go.Ev
noncomputable section
def GB:Nat:=65185151242703554760590262029100101153646988597309960020356494379340201592426774597868716031
def GA:Msk:={bits:=GB,fast:=true,ora:=λ_=>none}
def OUT:Run:=ev Tryz.prog GA 99
theorem zq9:(Tryz.prog.funcs[18]?).isSome=true:=by kernel_rfl
def fn9:Func:=(Tryz.prog.funcs[18]?).get zq9
def ziR:Code:=match fn9.body with|some b=>b|none=> .skip
def hdC:Code->Code| .seq a _=>a|c=>c
def tlC:Code->Code| .seq _ b=>b|_=> .skip
def F0:zab:=frameOf 105 ⟨[]⟩
def h0:zaa:={GH with wlow:=GH.next}
def b1:Code:=tlC ziR
def b2:Code:=tlC b1
def b3:Code:=tlC b2
def b4:Code:=tlC b3
def b5:Code:=tlC b4
def b6:Code:=tlC b5
def b7:Code:=tlC b6
def b8:Code:=tlC b7
theorem d0:ziR= .seq (hdC ziR) b1:=by kernel_rfl
theorem d1:b1= .seq (hdC b1) b2:=by kernel_rfl
theorem d2:b2= .seq (hdC b2) b3:=by kernel_rfl
theorem d3:b3= .seq (hdC b3) b4:=by kernel_rfl
theorem d4:b4= .seq (hdC b4) b5:=by kernel_rfl
theorem d5:b5= .seq (hdC b5) b6:=by kernel_rfl
theorem d6:b6= .seq (hdC b6) b7:=by kernel_rfl
theorem d7:b7= .seq (hdC b7) b8:=by kernel_rfl
theorem a0:zeV Tryz.prog GA OUT 99999999999999999999 none (hdC ziR) F0 h0=some (.normal,s0.1,s0.2):=by kernel_rfl
theorem a1:zeV Tryz.prog GA OUT 99999999999999999998 none (hdC b1) s0.1 s0.2=some (.normal,s1.1,s1.2):=by kernel_rfl
theorem a2:zeV Tryz.prog GA OUT 99999999999999999997 none (hdC b2) s1.1 s1.2=some (.normal,s2.1,s2.2):=by kernel_rfl
theorem a3:zeV Tryz.prog GA OUT 99999999999999999996 none (hdC b3) s2.1 s2.2=some (.normal,s3.1,s3.2):=by kernel_rfl
theorem a4:zeV Tryz.prog GA OUT 99999999999999999995 none (hdC b4) s3.1 s3.2=some (.normal,s4.1,s4.2):=by kernel_rfl
end
end Go.Ev

end

section
open Go.Proofs
namespace Go.Ev
noncomputable section
theorem a5:zeV Tryz.prog GA OUT 99999999999999999994 none (hdC b5) s4.1 s4.2=some (.normal,s5.1,s5.2):=by kernel_rfl
theorem a6:zeV Tryz.prog GA OUT 99999999999999999993 none (hdC b6) s5.1 s5.2=some (.normal,s7.1,s7.2):=by kernel_rfl
theorem a7:zeV Tryz.prog GA OUT 99999999999999999992 none (hdC b7) s7.1 s7.2=some (.normal,s8.1,s8.2):=by kernel_rfl
theorem a8:zeV Tryz.prog GA OUT 99999999999999999992 none b8 s8.1 s8.2=some (.ret,s8.1,s8.2):=by kernel_rfl
end
end Go.Ev

end
