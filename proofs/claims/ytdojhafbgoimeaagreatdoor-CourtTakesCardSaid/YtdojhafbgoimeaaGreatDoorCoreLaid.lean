/- Part of the proof. -/
import Derived.Test.YtdojhafbgoimeaaGreatDoorRows
import Derived.Test.YtdojhafbgoimeaaGreatDoorCoreKit
import Derived.Test.YtdojhafbgoimeaaGreatDoorProg
import Derived.Test.YtdojhafbgoimeaaGreatDoorCoreG0
import Derived.OpenShut
import Derived.LaidSub
import Derived.MakeChecks
open Go.Proofs Go.Proofs.YtdojhafbgoimeaaGreatDoor
namespace Go.Ev
open Go.ChangeShapes Go.WideShapes Go.ChangeAt Go.RowKit
theorem zro {P:Program} {w:World} {n e:Nat} {k:IntKind} {t:TypeId} {fuel:Nat} {cs:List Value} {zs:List Int} {p:List MemPlace} {enc:TypeId×Value->Unit} {base:Nat} {sp:Nat->Bool} {held:Bool}
  (ht:P.underlying t=some (.array n e)) (he:P.underlying e=some (.int k)) (hc1:P.cellsOf e=1) (hct:P.cellsOf t=n)
  (h:DataW.trod enc P w base sp held fuel t cs=some (.agg (zs.map λz=> .lit (.int k z)),p)):cs=zs.map (Value.int k):=by
 obtain ⟨xs,m,_,ex,hlen,hxl,hel⟩:=DataW.trod_array ht h
 have e3:(zs.map λz=>(DataW.lit (.int k z):DataW Unit))=xs.map (·.1):=DataW.agg.inj (Prod.mk.inj ex).1
 have hzl:zs.length=n:=by have:=congrArg List.length e3;simp at this;omega
 rw [hct] at hlen
 refine List.ext_getElem? λi=> ?_
 by_cases hi:i<n
 .have k0:=hel i hi
  rw [hc1,Nat.mul_one,List.getElem?_eq_getElem (by omega:i<xs.length)] at k0
  obtain ⟨z,e1,e2,_⟩:=DataW.trod_int he k0
  have h0:((cs.drop i).take 1)[0]? =some (.int k z):=by rw [e1];rfl
  have h1:cs[i]? =some (.int k z):=by simpa using h0
  have h2:(zs.map λz=>(DataW.lit (.int k z):DataW Unit))[i]? =(xs.map (·.1))[i]? :=by rw [e3]
  rw [List.getElem?_map,List.getElem?_map,List.getElem?_eq_getElem (by omega:i<zs.length),List.getElem?_eq_getElem (by omega:i<xs.length),e2] at h2
  simp only [Option.map_some,Option.some.injEq,DataW.lit.injEq,Lit.int.injEq,true_and] at h2
  rw [h1,List.getElem?_map,List.getElem?_eq_getElem (by omega:i<zs.length),Option.map_some,h2]
 .rw [List.getElem?_eq_none (by omega),List.getElem?_eq_none (by simp;omega)]
theorem zrw {s:ByteArray} {l:List UInt8} (h:s.data.toList=l):s=⟨⟨l⟩⟩:=by subst h;rfl
theorem zm6 {P:Program} {w:World} {t ts ti tb:TypeId} {fuel:Nat} {c:List Value} {s:List UInt8} {a b:Int} {x y z:Bool} {p:List MemPlace} {enc:TypeId×Value->Unit} {base:Nat} {sp:Nat->Bool} {held:Bool} {fs:Array Field} {f0 f1 f2 f3 f4 f5:Field}
  (ht:P.underlying t=some (.struct fs)) (hf:fs= #[f0,f1,f2,f3,f4,f5]) (ho:f0.offset=0/\f1.offset=1/\f2.offset=2/\f3.offset=3/\f4.offset=4/\f5.offset=5)
  (hty:f0.type=ts/\f1.type=ti/\f2.type=ti/\f3.type=tb/\f4.type=tb/\f5.type=tb) (hs:P.underlying ts=some .string) (hi:P.underlying ti=some (.int .i64)) (hb:P.underlying tb=some .bool)
  (hc:P.cellsOf ts=1/\P.cellsOf ti=1/\P.cellsOf tb=1/\P.cellsOf t=6)
  (h:DataW.trod enc P w base sp held fuel t c=some (.agg [.lit (.string s),.lit (.int .i64 a),.lit (.int .i64 b),.lit (.bool x),.lit (.bool y),.lit (.bool z)],p)):
  c= [.string ⟨⟨s⟩⟩,.int .i64 a,.int .i64 b,.bool x,.bool y,.bool z]:=by
 obtain ⟨xs,m,_,ex,hlen,hxl,hel⟩:=DataW.trod_struct ht h
 subst hf
 rw [hc.2.2.2] at hlen
 have hxl:xs.length=6:=hxl
 match xs,hxl with
 | [x0,x1,x2,x3,x4,x5],_=>
  have e3:=DataW.agg.inj (Prod.mk.inj ex).1
  simp only [List.map_cons,List.map_nil,List.cons.injEq,and_true] at e3
  obtain ⟨g0,g1,g2,g3,g4,g5⟩:=e3
  match c,hlen with
  | [c0,c1,c2,c3,c4,c5],_=>
   have k0:=hel 0 f0 rfl
   have k1:=hel 1 f1 rfl
   have k2:=hel 2 f2 rfl
   have k3:=hel 3 f3 rfl
   have k4:=hel 4 f4 rfl
   have k5:=hel 5 f5 rfl
   rw [ho.1,hty.1,hc.1] at k0
   rw [ho.2.1,hty.2.1,hc.2.1] at k1
   rw [ho.2.2.1,hty.2.2.1,hc.2.1] at k2
   rw [ho.2.2.2.1,hty.2.2.2.1,hc.2.2.1] at k3
   rw [ho.2.2.2.2.1,hty.2.2.2.2.1,hc.2.2.1] at k4
   rw [ho.2.2.2.2.2,hty.2.2.2.2.2,hc.2.2.1] at k5
   obtain ⟨v0,d0,q0,_⟩:=DataW.trod_string hs k0
   obtain ⟨v1,d1,q1,_⟩:=DataW.trod_int hi k1
   obtain ⟨v2,d2,q2,_⟩:=DataW.trod_int hi k2
   obtain ⟨v3,d3,q3⟩:=DataW.trod_bool hb k3
   obtain ⟨v4,d4,q4⟩:=DataW.trod_bool hb k4
   obtain ⟨v5,d5,q5⟩:=DataW.trod_bool hb k5
   have d0:c0= .string v0:=(List.cons.inj d0).1
   have d1:c1= .int .i64 v1:=(List.cons.inj d1).1
   have d2:c2= .int .i64 v2:=(List.cons.inj d2).1
   have d3:c3= .bool v3:=(List.cons.inj d3).1
   have d4:c4= .bool v4:=(List.cons.inj d4).1
   have d5:c5= .bool v5:=(List.cons.inj d5).1
   subst q0 q1 q2 q3 q4 q5
   have r0:=Lit.string.inj (DataW.lit.inj g0)
   have r1:=(Lit.int.inj (DataW.lit.inj g1)).2
   have r2:=(Lit.int.inj (DataW.lit.inj g2)).2
   have r3:=Lit.bool.inj (DataW.lit.inj g3)
   have r4:=Lit.bool.inj (DataW.lit.inj g4)
   have r5:=Lit.bool.inj (DataW.lit.inj g5)
   subst r1 r2 r3 r4 r5
   rw [d0,d1,d2,d3,d4,d5,zrw r0.symm]
theorem zlL {α:Type} {k:Nat}:∀(n:Nat) {a b:List α},a.length=n*k->b.length=n*k->(∀i,i<n->(a.drop (i*k)).take k=(b.drop (i*k)).take k)->a=b
 |0,a,b,ha,hb,_=>by rw [List.eq_nil_of_length_eq_zero (by omega:a.length=0),List.eq_nil_of_length_eq_zero (by omega:b.length=0)]
 |n+1,a,b,ha,hb,h=>by
  have h0:=h 0 (by omega)
  rw [Nat.zero_mul,List.drop_zero,List.drop_zero] at h0
  have ha':a.length=n*k+k:=by rw [ha,Nat.succ_mul]
  have hb':b.length=n*k+k:=by rw [hb,Nat.succ_mul]
  have h1:a.drop k=b.drop k:=zlL (k:=k) n (by rw [List.length_drop];omega) (by rw [List.length_drop];omega) λi hi=>by
   have:=h (i+1) (by omega)
   rw [List.drop_drop,List.drop_drop]
   rw [Nat.succ_mul,Nat.add_comm] at this
   exact this
  rw [<-List.take_append_drop k a,<-List.take_append_drop k b,h0,h1]
def ztw:List Int:= [1,10,100,1000,10000,100000,1000000,10000000,100000000,1000000000,10000000000,100000000000,1000000000000,10000000000000,100000000000000,1000000000000000,10000000000000000,100000000000000000,1000000000000000000,10000000000000000000]
abbrev zuM:List (String×DataW Unit):=Rows.courtTakesRow.laid
theorem zsp {W:World} (h:laidMetH Tryz.prog zuM W):∃cs,W.var? Tryz.prog "internal/strconv.uint64pow10" =some cs/\cs.toList=ztv:=by
 rw [MakeChecks.laidMetH_plain _ _ _ (by kernel_rfl)] at h
 obtain ⟨ps,hl,_,_⟩:=h
 obtain ⟨_,_,_,_,_,_,_,_,_,_,hl,_⟩:=hl
 obtain ⟨_,_,_,_,_,_,_,_,_,_,hl,_⟩:=hl
 obtain ⟨g,t,cs,fuel,p,q,hg,ht,hv,hd,_,_⟩:=hl
 obtain rfl:=Option.some.inj ((show Tryz.prog.globalNamed "internal/strconv.uint64pow10" =some 6 by kernel_rfl).symm.trans hg)
 obtain rfl:=Option.some.inj ((show (Tryz.prog.globals[6]?).map (·.type)=some 270 by kernel_rfl).symm.trans ht)
 refine ⟨cs,hv, ?_⟩
 have e:(Rows.laid_internal_strconv_uint64pow10:DataW Unit)= .agg (ztw.map λz=> .lit (.int .u64 z)):=by kernel_rfl
 rw [e] at hd
 exact zro (zs:=ztw) (n:=20) (e:=254) Tryz.underlying270 Tryz.underlying254 (by kernel_rfl) (by kernel_rfl) hd
theorem zm7 {W:World} (h:laidMetH Tryz.prog zuM W):∃cs,W.var? Tryz.prog "trestle/court.forms" =some cs/\cs.toList=ztb:=by
 rw [MakeChecks.laidMetH_plain _ _ _ (by kernel_rfl)] at h
 obtain ⟨ps,hl,_,_⟩:=h
 obtain ⟨_,_,_,_,_,_,_,_,_,_,hl,_⟩:=hl
 obtain ⟨_,_,_,_,_,_,_,_,_,_,hl,_⟩:=hl
 obtain ⟨_,_,_,_,_,_,_,_,_,_,hl,_⟩:=hl
 obtain ⟨_,_,_,_,_,_,_,_,_,_,hl,_⟩:=hl
 obtain ⟨_,_,_,_,_,_,_,_,_,_,hl,_⟩:=hl
 obtain ⟨_,_,_,_,_,_,_,_,_,_,hl,_⟩:=hl
 obtain ⟨g,t,cs,fuel,p,q,hg,ht,hv,hd,_,_⟩:=hl
 obtain rfl:=Option.some.inj ((show Tryz.prog.globalNamed "trestle/court.forms" =some 0 by kernel_rfl).symm.trans hg)
 obtain rfl:=Option.some.inj ((show (Tryz.prog.globals[0]?).map (·.type)=some 196 by kernel_rfl).symm.trans ht)
 refine ⟨cs,hv, ?_⟩
 obtain ⟨xs,m,_,ex,hlen,hxl,hel⟩:=DataW.trod_array Tryz.underlying196 hd
 have hc6:Tryz.prog.cellsOf 195=6:=by kernel_rfl
 rw [show Tryz.prog.cellsOf 196=66 by kernel_rfl] at hlen
 rw [hc6] at hel
 match xs,hxl with
 | [x0,x1,x2,x3,x4,x5,x6,x7,x8,x9,x10],_=>
  have e3:=DataW.agg.inj (Prod.mk.inj ex).1
  simp only [List.map_cons,List.map_nil,List.cons.injEq,and_true] at e3
  obtain ⟨g0,g1,g2,g3,g4,g5,g6,g7,g8,g9,g10⟩:=e3
  have one:∀{c:List Value} {x:DataW Unit×List MemPlace} {s:List UInt8} {a b:Int} {u v z:Bool},DataW.trod (λ_=>()) Tryz.prog W 0 (λ_=>true) false m 195 c=some x->DataW.agg [.lit (.string s),.lit (.int .i64 a),.lit (.int .i64 b),.lit (.bool u),.lit (.bool v),.lit (.bool z)]=x.1->c= [.string ⟨⟨s⟩⟩,.int .i64 a,.int .i64 b,.bool u,.bool v,.bool z]:=λ{c x s a b u v z} h1 h2=>by
   obtain ⟨x1,x2⟩:=x
   cases h2
   exact zm6 Tryz.underlying195 rfl ⟨rfl,rfl,rfl,rfl,rfl,rfl⟩ ⟨rfl,rfl,rfl,rfl,rfl,rfl⟩ Tryz.underlying9 Tryz.underlying3 Tryz.underlying4 ⟨by kernel_rfl,by kernel_rfl,by kernel_rfl,hc6⟩ h1
  refine zlL (k:=6) 11 hlen (by rfl) λi hi=> ?_
  match i,hi with
  |0,h=>exact one (hel 0 h) g0
  |1,h=>exact one (hel 1 h) g1
  |2,h=>exact one (hel 2 h) g2
  |3,h=>exact one (hel 3 h) g3
  |4,h=>exact one (hel 4 h) g4
  |5,h=>exact one (hel 5 h) g5
  |6,h=>exact one (hel 6 h) g6
  |7,h=>exact one (hel 7 h) g7
  |8,h=>exact one (hel 8 h) g8
  |9,h=>exact one (hel 9 h) g9
  |10,h=>exact one (hel 10 h) g10
theorem zq5 {W:World} (hsh:W.ShapedOpen Tryz.prog) {g e:Nat} {n:String} {cs:Array Value} (hg:Tryz.prog.globalNamed n=some g) (hlt:g<Tryz.prog.globals.size)
  (ht:(((begin Tryz.prog (λ_ _=>0) default).world.heap[g]?).bind Obj.row?).map (·.2)=some e) (hv:W.var? Tryz.prog n=some cs):∃arr fz,W.heap[g]? =some (.cells arr e fz)/\arr.toList=cs.toList:=by
 cases hr:((begin Tryz.prog (λ_ _=>0) default).world.heap[g]?).bind Obj.row? with
 |none=>rw [hr] at ht;cases ht
 |some y=>
  obtain ⟨zero,t⟩:=y
  rw [hr] at ht
  simp only [Option.map_some,Option.some.injEq] at ht
  subst ht
  obtain ⟨cs',h1,_,_⟩:=hsh.1 g zero _ hlt hr
  refine ⟨cs',_,h1, ?_⟩
  have:W.var? Tryz.prog n=some cs':=by
   unfold World.var?
   rw [hg]
   simp only [Option.bind_some,h1]
  rw [hv] at this
  rw [Option.some.inj this]
theorem laidG_of {W:World} (hsh:W.ShapedOpen Tryz.prog) (h:laidMetH Tryz.prog zuM W):LaidG W:=λx hx=>by
 rcases List.mem_cons.1 hx with hx|hx
 .subst hx
  refine ⟨by show 0<9;omega,by kernel_rfl, ?_⟩
  obtain ⟨cs,hv,hc⟩:=zm7 h
  obtain ⟨arr,fz,h1,h2⟩:=zq5 hsh (e:=196) (show Tryz.prog.globalNamed "trestle/court.forms" =some 0 by kernel_rfl) (Nat.le_of_ble_eq_true (by kernel_rfl)) (by kernel_rfl) hv
  exact ⟨arr,fz,h1,h2.trans hc⟩
 .have hx:=List.mem_singleton.1 hx
  subst hx
  refine ⟨by show 6<9;omega,by kernel_rfl, ?_⟩
  obtain ⟨cs,hv,hc⟩:=zsp h
  obtain ⟨arr,fz,h1,h2⟩:=zq5 hsh (e:=270) (show Tryz.prog.globalNamed "internal/strconv.uint64pow10" =some 6 by kernel_rfl) (Nat.le_of_ble_eq_true (by kernel_rfl)) (by kernel_rfl) hv
  exact ⟨arr,fz,h1,h2.trans hc⟩
end Go.Ev
