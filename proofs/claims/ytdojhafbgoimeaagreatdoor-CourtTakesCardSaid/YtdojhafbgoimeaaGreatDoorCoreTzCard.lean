/- Part of the proof. -/
import Derived.Test.YtdojhafbgoimeaaGreatDoorCards
import Derived.Test.YtdojhafbgoimeaaGreatDoorTie
import Derived.Test.YtdojhafbgoimeaaGreatDoorCoreG31
import Derived.Test.YtdojhafbgoimeaaGreatDoorCoreLaid
import Derived.Test.YtdojhafbgoimeaaGreatDoorCoreAwake
import Derived.Test.YtdojhafbgoimeaaGreatDoorCoreKit
import Derived.Lay
import Derived.MakeChecks
import Derived.SevenTiedAt
import Derived.Stop.Joined
namespace Go.Ev
open Go.Proofs Go.ChangeShapes Go.WideShapes Go.ChangeAt Go.RowKit
theorem zwH:GOK Tryz.prog GC:=zzU
theorem zrj:([76,48].all λt=>zgD Tryz.prog 20 t)=true:=by kernel_rfl
set_option maxRecDepth 100000 in
theorem ztW:∀Ds:List D,Ds.length= [76,48].length->zxu Tryz.prog [76,48] Ds->zdT Tryz.prog [76,48] Ds λus=>∃p,zhl us=some (p,.prop True)/\p:=λDs h=>
 match Ds,h with
 | [d0,d1],_=>λhok=>by
  have e:zdT Tryz.prog [76,48] [d0,d1] (λus=>∃p,zhl us=some (p,.prop True)/\p)=(∃p,zhl [.dat 76 d0,.dat 48 d1]=some (p,.prop True)/\p):=by kernel_rfl
  rw [e]
  exact ⟨_,rfl,zzT hok.1,zzS hok.2.1⟩
set_option maxRecDepth 100000 in
theorem Tz_law {Hh:Type} {enc:TypeId×Value->Hh} {W:World} {b0:Nat} {vs:List Value} {ds:List (DataW Hh)} {ps:List MemPlace}
  (hG:LaidG W) (hok:∀(j:Nat) (t:TypeId) (v:Value),([76,48]:List TypeId)[j]? =some t->vs[j]? =some v->Value.okWide Tryz.prog W .any b0 t v)
  (ht:DataW.TrodAll enc Tryz.prog W 0 (λ_=>true) true [76,48] vs ds ps) (hwt:(DataW.weightsEach Tryz.prog [76,48] ds).all (· <=reachBytes)=true):Calls Tryz.prog 11 ⟨vs⟩ W (Law W):=
 zpC hG zwH zto (zAC 100 (Nat.le_of_ble_eq_true rfl)) ztW zrj hok ht hwt
theorem trod_lenTz {P:Program} {Hh:Type} {enc:TypeId×Value->Hh} {W:World} {base:Nat} {sp:Nat->Bool} {held:Bool}:∀{ts:List TypeId} {vs:List Value} {ds:List (DataW Hh)} {ps:List MemPlace},DataW.TrodAll enc P W base sp held ts vs ds ps->ds.length=ts.length
 | [],[],[],_,_=>rfl
 |_::_,_::_,_::_,_,⟨_,_,_,h,_⟩=>by rw [List.length_cons,List.length_cons,trod_lenTz h]
 | [],_::_,_,_,h=>h.elim
 | [],[],_::_,_,h=>h.elim
 |_::_,[],_,_,h=>h.elim
 |_::_,_::_,[],_,h=>h.elim
theorem split_Tz {α:Type} {l:List α} (h:l.length=2):∃d0 d1,l= [d0,d1]:=by
 match l,h with
 | [d0,d1],_=>exact ⟨d0,d1,rfl⟩
end Go.Ev
namespace Go.Proofs.YtdojhafbgoimeaaGreatDoor
open Go Go.ChangeShapes Go.WideShapes Go.ChangeAt Go.RowKit
theorem own:ownKnob Tryz.prog.godebug=none:=by kernel_rfl
theorem laidOut:laidOutB Tryz.prog=true:=by kernel_rfl
set_option maxRecDepth 100000 in
theorem courtTakes_lifted (os:Os) (started:os.Started) (H:Type) (enc:TypeId×Value->H):
  ReturnsInHanded {} Tryz.checked os 11 .any (λw args=>(Rows.courtTakesSpec.pre enc Tryz.prog Tryz.f11 [] false w args/\laidMetH Tryz.prog Rows.courtTakesRow.laid w)/\sizedMet enc Tryz.prog Tryz.f11 (OpenSpec.ofChange Rows.courtTakesSpec) false w args)
   (Rows.courtTakesSpec.post enc Tryz.prog Tryz.f11 false true false false):=by
 refine returnsInHanded_of_calls own started (by kernel_rfl)
  (ChangeSpec.witness_shaped (enc:=enc) (C:=Tryz.checked) (os:=os) (X:=λw _=>laidMetH Tryz.prog Rows.courtTakesRow.laid w) false (World.laidAll Tryz.prog os Rows.courtTakesRow.laid) #[.slice none 0 0,.slice none 0 0] 8 (World.laidAll_os _ _ _)
   (World.shaped_of_ZipB (by kernel_rfl) (by kernel_rfl)) (by kernel_rfl) (by kernel_rfl) (by kernel_rfl)
   (by rw [MakeChecks.laidMetH_plain _ _ _ (by kernel_rfl)];exact laidMet_laidAll _ (by kernel_rfl) (by kernel_rfl))) ?_
 intro w tape i _ hsh _ hok hpre _
 obtain ⟨_,_,_,fn,hfn,_,_,_,_,hval0⟩:=hok
 have hfe:fn=Tryz.f11:=Option.some.inj (hfn.symm.trans Tryz.func11)
 subst hfe
 obtain ⟨⟨⟨ds,gs,before,hW0,_⟩,hx⟩,hsz⟩:=hpre
 have hwt:=hsz.weights hW0
 have hW:=DataW.Whole.of_heap (w':=w.forCall tape i) (by rfl) hW0
 have hG:Go.Ev.LaidG (w.forCall tape i):=Go.Ev.laidG_of hsh (laidMetH.of_heap (w':=w.forCall tape i) (by rfl) hx)
 clear hW0 hx hsh hsz
 generalize w.heap.size=base at*
 generalize w.forCall tape i=W at*
 generalize i.args=args at*
 have hval:∀(j:Nat) t v,Tryz.f11.params[j]? =some t->args[j]? =some v->Value.okWide Tryz.prog W .any base t v:=hval0
 have hW':=hW
 obtain ⟨p,q,hA0,hV,rfl,hfz,hnd⟩:=hW
 have hA:DataW.TrodAll enc Tryz.prog W 0 (λ_=>true) true Tryz.f11.params.toList args.toList ds p:=hA0
 obtain ⟨rfl,rfl⟩:=trodVars_none hV
 rw [Tryz.params11] at hA hval hwt
 have hwt:(DataW.weightsEach Tryz.prog [76,48] ds).all (· <=reachBytes)=true:=by have:=hwt;rw [List.append_nil] at this;exact this
 obtain ⟨al⟩:=args
 obtain ⟨d0,d1,rfl⟩:=Go.Ev.split_Tz (Go.Ev.trod_lenTz hA)
 refine (Go.Ev.Tz_law (vs:=al) hG (λj t v ht hv=>hval j t v (by simpa using ht) (by simpa using hv)) hA hwt).mono λe W' ⟨he,hw⟩=> ?_
 subst he
 exact ChangeSpec.post_blind (Go.Ev.post_of_law laidOut hW' rfl rfl (by kernel_rfl) (tb:=4) (by kernel_rfl) Tryz.underlying4 hw)
end Go.Proofs.YtdojhafbgoimeaaGreatDoor
