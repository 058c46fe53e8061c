/-
  Part of the engine that the claim is proved with: it states nothing of the document by itself.
-/
import Derived.Test.YtpopdemanadllaaGreatDoorCoreMeA
open Go.Proofs
namespace Go.Ev
noncomputable def conFm : Con := fun _ => some (False, .int .i64 0)
noncomputable def con38n : Con := fun | [.int .i64 n, .dat 24 s] => some (bigP s ∧ ¬ goodS n s, .dat 25 .nil) | _ => none
noncomputable def mn1 : FuncId → Option Con
 | 23 => some con16
 | 38 => some conFm
 | 74 => some conFm
 | 73 => some conFm
 | _ => none
noncomputable def nlAnn : FuncId → Nat → Option Ann
 | 19, 5 => some { τ := Unit, slots := fun _ _ _ => [], blks := fun _ _ _ => [], inv := fun _ _ _ => False, meas := fun _ _ _ => 0 }
 | _, _ => none
noncomputable def mn2 : FuncId → Option Con
 | 43 => some con38n
 | 44 => some conFm
 | _ => none
end Go.Ev
