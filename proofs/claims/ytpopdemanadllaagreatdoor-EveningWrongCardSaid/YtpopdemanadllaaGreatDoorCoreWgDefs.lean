/-
  Part of the engine that the claim is proved with: it states nothing of the document by itself.
-/
import Derived.Test.YtpopdemanadllaaGreatDoorCoreQpL
import Derived.Test.YtpopdemanadllaaGreatDoorCoreMeC
open Go.Proofs
namespace Go.Ev
def wNil : V := .val (.slice none 0 0)
structure badW (n : Int) (s : D) : Prop where
 big : bigP s
 no : ¬ goodS n s
noncomputable def con10w : Con := fun | [.int .i64 n, .dat 24 s, .dat 25 _] => some (badW n s ∧ 1 ≤ n ∧ n ≤ 64, .tup [wNil, .int .i64 (chk n .nil s).2]) | _ => none
noncomputable def con11w : Con := fun | [.int .i64 n, .dat 24 s, .int .i64 _] => some (badW n s ∧ 1 ≤ n ∧ n ≤ 64, .tup [wNil, .int .i64 0, .int .i64 (chk n .nil s).2]) | _ => none
noncomputable def con12w : Con := fun | [.int .i64 n, .dat 24 a, .dat 24 b] => some (goodS n a ∧ badW n b ∧ 1 ≤ n ∧ n ≤ 64, .tup [wNil, .int .i64 (chk n .nil b).2]) | _ => none
noncomputable def con13w : Con := fun | [.int .i64 n, .dat 24 s] => some (badW n s, wNil) | _ => none
noncomputable def con16w : Con := fun | [.int .i64 n, .dat 24 s] => some (badW n s, .int .i64 0) | _ => none
noncomputable def con19w : Con := fun | [.int .i64 n, .dat 24 s, .int .i64 _, .int .i64 _] => some (badW n s, wNil) | _ => none
noncomputable def con5w : Con := fun | [.int .i64 n, .dat 24 s] => some (badW n s ∨ (goodS n s ∧ s.len = 0), .str []) | _ => none
noncomputable def wg1 : FuncId → Option Con
 | 9 => some con5
 | 36 => some conFm
 | 37 => some conFm
 | 38 => some conFm
 | 40 => some conFm
 | 41 => some conFm
 | _ => none
noncomputable def wg2 : FuncId → Option Con
 | 23 => some con16
 | 38 => some conFm
 | 73 => some conFm
 | 74 => some conFm
 | _ => none
noncomputable def wgAnn : FuncId → Nat → Option Ann
 | 10, 8 => some { τ := Unit, slots := fun _ _ _ => [], blks := fun _ _ _ => [], inv := fun _ _ _ => False, meas := fun _ _ _ => 0 }
 | 11, 8 => some { τ := Unit, slots := fun _ _ _ => [], blks := fun _ _ _ => [], inv := fun _ _ _ => False, meas := fun _ _ _ => 0 }
 | 15, 6 => some { τ := Unit, slots := fun _ _ _ => [], blks := fun _ _ _ => [], inv := fun _ _ _ => False, meas := fun _ _ _ => 0 }
 | 19, 5 => some { τ := Unit, slots := fun _ _ _ => [], blks := fun _ _ _ => [], inv := fun _ _ _ => False, meas := fun _ _ _ => 0 }
 | 5, 5 => some { τ := Unit, slots := fun _ _ _ => [], blks := fun _ _ _ => [], inv := fun _ _ _ => False, meas := fun _ _ _ => 0 }
 | _, _ => none
end Go.Ev
