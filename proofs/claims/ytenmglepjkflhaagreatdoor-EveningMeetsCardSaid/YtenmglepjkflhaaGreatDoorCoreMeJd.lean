/-
  Part of the engine that the claim is proved with: it states nothing of the document by itself.
-/
import Derived.Test.YtenmglepjkflhaaGreatDoorCoreMeI
open Go.Proofs
namespace Go.Ev
noncomputable def con20e : Con := fun | [.dat 22 s, .int .i64 m] => some ((0 ≤ m ∧ m ≤ 100000) ∧ lensP s, .prop (fewP s m)) | _ => none
noncomputable def con21e : Con := fun | [.dat 22 s] => some (bigP s, .dat 22 (cpS s)) | _ => none
noncomputable def con24e : Con := fun | [.dat 22 a, .dat 22 b] => some (bigP a, .prop (eqS3 a b)) | _ => none
noncomputable def con19e : Con := fun | [.dat 27 a, .dat 27 b] => some (a.len ≤ 16777216, .prop (eqN a b)) | _ => none
noncomputable def con14e : Con := fun | [.int .i64 n, .dat 22 s] => some (bigP s, .prop ((chk n .nil s).2 = 0)) | _ => none
open Classical in
noncomputable def meA (n : Int) (s : D) : D := if goodS n s then .list (pqS (zrL n.toNat n.toNat) s s.len) else .nil
open Classical in
noncomputable def beA (n : Int) (s : D) : D := if goodS n s then .list (addS (zrL n.toNat n.toNat) s s.len) else .nil
open Classical in
noncomputable def toA (n : Int) (s : D) (a b : Int) : D := if goodS n s then togD s a b else .nil
open Classical in
noncomputable def mxA (n : Int) (s : D) : Int := if goodS n s then mxZ (mtL n s) (mtL n s).len else 0
open Classical in
noncomputable def lsA (n : Int) (s : D) : Int := if goodS n s then leastZ (mtL n s) else 0
open Classical in
noncomputable def stA (n : Int) (s : D) : Int := if goodS n s then sqSum (mtL n s) (mtL n s).len else 0
noncomputable def con8a : Con := fun | [.int .i64 n, .dat 22 s] => some (bigP s, .dat 26 (meA n s)) | _ => none
noncomputable def con9a : Con := fun | [.int .i64 n, .dat 22 s] => some (bigP s, .dat 26 (beA n s)) | _ => none
noncomputable def con10e : Con := fun | [.int .i64 n, .dat 22 s, .int .i64 a, .int .i64 b] => some (bigP s, .dat 27 (toA n s a b)) | _ => none
noncomputable def con11e : Con := fun | [.int .i64 n, .dat 22 s] => some (bigP s, .int .i64 (mxA n s)) | _ => none
noncomputable def con12e : Con := fun | [.int .i64 n, .dat 22 s] => some (bigP s, .int .i64 (lsA n s)) | _ => none
noncomputable def con13e : Con := fun | [.int .i64 n, .dat 22 s] => some (bigP s, .int .i64 (stA n s)) | _ => none
noncomputable def con5e : Con := fun | [.int .i64 _, .dat 22 s, .int .i64 _, .int .i64 _] => some (bigP s, .prop True) | _ => none
noncomputable def con3e : Con := fun | [.int .i64 _, .dat 22 s, .int .i64 _, .int .i64 _] => some (lensP s, .prop True) | _ => none
noncomputable def vv1 : FuncId → Option Con
 | 40 => some con5
 | _ => none
noncomputable def ms1 : FuncId → Option Con
 | 7 => some con21e
 | 8 => some con8a
 | 9 => some con9a
 | 10 => some con10e
 | 11 => some con11e
 | 12 => some con12e
 | 13 => some con13e
 | 14 => some con14e
 | 15 => some con24e
 | 16 => some con16r
 | 17 => some con17r
 | 18 => some con47
 | 19 => some con19r
 | 20 => some con19e
 | 21 => some con21r
 | 22 => some con22r
 | 23 => some con23r
 | _ => none
noncomputable def ms2 : FuncId → Option Con
 | 4 => some (extP con20e)
 | 5 => some con5e
 | _ => none
end Go.Ev
