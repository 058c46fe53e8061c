/-
  Part of the engine that the claim is proved with: it states nothing of the document by itself.
-/
import Derived.Test.YtdcamlgidccamaaGreatDoorCoreRefDefs
import Derived.Test.YtdcamlgidccamaaGreatDoorCoreBfs
open Go.Proofs
namespace Go.Ev

/-! ### How seats of a table lie -/
def lo (k m : Int) : Int := min k m
def hi (k m : Int) : Int := max k m
structure besideP (sh a b k m : Int) : Prop where
  out : k ≠ m ∧ ((sh = 1 ∧ (hi k m = lo k m + 1 ∨ (lo k m = 0 ∧ hi k m = a - 1))) ∨ (sh = 2 ∧ ((hi k m = lo k m + 1 ∧ ¬ (b = 0 ∧ hi k m = a)) ∨ (b = 2 ∧ lo k m = 0 ∧ hi k m = 2 * a + 1))) ∨
    (sh = 3 ∧ hi k m = lo k m + 1) ∨ (sh = 4 ∧ hi k m = lo k m + 1 ∧ (b = 0 ∨ (hi k m).tmod b ≠ 0)))
structure acrossP (sh a b k m : Int) : Prop where
  out : k ≠ m ∧ ((sh = 1 ∧ a.tmod 2 = 0 ∧ hi k m - lo k m = a.tdiv 2) ∨ (sh = 2 ∧ ((b = 2 ∧ hi k m = 2 * a + 1 ∧ lo k m = a) ∨ (¬ (b = 2 ∧ hi k m = 2 * a + 1) ∧ lo k m < a ∧ hi k m = 2 * a - 1 + min b 1 - lo k m))) ∨
    (sh = 3 ∧ lo k m < b ∧ hi k m = a + 2 * b - 1 - lo k m))
structure nearP (sh a b k m : Int) : Prop where
  out : besideP sh a b k m ∨ acrossP sh a b k m
structure inTab (sh a b k : Int) : Prop where
  out : sizeZ sh a b ≠ 0 ∧ 0 ≤ k ∧ k < sizeZ sh a b
noncomputable def con89 : Con := fun | [.agg [.str _, .int .u8 sh, .int .i64 a, .int .i64 b, .dat 29 _, .int .i64 _, .int .i64 _], .int .i64 k, .int .i64 m] => some (inTab sh a b k ∧ inTab sh a b m, .prop (besideP sh a b k m)) | _ => none
noncomputable def con90 : Con := fun | [.agg [.str _, .int .u8 sh, .int .i64 a, .int .i64 b, .dat 29 _, .int .i64 _, .int .i64 _], .int .i64 k, .int .i64 m] => some (inTab sh a b k ∧ inTab sh a b m, .prop (acrossP sh a b k m)) | _ => none
noncomputable def con88 : Con := fun | [.agg [.str _, .int .u8 sh, .int .i64 a, .int .i64 b, .dat 29 _, .int .i64 _, .int .i64 _], .int .i64 k, .int .i64 m] => some (inTab sh a b k ∧ inTab sh a b m, .prop (nearP sh a b k m)) | _ => none
noncomputable def seat1 : FuncId → Option Con
  | 89 => some con89
  | 90 => some con90
  | g => num2 g
end Go.Ev
