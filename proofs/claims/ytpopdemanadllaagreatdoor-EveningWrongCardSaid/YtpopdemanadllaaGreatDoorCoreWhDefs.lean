/-
  Part of the engine that the claim is proved with: it states nothing of the document by itself.
-/
import Derived.Test.YtpopdemanadllaaGreatDoorCoreWgDefs
open Go.Proofs
namespace Go.Ev
def rpR (m x : Nat) : List D := List.replicate x (.int 1) ++ List.replicate (m - x) (.int 0)
noncomputable def whAnn : FuncId → Nat → Option Ann
 | 8, 3 => some { hs := 2, τ := Nat, slots := fun S i x => match i with | 0 => [(11, .int .i64 x), (3, .val (.slice none 0 0))] | _ => [(11, .int .i64 x), (3, .slc (Nat.add S.nx 1) (.lit 0) (.sym x) none)], blks := fun S i x => match i with | 0 => [] | _ => [(Nat.add S.nx 1, .own S.nx 32 25 ((slD S 9).asList.take x))], inv := fun S i x => match i with | 0 => x = 0 | _ => 0 < x ∧ x ≤ (slD S 9).len, meas := fun S _ x => (slD S 9).len - x }
 | 8, 7 => some { hs := 2, τ := Nat, slots := fun S i y => match i with | 0 => [(17, .int .i64 y), (6, .val (.slice none 0 0))] | _ => [(17, .int .i64 y), (6, .slc (Nat.add S.nx 1) (.lit 0) (.sym y) none)], blks := fun S i y => match i with | 0 => [] | _ => [(Nat.add S.nx 1, .arr 25 ((slD S 15).asList.take y))], inv := fun S i y => match i with | 0 => y = 0 | _ => 0 < y ∧ y ≤ (slD S 15).len, meas := fun S _ y => (slD S 15).len - y }
 | 20, 8 => some { τ := Nat, slots := fun _ _ x => [(8, .int .i64 x)], blks := fun S _ x => [(slSB S 7, .arr 3 (rpR (slI S 1).toNat x))], inv := fun S _ x => 1 ≤ x ∧ x ≤ (slI S 1).toNat, meas := fun S _ x => (slI S 1).toNat - x }
 | _, _ => none
structure misP (n x : Int) (s : D) (i t : Nat) (L : List D) (w : Int) : Prop where
 out : (L = (el (el s i) t).asList.set 0 (.int (max x n)) ∧ w = 6) ∨ (L = (el (el s i) t).asList.set 0 (.int (min x (-1))) ∧ w = 6) ∨ (L = (el (el s i) t).asList ++ [.int (nAt (el (el s i) 0) 0)] ∧ w = 5)
noncomputable def whJoin : FuncId → Nat → Option Ann
 | 8, 11 => some { τ := Unit, slots := fun S _ _ => [(6, .slc (Nat.add S.nx 1) (.lit 0) (.sym (slD S 5).len) none)], blks := fun S _ _ => [(Nat.add S.nx 1, .arr 25 (slD S 5).asList)], inv := fun _ _ _ => True, meas := fun _ _ _ => 0 }
 | 3, 8 => some { τ := Unit, slots := fun S _ _ => [(19, .slc (Nat.add S.nx 1) (.lit 0) (.sym (el (el (slD S 13) (slI S 16).toNat) (slI S 17).toNat).len) none)], blks := fun S _ _ => [(Nat.add S.nx 1, .arr 3 (el (el (slD S 13) (slI S 16).toNat) (slI S 17).toNat).asList)], inv := fun _ _ _ => True, meas := fun _ _ _ => 0 }
 | 3, 19 => some { τ := Unit, slots := fun S _ _ => [(20, .slc (Nat.add S.nx 1) (.lit 0) (.sym (slD S 13).len) none)], blks := fun S _ _ => [(Nat.add S.nx 1, .own S.nx 32 25 (slD S 13).asList)], inv := fun _ _ _ => True, meas := fun _ _ _ => 0 }
 | 3, 27 => some { τ := Unit, slots := fun _ _ _ => [(22, .int .i64 90)], blks := fun _ _ _ => [], inv := fun _ _ _ => True, meas := fun _ _ _ => 0 }
 | 3, 28 => some { τ := Unit, slots := fun S _ _ => [(24, .int .i64 (chk (slI S 15) (.list (rpR (slI S 15).toNat (slI S 15).toNat)) (slD S 13)).2)], blks := fun _ _ _ => [], inv := fun _ _ _ => True, meas := fun _ _ _ => 0 }
 | 20, 8 => some { τ := Unit, slots := fun _ _ _ => [(8, .int .i64 1)], blks := fun S _ _ => [(slSB S 7, .arr 3 (rpR (slI S 1).toNat 1))], inv := fun _ _ _ => True, meas := fun _ _ _ => 0 }
 | 3, 18 => some { hs := 3, τ := List D × Int, slots := fun S i x => match i with | 0 => [(18, .int .i64 2), (19, .val (.slice none 0 0))] | 1 => [(18, .int .i64 x.2), (19, .slc (slSB S 19) (.lit 0) (.sym x.1.length) none)] | _ => [(18, .int .i64 2), (19, .slc (slSB S 19) (.lit 1) (.sym (x.1.length - 1)) none)], blks := fun S i x => match i with | 0 => [] | _ => [(slSB S 19, .arr 3 x.1)], inv := fun S i x => match i with | 0 => x = ([], 2) | 1 => misP (slI S 15) (slI S 5) (slD S 13) (slI S 16).toNat (slI S 17).toNat x.1 x.2 | _ => x = ((el (el (slD S 13) (slI S 16).toNat) (slI S 17).toNat).asList, 2), meas := fun _ _ _ => 0 }
 | _, _ => none
noncomputable def wh1 : FuncId → Option Con
 | 4 => some con6z
 | 5 => some con5w
 | 9 => some con5
 | 10 => some con10w
 | 11 => some (extC con11w)
 | 12 => some con12w
 | 13 => some con13w
 | 14 => some con13w
 | 15 => some con13w
 | 16 => some con16w
 | 17 => some con16w
 | 18 => some con16w
 | 19 => some (extC con19w)
 | 21 => some con67
 | 48 => some (extP con15)
 | _ => none
noncomputable def ctxo (con : FuncId → Option Con) (ann join : FuncId → Nat → Option Ann) : Ctx := { ctxj con ann join with ownB := fun t => Nat.beq t 24 }
instance (con : FuncId → Option Con) (ann join : FuncId → Nat → Option Ann) : Nonempty (NoF (ctxo con ann join)) := ⟨⟨fun _ _ h => by cases h⟩⟩
noncomputable def emAnn5 : FuncId → Nat → Option Ann
 | 5, 5 => some { τ := Nat, slots := fun _ _ x => [(16, .int .i64 x)], blks := fun _ _ _ => [], inv := fun S _ x => x = 0 ∧ (slD S 14).len = 0, meas := fun _ _ _ => 0 }
 | 5, 8 => some { τ := Unit, slots := fun _ _ _ => [], blks := fun _ _ _ => [], inv := fun _ _ _ => False, meas := fun _ _ _ => 0 }
 | _, _ => none
end Go.Ev
