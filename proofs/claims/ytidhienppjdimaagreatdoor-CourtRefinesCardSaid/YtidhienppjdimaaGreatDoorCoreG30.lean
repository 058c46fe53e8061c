/-
  Part of the engine that the claim is proved with: it states nothing of the document by itself.
-/
import Derived.Test.YtidhienppjdimaaGreatDoorCoreG29
import Derived.Test.YtidhienppjdimaaGreatDoorCoreG28
import Derived.Test.YtidhienppjdimaaGreatDoorCoreG25
import Derived.Test.YtidhienppjdimaaGreatDoorCoreKit
import Derived.Test.YtidhienppjdimaaGreatDoorRows
import Derived.Test.YtidhienppjdimaaGreatDoorProg
import Derived.Test.YtidhienppjdimaaGreatDoorCoreG0
import Derived.OpenShut
import Derived.LaidSub
import Derived.MakeChecks

section
open Go.Proofs
namespace Go.Ev
set_option maxRecDepth 100000
set_option maxHeartbeats 4000000
theorem vc16 : ∀ (c d : D), symFun (ctxr (fun (x : FuncId) => match x with | 45 => some con45 | _ => none) rfAnn) (3 : Nat) (16 : FuncId) [V.dat (22 : TypeId) c, V.dat (22 : TypeId) d] (V.tup
 [V.dat (22 : TypeId) (catD c d), V.int IntKind.i64 (0 : Int)]) = ((0 : Int) ≤ (0 : Int) ∧ (0 : Int) < (↑(2 : Nat) : Int) ∧ (0 : Nat) + (0 : Nat) < [c, d].length ∧ smallC c ∧ (((badZ c).snd = (0 : Int)
 → False) → D.nil = catD c d ∧ (badZ c).snd = (0 : Int) ∧ True) ∧ ((((badZ c).snd = (0 : Int) → False) → False) → ((∃ (x : Nat), (x = (0 : Nat) ∧ ([] : List D) = []) ∧ ((0 : Int) = (↑x : Int) ∧
 True ∧ True) ∧ True) ∨ ∃ (x : Nat), ((0 : Nat) < ([] : List D).length + x ∧ x ≤ c.len) ∧ ((0 : Int) = (↑x : Int) ∧ False ∧ True) ∧ False ∧ True) ∧ (∀ (x : Nat), x = (0 : Nat) ∧ ([] : List D) = []
 → c.len - x < LIM ∧ ((↑x : Int) < (↑c.len : Int) → (0 : Int) ≤ (↑x : Int) ∧ (↑x : Int) < (↑c.len : Int) ∧ ((cNm (el c x)).len = (0 : Nat) → (0 : Nat) + (1 : Nat) ≤ [D.sct [D.int (cK (el c x)), D.str
 (cA (el c x)), D.bool (cL (el c x)), D.nil, D.int (cN (el c x))]].length ∧ (1 : Nat) ≤ (16777216 : Nat) ∧ ((-9223372036854775808 : Int) ≤ (↑x : Int) + (1 : Int) ∧ (↑x : Int) + (1 : Int) <
 (9223372036854775808 : Int)) ∧ ((∃ (y : Nat), (y = (0 : Nat) ∧ ([] : List D) = []) ∧ c.len - y < c.len - x ∧ ((↑x : Int) + (1 : Int) = (↑y : Int) ∧ False ∧ True) ∧ True) ∨ ∃ (y : Nat), ((0 : Nat)
 < ([] : List D).length + y ∧ y ≤ c.len) ∧ c.len - y < c.len - x ∧ ((↑x : Int) + (1 : Int) = (↑y : Int) ∧ ((0 : Nat) = (0 : Nat) ∧ (1 : Nat) = ([] : List D).length + y ∧ True) ∧ True) ∧ List.take (1 :
 Nat) [D.sct [D.int (cK (el c x)), D.str (cA (el c x)), D.bool (cL (el c x)), D.nil, D.int (cN (el c x))]] = [] ++ cpL c y ∧ True)) ∧ ((0 : Nat) < (cNm (el c x)).len → (cNm (el c x)).len ≤ (16777216 :
 Nat) ∧ (0 : Nat) + (cNm (el c x)).len ≤ (cNm (el c x)).asList.length ∧ (0 : Nat) + (1 : Nat) ≤ [D.sct [D.int (cK (el c x)), D.str (cA (el c x)), D.bool (cL (el c x)), D.list (List.take (cNm (el c
 x)).len (cNm (el c x)).asList), D.int (cN (el c x))]].length ∧ (1 : Nat) ≤ (16777216 : Nat) ∧ ((-9223372036854775808 : Int) ≤ (↑x : Int) + (1 : Int) ∧ (↑x : Int) + (1 : Int) < (9223372036854775808 :
 Int)) ∧ ((∃ (y : Nat), (y = (0 : Nat) ∧ ([] : List D) = []) ∧ c.len - y < c.len - x ∧ ((↑x : Int) + (1 : Int) = (↑y : Int) ∧ False ∧ True) ∧ True) ∨ ∃ (y : Nat), ((0 : Nat) < ([] : List D).length
 + y ∧ y ≤ c.len) ∧ c.len - y < c.len - x ∧ ((↑x : Int) + (1 : Int) = (↑y : Int) ∧ ((0 : Nat) = (0 : Nat) ∧ (1 : Nat) = ([] : List D).length + y ∧ True) ∧ True) ∧ List.take (1 : Nat) [D.sct [D.int (cK
 (el c x)), D.str (cA (el c x)), D.bool (cL (el c x)), D.list (List.take (cNm (el c x)).len (cNm (el c x)).asList), D.int (cN (el c x))]] = [] ++ cpL c y ∧ True))) ∧ (((↑x : Int) < (↑c.len : Int) →
 False) → (0 : Int) ≤ Int.ofNat (1 : Nat) ∧ Int.ofNat (1 : Nat) < (↑(2 : Nat) : Int) ∧ (0 : Nat) + (Int.ofNat (1 : Nat)).toNat < [c, d].length ∧ smallC d ∧ (((badZ d).snd = (0 : Int) → False) → D.nil =
 catD c d ∧ (badZ d).snd = (0 : Int) ∧ True) ∧ ((((badZ d).snd = (0 : Int) → False) → False) → ((∃ (x : Nat), (x = (0 : Nat) ∧ ([] : List D) = []) ∧ ((0 : Int) = (↑x : Int) ∧ True ∧ True) ∧ True) ∨
 ∃ (x : Nat), ((0 : Nat) < ([] : List D).length + x ∧ x ≤ d.len) ∧ ((0 : Int) = (↑x : Int) ∧ False ∧ True) ∧ False ∧ True) ∧ (∀ (x : Nat), x = (0 : Nat) ∧ ([] : List D) = [] → d.len - x < LIM ∧
 ((↑x : Int) < (↑d.len : Int) → (0 : Int) ≤ (↑x : Int) ∧ (↑x : Int) < (↑d.len : Int) ∧ ((cNm (el d x)).len = (0 : Nat) → (0 : Nat) + (1 : Nat) ≤ [D.sct [D.int (cK (el d x)), D.str (cA (el d x)), D.bool
 (cL (el d x)), D.nil, D.int (cN (el d x))]].length ∧ (1 : Nat) ≤ (16777216 : Nat) ∧ ((-9223372036854775808 : Int) ≤ (↑x : Int) + (1 : Int) ∧ (↑x : Int) + (1 : Int) < (9223372036854775808 : Int)) ∧ ((∃
 (y : Nat), (y = (0 : Nat) ∧ ([] : List D) = []) ∧ d.len - y < d.len - x ∧ ((↑x : Int) + (1 : Int) = (↑y : Int) ∧ False ∧ True) ∧ True) ∨ ∃ (y : Nat), ((0 : Nat) < ([] : List D).length + y ∧ y ≤
 d.len) ∧ d.len - y < d.len - x ∧ ((↑x : Int) + (1 : Int) = (↑y : Int) ∧ ((0 : Nat) = (0 : Nat) ∧ (1 : Nat) = ([] : List D).length + y ∧ True) ∧ True) ∧ List.take (1 : Nat) [D.sct [D.int (cK (el d x)),
 D.str (cA (el d x)), D.bool (cL (el d x)), D.nil, D.int (cN (el d x))]] = [] ++ cpL d y ∧ True)) ∧ ((0 : Nat) < (cNm (el d x)).len → (cNm (el d x)).len ≤ (16777216 : Nat) ∧ (0 : Nat) + (cNm (el d
 x)).len ≤ (cNm (el d x)).asList.length ∧ (0 : Nat) + (1 : Nat) ≤ [D.sct [D.int (cK (el d x)), D.str (cA (el d x)), D.bool (cL (el d x)), D.list (List.take (cNm (el d x)).len (cNm (el d x)).asList),
 D.int (cN (el d x))]].length ∧ (1 : Nat) ≤ (16777216 : Nat) ∧ ((-9223372036854775808 : Int) ≤ (↑x : Int) + (1 : Int) ∧ (↑x : Int) + (1 : Int) < (9223372036854775808 : Int)) ∧ ((∃ (y : Nat), (y = (0 :
 Nat) ∧ ([] : List D) = []) ∧ d.len - y < d.len - x ∧ ((↑x : Int) + (1 : Int) = (↑y : Int) ∧ False ∧ True) ∧ True) ∨ ∃ (y : Nat), ((0 : Nat) < ([] : List D).length + y ∧ y ≤ d.len) ∧ d.len - y <
 d.len - x ∧ ((↑x : Int) + (1 : Int) = (↑y : Int) ∧ ((0 : Nat) = (0 : Nat) ∧ (1 : Nat) = ([] : List D).length + y ∧ True) ∧ True) ∧ List.take (1 : Nat) [D.sct [D.int (cK (el d x)), D.str (cA (el d x)),
 D.bool (cL (el d x)), D.list (List.take (cNm (el d x)).len (cNm (el d x)).asList), D.int (cN (el d x))]] = [] ++ cpL d y ∧ True))) ∧ (((↑x : Int) < (↑d.len : Int) → False) → D.nil = catD c d ∧ (0 :
 Int) = (0 : Int) ∧ True)) ∧ ∀ (x : Nat), (0 : Nat) < ([] : List D).length + x ∧ x ≤ d.len → d.len - x < LIM ∧ ((↑x : Int) < (↑d.len : Int) → (0 : Int) ≤ (↑x : Int) ∧ (↑x : Int) < (↑d.len : Int) ∧
 ((cNm (el d x)).len = (0 : Nat) → (0 : Nat) + (1 : Nat) ≤ [D.sct [D.int (cK (el d x)), D.str (cA (el d x)), D.bool (cL (el d x)), D.nil, D.int (cN (el d x))]].length ∧ (0 : Nat) + (([] : List
 D).length + x) ≤ ([] ++ cpL d x).length ∧ ([] : List D).length + x + (1 : Nat) ≤ (16777216 : Nat) ∧ ((-9223372036854775808 : Int) ≤ (↑x : Int) + (1 : Int) ∧ (↑x : Int) + (1 : Int) <
 (9223372036854775808 : Int)) ∧ ((∃ (y : Nat), (y = (0 : Nat) ∧ ([] : List D) = []) ∧ d.len - y < d.len - x ∧ ((↑x : Int) + (1 : Int) = (↑y : Int) ∧ False ∧ True) ∧ True) ∨ ∃ (y : Nat), ((0 : Nat)
 < ([] : List D).length + y ∧ y ≤ d.len) ∧ d.len - y < d.len - x ∧ ((↑x : Int) + (1 : Int) = (↑y : Int) ∧ ((0 : Nat) = (0 : Nat) ∧ ([] : List D).length + x + (1 : Nat) = ([] : List D).length + y ∧
 True) ∧ True) ∧ List.take (([] : List D).length + x) ([] ++ cpL d x) ++ List.take (1 : Nat) [D.sct [D.int (cK (el d x)), D.str (cA (el d x)), D.bool (cL (el d x)), D.nil, D.int (cN (el d x))]] = [] ++
 cpL d y ∧ True)) ∧ ((0 : Nat) < (cNm (el d x)).len → (cNm (el d x)).len ≤ (16777216 : Nat) ∧ (0 : Nat) + (cNm (el d x)).len ≤ (cNm (el d x)).asList.length ∧ (0 : Nat) + (1 : Nat) ≤ [D.sct [D.int (cK
 (el d x)), D.str (cA (el d x)), D.bool (cL (el d x)), D.list (List.take (cNm (el d x)).len (cNm (el d x)).asList), D.int (cN (el d x))]].length ∧ (0 : Nat) + (([] : List D).length + x) ≤ ([] ++ cpL d
 x).length ∧ ([] : List D).length + x + (1 : Nat) ≤ (16777216 : Nat) ∧ ((-9223372036854775808 : Int) ≤ (↑x : Int) + (1 : Int) ∧ (↑x : Int) + (1 : Int) < (9223372036854775808 : Int)) ∧ ((∃ (y : Nat), (y
 = (0 : Nat) ∧ ([] : List D) = []) ∧ d.len - y < d.len - x ∧ ((↑x : Int) + (1 : Int) = (↑y : Int) ∧ False ∧ True) ∧ True) ∨ ∃ (y : Nat), ((0 : Nat) < ([] : List D).length + y ∧ y ≤ d.len) ∧ d.len -
 y < d.len - x ∧ ((↑x : Int) + (1 : Int) = (↑y : Int) ∧ ((0 : Nat) = (0 : Nat) ∧ ([] : List D).length + x + (1 : Nat) = ([] : List D).length + y ∧ True) ∧ True) ∧ List.take (([] : List D).length + x)
 ([] ++ cpL d x) ++ List.take (1 : Nat) [D.sct [D.int (cK (el d x)), D.str (cA (el d x)), D.bool (cL (el d x)), D.list (List.take (cNm (el d x)).len (cNm (el d x)).asList), D.int (cN (el d x))]] = []
 ++ cpL d y ∧ True))) ∧ (((↑x : Int) < (↑d.len : Int) → False) → ((32 : Int) < (↑(([] : List D).length + x) : Int) → D.nil = catD c d ∧ (7 : Int) = (0 : Int) ∧ True) ∧ (((32 : Int) < (↑(([] : List
 D).length + x) : Int) → False) → ((0 : Nat) + (([] : List D).length + x) ≤ ([] ++ cpL d x).length ∧ D.list (List.take (([] : List D).length + x) ([] ++ cpL d x)) = catD c d) ∧ (0 : Int) = (0 : Int) ∧
 True))))) ∧ ∀ (x : Nat), (0 : Nat) < ([] : List D).length + x ∧ x ≤ c.len → c.len - x < LIM ∧ ((↑x : Int) < (↑c.len : Int) → (0 : Int) ≤ (↑x : Int) ∧ (↑x : Int) < (↑c.len : Int) ∧ ((cNm (el c x)).len
 = (0 : Nat) → (0 : Nat) + (1 : Nat) ≤ [D.sct [D.int (cK (el c x)), D.str (cA (el c x)), D.bool (cL (el c x)), D.nil, D.int (cN (el c x))]].length ∧ (0 : Nat) + (([] : List D).length + x) ≤ ([] ++ cpL
 c x).length ∧ ([] : List D).length + x + (1 : Nat) ≤ (16777216 : Nat) ∧ ((-9223372036854775808 : Int) ≤ (↑x : Int) + (1 : Int) ∧ (↑x : Int) + (1 : Int) < (9223372036854775808 : Int)) ∧ ((∃ (y : Nat),
 (y = (0 : Nat) ∧ ([] : List D) = []) ∧ c.len - y < c.len - x ∧ ((↑x : Int) + (1 : Int) = (↑y : Int) ∧ False ∧ True) ∧ True) ∨ ∃ (y : Nat), ((0 : Nat) < ([] : List D).length + y ∧ y ≤ c.len) ∧
 c.len - y < c.len - x ∧ ((↑x : Int) + (1 : Int) = (↑y : Int) ∧ ((0 : Nat) = (0 : Nat) ∧ ([] : List D).length + x + (1 : Nat) = ([] : List D).length + y ∧ True) ∧ True) ∧ List.take (([] : List
 D).length + x) ([] ++ cpL c x) ++ List.take (1 : Nat) [D.sct [D.int (cK (el c x)), D.str (cA (el c x)), D.bool (cL (el c x)), D.nil, D.int (cN (el c x))]] = [] ++ cpL c y ∧ True)) ∧ ((0 : Nat) < (cNm
 (el c x)).len → (cNm (el c x)).len ≤ (16777216 : Nat) ∧ (0 : Nat) + (cNm (el c x)).len ≤ (cNm (el c x)).asList.length ∧ (0 : Nat) + (1 : Nat) ≤ [D.sct [D.int (cK (el c x)), D.str (cA (el c x)), D.bool
 (cL (el c x)), D.list (List.take (cNm (el c x)).len (cNm (el c x)).asList), D.int (cN (el c x))]].length ∧ (0 : Nat) + (([] : List D).length + x) ≤ ([] ++ cpL c x).length ∧ ([] : List D).length + x +
 (1 : Nat) ≤ (16777216 : Nat) ∧ ((-9223372036854775808 : Int) ≤ (↑x : Int) + (1 : Int) ∧ (↑x : Int) + (1 : Int) < (9223372036854775808 : Int)) ∧ ((∃ (y : Nat), (y = (0 : Nat) ∧ ([] : List D) = [])
 ∧ c.len - y < c.len - x ∧ ((↑x : Int) + (1 : Int) = (↑y : Int) ∧ False ∧ True) ∧ True) ∨ ∃ (y : Nat), ((0 : Nat) < ([] : List D).length + y ∧ y ≤ c.len) ∧ c.len - y < c.len - x ∧ ((↑x : Int) + (1 :
 Int) = (↑y : Int) ∧ ((0 : Nat) = (0 : Nat) ∧ ([] : List D).length + x + (1 : Nat) = ([] : List D).length + y ∧ True) ∧ True) ∧ List.take (([] : List D).length + x) ([] ++ cpL c x) ++ List.take (1 :
 Nat) [D.sct [D.int (cK (el c x)), D.str (cA (el c x)), D.bool (cL (el c x)), D.list (List.take (cNm (el c x)).len (cNm (el c x)).asList), D.int (cN (el c x))]] = [] ++ cpL c y ∧ True))) ∧ (((↑x : Int)
 < (↑c.len : Int) → False) → (0 : Int) ≤ Int.ofNat (1 : Nat) ∧ Int.ofNat (1 : Nat) < (↑(2 : Nat) : Int) ∧ (0 : Nat) + (Int.ofNat (1 : Nat)).toNat < [c, d].length ∧ smallC d ∧ (((badZ d).snd = (0 : Int)
 → False) → D.nil = catD c d ∧ (badZ d).snd = (0 : Int) ∧ True) ∧ ((((badZ d).snd = (0 : Int) → False) → False) → ((∃ (x_1 : Nat), (x_1 = (0 : Nat) ∧ [] ++ cpL c x = []) ∧ ((0 : Int) = (↑x_1 : Int) ∧
 False ∧ True) ∧ True) ∨ ∃ (x_1 : Nat), ((0 : Nat) < ([] ++ cpL c x).length + x_1 ∧ x_1 ≤ d.len) ∧ ((0 : Int) = (↑x_1 : Int) ∧ ((0 : Nat) = (0 : Nat) ∧ ([] : List D).length + x = ([] ++ cpL c x).length
 + x_1 ∧ True) ∧ True) ∧ [] ++ cpL c x = [] ++ cpL c x ++ cpL d x_1 ∧ True) ∧ (∀ (x_1 : Nat), x_1 = (0 : Nat) ∧ [] ++ cpL c x = [] → d.len - x_1 < LIM ∧ ((↑x_1 : Int) < (↑d.len : Int) → (0 : Int) ≤
 (↑x_1 : Int) ∧ (↑x_1 : Int) < (↑d.len : Int) ∧ ((cNm (el d x_1)).len = (0 : Nat) → (0 : Nat) + (1 : Nat) ≤ [D.sct [D.int (cK (el d x_1)), D.str (cA (el d x_1)), D.bool (cL (el d x_1)), D.nil, D.int
 (cN (el d x_1))]].length ∧ (1 : Nat) ≤ (16777216 : Nat) ∧ ((-9223372036854775808 : Int) ≤ (↑x_1 : Int) + (1 : Int) ∧ (↑x_1 : Int) + (1 : Int) < (9223372036854775808 : Int)) ∧ ((∃ (y : Nat), (y = (0 :
 Nat) ∧ [] ++ cpL c x = []) ∧ d.len - y < d.len - x_1 ∧ ((↑x_1 : Int) + (1 : Int) = (↑y : Int) ∧ False ∧ True) ∧ True) ∨ ∃ (y : Nat), ((0 : Nat) < ([] ++ cpL c x).length + y ∧ y ≤ d.len) ∧ d.len - y <
 d.len - x_1 ∧ ((↑x_1 : Int) + (1 : Int) = (↑y : Int) ∧ ((0 : Nat) = (0 : Nat) ∧ (1 : Nat) = ([] ++ cpL c x).length + y ∧ True) ∧ True) ∧ List.take (1 : Nat) [D.sct [D.int (cK (el d x_1)), D.str (cA
 (el d x_1)), D.bool (cL (el d x_1)), D.nil, D.int (cN (el d x_1))]] = [] ++ cpL c x ++ cpL d y ∧ True)) ∧ ((0 : Nat) < (cNm (el d x_1)).len → (cNm (el d x_1)).len ≤ (16777216 : Nat) ∧ (0 : Nat) + (cNm
 (el d x_1)).len ≤ (cNm (el d x_1)).asList.length ∧ (0 : Nat) + (1 : Nat) ≤ [D.sct [D.int (cK (el d x_1)), D.str (cA (el d x_1)), D.bool (cL (el d x_1)), D.list (List.take (cNm (el d x_1)).len (cNm (el
 d x_1)).asList), D.int (cN (el d x_1))]].length ∧ (1 : Nat) ≤ (16777216 : Nat) ∧ ((-9223372036854775808 : Int) ≤ (↑x_1 : Int) + (1 : Int) ∧ (↑x_1 : Int) + (1 : Int) < (9223372036854775808 : Int)) ∧
 ((∃ (y : Nat), (y = (0 : Nat) ∧ [] ++ cpL c x = []) ∧ d.len - y < d.len - x_1 ∧ ((↑x_1 : Int) + (1 : Int) = (↑y : Int) ∧ False ∧ True) ∧ True) ∨ ∃ (y : Nat), ((0 : Nat) < ([] ++ cpL c x).length + y ∧
 y ≤ d.len) ∧ d.len - y < d.len - x_1 ∧ ((↑x_1 : Int) + (1 : Int) = (↑y : Int) ∧ ((0 : Nat) = (0 : Nat) ∧ (1 : Nat) = ([] ++ cpL c x).length + y ∧ True) ∧ True) ∧ List.take (1 : Nat) [D.sct [D.int (cK
 (el d x_1)), D.str (cA (el d x_1)), D.bool (cL (el d x_1)), D.list (List.take (cNm (el d x_1)).len (cNm (el d x_1)).asList), D.int (cN (el d x_1))]] = [] ++ cpL c x ++ cpL d y ∧ True))) ∧ (((↑x_1 :
 Int) < (↑d.len : Int) → False) → D.nil = catD c d ∧ (0 : Int) = (0 : Int) ∧ True)) ∧ ∀ (x_1 : Nat), (0 : Nat) < ([] ++ cpL c x).length + x_1 ∧ x_1 ≤ d.len → d.len - x_1 < LIM ∧ ((↑x_1 : Int) < (↑d.len
 : Int) → (0 : Int) ≤ (↑x_1 : Int) ∧ (↑x_1 : Int) < (↑d.len : Int) ∧ ((cNm (el d x_1)).len = (0 : Nat) → (0 : Nat) + (1 : Nat) ≤ [D.sct [D.int (cK (el d x_1)), D.str (cA (el d x_1)), D.bool (cL (el d
 x_1)), D.nil, D.int (cN (el d x_1))]].length ∧ (0 : Nat) + (([] ++ cpL c x).length + x_1) ≤ ([] ++ cpL c x ++ cpL d x_1).length ∧ ([] ++ cpL c x).length + x_1 + (1 : Nat) ≤ (16777216 : Nat) ∧
 ((-9223372036854775808 : Int) ≤ (↑x_1 : Int) + (1 : Int) ∧ (↑x_1 : Int) + (1 : Int) < (9223372036854775808 : Int)) ∧ ((∃ (y : Nat), (y = (0 : Nat) ∧ [] ++ cpL c x = []) ∧ d.len - y < d.len - x_1 ∧
 ((↑x_1 : Int) + (1 : Int) = (↑y : Int) ∧ False ∧ True) ∧ True) ∨ ∃ (y : Nat), ((0 : Nat) < ([] ++ cpL c x).length + y ∧ y ≤ d.len) ∧ d.len - y < d.len - x_1 ∧ ((↑x_1 : Int) + (1 : Int) = (↑y : Int) ∧
 ((0 : Nat) = (0 : Nat) ∧ ([] ++ cpL c x).length + x_1 + (1 : Nat) = ([] ++ cpL c x).length + y ∧ True) ∧ True) ∧ List.take (([] ++ cpL c x).length + x_1) ([] ++ cpL c x ++ cpL d x_1) ++ List.take (1 :
 Nat) [D.sct [D.int (cK (el d x_1)), D.str (cA (el d x_1)), D.bool (cL (el d x_1)), D.nil, D.int (cN (el d x_1))]] = [] ++ cpL c x ++ cpL d y ∧ True)) ∧ ((0 : Nat) < (cNm (el d x_1)).len → (cNm (el d
 x_1)).len ≤ (16777216 : Nat) ∧ (0 : Nat) + (cNm (el d x_1)).len ≤ (cNm (el d x_1)).asList.length ∧ (0 : Nat) + (1 : Nat) ≤ [D.sct [D.int (cK (el d x_1)), D.str (cA (el d x_1)), D.bool (cL (el d x_1)),
 D.list (List.take (cNm (el d x_1)).len (cNm (el d x_1)).asList), D.int (cN (el d x_1))]].length ∧ (0 : Nat) + (([] ++ cpL c x).length + x_1) ≤ ([] ++ cpL c x ++ cpL d x_1).length ∧ ([] ++ cpL c
 x).length + x_1 + (1 : Nat) ≤ (16777216 : Nat) ∧ ((-9223372036854775808 : Int) ≤ (↑x_1 : Int) + (1 : Int) ∧ (↑x_1 : Int) + (1 : Int) < (9223372036854775808 : Int)) ∧ ((∃ (y : Nat), (y = (0 : Nat) ∧ []
 ++ cpL c x = []) ∧ d.len - y < d.len - x_1 ∧ ((↑x_1 : Int) + (1 : Int) = (↑y : Int) ∧ False ∧ True) ∧ True) ∨ ∃ (y : Nat), ((0 : Nat) < ([] ++ cpL c x).length + y ∧ y ≤ d.len) ∧ d.len - y < d.len -
 x_1 ∧ ((↑x_1 : Int) + (1 : Int) = (↑y : Int) ∧ ((0 : Nat) = (0 : Nat) ∧ ([] ++ cpL c x).length + x_1 + (1 : Nat) = ([] ++ cpL c x).length + y ∧ True) ∧ True) ∧ List.take (([] ++ cpL c x).length + x_1)
 ([] ++ cpL c x ++ cpL d x_1) ++ List.take (1 : Nat) [D.sct [D.int (cK (el d x_1)), D.str (cA (el d x_1)), D.bool (cL (el d x_1)), D.list (List.take (cNm (el d x_1)).len (cNm (el d x_1)).asList), D.int
 (cN (el d x_1))]] = [] ++ cpL c x ++ cpL d y ∧ True))) ∧ (((↑x_1 : Int) < (↑d.len : Int) → False) → ((32 : Int) < (↑(([] ++ cpL c x).length + x_1) : Int) → D.nil = catD c d ∧ (7 : Int) = (0 : Int) ∧
 True) ∧ (((32 : Int) < (↑(([] ++ cpL c x).length + x_1) : Int) → False) → ((0 : Nat) + (([] ++ cpL c x).length + x_1) ≤ ([] ++ cpL c x ++ cpL d x_1).length ∧ D.list (List.take (([] ++ cpL c x).length
 + x_1) ([] ++ cpL c x ++ cpL d x_1)) = catD c d) ∧ (0 : Int) = (0 : Int) ∧ True)))))) := by intros; kernel_rfl
theorem cp_nil {d : D} (h : (cNm d).len = 0) : D.sct [.int (cK d), .str (cA d), .bool (cL d), .nil, .int (cN d)] = cpC d := by
 unfold cpC
 rw [show (cNm d).asList = [] from List.eq_nil_of_length_eq_zero h]; rfl
theorem cp_list {d : D} (h : 0 < (cNm d).len) : D.sct [.int (cK d), .str (cA d), .bool (cL d), .list (List.take (cNm d).len (cNm d).asList), .int (cN d)] = cpC d := by
 unfold cpC
 rw [show List.take (cNm d).len (cNm d).asList = (cNm d).asList from List.take_of_length_le (Nat.le_refl _)]
 have : D.list (cNm d).asList = listD (cNm d).asList := listD_some8 h
 rw [this]
theorem cpL_succ (l : D) (x : Nat) : cpL l (x + 1) = cpL l x ++ [cpC (el l x)] := by unfold cpL; rw [List.range_succ, List.map_append]; rfl
theorem stp0 {d : D} {R : List D} {x : Nat} {e : D} (hx : x = 0 ∧ R = []) (hl : (x : Int) < d.len) (he : e = cpC (el d x)) :
  (∃ y : Nat, (y = 0 ∧ R = []) ∧ d.len - y < d.len - x ∧ ((x : Int) + 1 = (y : Int) ∧ False ∧ True) ∧ True) ∨
  ∃ y : Nat, (0 < R.length + y ∧ y ≤ d.len) ∧ d.len - y < d.len - x ∧ ((x : Int) + 1 = (y : Int) ∧ ((0 : Nat) = 0 ∧ 1 = R.length + y ∧ True) ∧ True) ∧ List.take 1 [e] = R ++ cpL d y ∧ True := by
 obtain ⟨rfl, rfl⟩ := hx
 exact .inr ⟨1, ⟨Nat.lt_succ_self 0, by omega⟩, by omega, ⟨rfl, ⟨rfl, rfl, trivial⟩, trivial⟩, by rw [he]; rfl, trivial⟩
theorem app_len (R : List D) (d : D) (x : Nat) : (R ++ cpL d x).length = R.length + x := by rw [List.length_append, cpL_len]
theorem lenT (R : List D) (d : D) (x : Nat) : 0 + (R.length + x) ≤ (R ++ cpL d x).length := by rw [app_len]; omega
theorem stp1 {d : D} {R : List D} {x : Nat} {e : D} (hl : (x : Int) < d.len) (he : e = cpC (el d x)) :
  (∃ y : Nat, (y = 0 ∧ R = []) ∧ d.len - y < d.len - x ∧ ((x : Int) + 1 = (y : Int) ∧ False ∧ True) ∧ True) ∨
  ∃ y : Nat, (0 < R.length + y ∧ y ≤ d.len) ∧ d.len - y < d.len - x ∧ ((x : Int) + 1 = (y : Int) ∧ ((0 : Nat) = 0 ∧ R.length + x + 1 = R.length + y ∧ True) ∧ True) ∧
   List.take (R.length + x) (R ++ cpL d x) ++ List.take 1 [e] = R ++ cpL d y ∧ True := by
 refine .inr ⟨x + 1, ⟨by omega, by omega⟩, by omega, ⟨by omega, ⟨rfl, by omega, trivial⟩, trivial⟩, ?_, trivial⟩
 rw [List.take_of_length_le (by rw [app_len]; exact Nat.le_refl _), cpL_succ, he, List.append_assoc]; rfl
theorem end1 {d : D} {R : List D} {x : Nat} {r : D} (h0 : 0 < R.length + x) (hr : r = listD (R ++ cpL d x)) : 0 + (R.length + x) ≤ (R ++ cpL d x).length ∧ D.list (List.take (R.length + x) (R ++ cpL d x)) = r := by
 refine ⟨by rw [app_len]; omega, ?_⟩
 rw [List.take_of_length_le (by rw [app_len]; exact Nat.le_refl _), hr]
 exact listD_some8 (by rw [app_len]; exact h0)
theorem nm_lim {c : D} (h : smallC c) {x : Nat} (hx : (x : Int) < c.len) : (cNm (el c x)).len ≤ 16777216 := by have := h.out.2 x (by omega); omega
theorem nm_all (l : D) : 0 + l.len ≤ l.asList.length := Nat.le_of_eq (Nat.zero_add _)
theorem cat_eq (c d : D) : catD c d = listD (cpL c c.len ++ cpL d d.len) := rfl
theorem s16 (c d : D) (hs : smallC c ∧ smallC d) (hb : (badZ c).2 = 0 ∧ (badZ d).2 = 0) (hl : c.len + d.len ≤ 32) : symFun (ctxr (fun | 45 => some con45 | _ => none) rfAnn) 3 16 [.dat 22 c, .dat 22 d] (.tup [.dat 22 (catD c d), .int .i64 0]) := by
 rw [vc16]
 have lc := hs.1.out.1
 have ld := hs.2.out.1
 refine ⟨Int.le_refl _, by omega, Nat.zero_lt_succ _, hs.1, fun h => absurd hb.1 h, fun _ => ⟨Or.inl ⟨0, ⟨rfl, rfl⟩, ⟨rfl, trivial, trivial⟩, trivial⟩,
  fun x hx => ⟨n_lim lc, fun hxl => ⟨by omega, hxl, fun hz => ⟨Nat.le_refl 1, by omega, by omega, stp0 hx hxl (cp_nil hz)⟩, fun hz => ⟨nm_lim hs.1 hxl, nm_all _, Nat.le_refl 1, by omega, by omega, stp0 hx hxl (cp_list hz)⟩⟩,
   fun hxl => ⟨by decide, by decide, Nat.lt_succ_self 1, hs.2, fun h => absurd hb.2 h, fun _ => ⟨Or.inl ⟨0, ⟨rfl, rfl⟩, ⟨rfl, trivial, trivial⟩, trivial⟩,
    fun y hy => ⟨n_lim ld, fun hyl => ⟨by omega, hyl, fun hz => ⟨Nat.le_refl 1, by omega, by omega, stp0 hy hyl (cp_nil hz)⟩, fun hz => ⟨nm_lim hs.2 hyl, nm_all _, Nat.le_refl 1, by omega, by omega, stp0 hy hyl (cp_list hz)⟩⟩,
     fun hyl => ⟨?_, rfl, trivial⟩⟩,
    fun y hy => ⟨n_lim ld, fun hyl => ⟨by omega, hyl, fun hz => ⟨Nat.le_refl 1, lenT _ _ _, ?_, by omega, stp1 hyl (cp_nil hz)⟩, fun hz => ⟨nm_lim hs.2 hyl, nm_all _, Nat.le_refl 1, lenT _ _ _, ?_, by omega, stp1 hyl (cp_list hz)⟩⟩,
     fun hyl => ⟨fun w => ?_, fun _ => ⟨end1 hy.1 ?_, rfl, trivial⟩⟩⟩⟩⟩⟩,
  fun x hx => ⟨n_lim lc, fun hxl => ⟨by omega, hxl, fun hz => ⟨Nat.le_refl 1, lenT _ _ _, ?_, by omega, stp1 hxl (cp_nil hz)⟩, fun hz => ⟨nm_lim hs.1 hxl, nm_all _, Nat.le_refl 1, lenT _ _ _, ?_, by omega, stp1 hxl (cp_list hz)⟩⟩,
   fun hxl => ⟨by decide, by decide, Nat.lt_succ_self 1, hs.2, fun h => absurd hb.2 h, fun _ => ⟨Or.inr ⟨0, ⟨?_, Nat.zero_le _⟩, ⟨rfl, ⟨rfl, ?_, trivial⟩, trivial⟩, ?_, trivial⟩,
    fun y hy => ⟨n_lim ld, fun hyl => ⟨by omega, hyl, fun hz => ⟨Nat.le_refl 1, by omega, by omega, stp0 hy hyl (cp_nil hz)⟩, fun hz => ⟨nm_lim hs.2 hyl, nm_all _, Nat.le_refl 1, by omega, by omega, stp0 hy hyl (cp_list hz)⟩⟩,
     fun hyl => ?_⟩,
    fun y hy => ⟨n_lim ld, fun hyl => ⟨by omega, hyl, fun hz => ⟨Nat.le_refl 1, lenT _ _ _, ?_, by omega, stp1 hyl (cp_nil hz)⟩, fun hz => ⟨nm_lim hs.2 hyl, nm_all _, Nat.le_refl 1, lenT _ _ _, ?_, by omega, stp1 hyl (cp_list hz)⟩⟩,
     fun hyl => ⟨fun w => ?_, fun _ => ⟨end1 hy.1 ?_, rfl, trivial⟩⟩⟩⟩⟩⟩⟩⟩
 ·have e1 : x = c.len := x_end (by omega) hxl
  have e2 : y = d.len := x_end (by omega) hyl
  have a : c.len = 0 := by rw [← e1]; exact hx.1
  have b : d.len = 0 := by rw [← e2]; exact hy.1
  rw [cat_eq, a, b]; rfl
 ·have z : ([] : List D).length = 0 := rfl
  omega
 ·have z : ([] : List D).length = 0 := rfl
  omega
 ·have z : ([] : List D).length = 0 := rfl
  omega
 ·have e1 : x = c.len := x_end (by omega) hxl
  have e2 : y = d.len := x_end hy.2 hyl
  have a : c.len = 0 := by rw [← e1]; exact hx.1
  rw [cat_eq, a, e2]; rfl
 ·have z : ([] : List D).length = 0 := rfl
  omega
 ·have z : ([] : List D).length = 0 := rfl
  omega
 ·rw [app_len]; exact hx.1
 ·rw [app_len]; rfl
 ·show _ = _ ++ []
  rw [List.append_nil]
 ·exfalso
  have w := congrArg List.length hy.2
  rw [app_len] at w
  have := hx.1
  rw [w] at this
  exact absurd this (Nat.lt_irrefl 0)
 ·rw [app_len]
  have z : ([] : List D).length = 0 := rfl
  omega
 ·rw [app_len]
  have z : ([] : List D).length = 0 := rfl
  omega
 ·rw [app_len] at w
  have z : ([] : List D).length = 0 := rfl
  have := hx.2
  have := hy.2
  omega
 ·have e1 : x = c.len := x_end hx.2 hxl
  have e2 : y = d.len := x_end hy.2 hyl
  rw [cat_eq, e1, e2]; rfl
end Go.Ev

end

section
open Go.Proofs
namespace Go.Ev
set_option maxRecDepth 100000
set_option maxHeartbeats 4000000
theorem vc12 : ∀ (l : D), symFun (ctxr (fun (x : FuncId) => match x with | 40 => some con40 | _ => none) rfAnn) (3 : Nat) (12 : FuncId) [V.dat (39 : TypeId) l, V.val (Value.int IntKind.i64 (16
 : Int))] (V.dat (28 : TypeId) (gsD l)) = ((0 : Int) ≤ (0 : Int) ∧ (0 : Int) ≤ min (↑l.len : Int) (16 : Int) ∧ min (↑l.len : Int) (16 : Int) ≤ (↑l.len : Int) ∧ ((∃ (x : Nat), x = (0 : Nat) ∧ ((0 : Int)
 = (0 : Int) ∧ True ∧ True) ∧ True) ∨ ∃ (x : Nat), ((0 : Nat) < x ∧ x ≤ (m16 l).len) ∧ ((0 : Int) = (↑x : Int) ∧ False ∧ True) ∧ False ∧ True) ∧ (∀ (x : Nat), x = (0 : Nat) → (m16 l).len - x < LIM ∧
 ((0 : Int) < (↑(m16 l).len : Int) → (0 : Int) ≤ (0 : Int) ∧ (0 : Int) < (↑(m16 l).len : Int) ∧ ((26 : Int) = (0 : Int) → False) ∧ ((-9223372036854775808 : Int) ≤ Int.tdiv (0 : Int) (26 : Int) ∧
 Int.tdiv (0 : Int) (26 : Int) < (9223372036854775808 : Int)) ∧ ((-9223372036854775808 : Int) ≤ (97 : Int) + Int.tdiv (0 : Int) (26 : Int) ∧ (97 : Int) + Int.tdiv (0 : Int) (26 : Int) <
 (9223372036854775808 : Int)) ∧ ((26 : Int) = (0 : Int) → False) ∧ ((-9223372036854775808 : Int) ≤ (97 : Int) + Int.tmod (0 : Int) (26 : Int) ∧ (97 : Int) + Int.tmod (0 : Int) (26 : Int) <
 (9223372036854775808 : Int)) ∧ (0 : Nat) + (2 : Nat) ≤ (gbs (0 : Int)).length ∧ byteL (List.take (2 : Nat) (gbs (0 : Int))) ∧ [(103 : UInt8)].length + (bytesD (List.take (2 : Nat) (gbs (0 :
 Int)))).length < (9223372036854775808 : Nat) ∧ (((0 : Int) ≤ cK (el (m16 l) (0 : Nat)) ∧ cK (el (m16 l) (0 : Nat)) < (256 : Int)) ∧ (0 : Int) ≤ ((el (m16 l) (0 : Nat)).fld (1 : Nat)).asInt ∧ ((el (m16
 l) (0 : Nat)).fld (1 : Nat)).asInt < (256 : Int)) ∧ (0 : Nat) + (1 : Nat) ≤ [gD (pG (cK (el (m16 l) (0 : Nat))) ((el (m16 l) (0 : Nat)).fld (1 : Nat)).asInt (gname (0 : Int)))].length ∧ (1 : Nat) ≤
 (16777216 : Nat) ∧ ((-9223372036854775808 : Int) ≤ (0 : Int) + (1 : Int) ∧ (0 : Int) + (1 : Int) < (9223372036854775808 : Int)) ∧ ((∃ (y : Nat), y = (0 : Nat) ∧ (m16 l).len - y < (m16 l).len - x ∧ ((0
 : Int) + (1 : Int) = (0 : Int) ∧ False ∧ True) ∧ True) ∨ ∃ (y : Nat), ((0 : Nat) < y ∧ y ≤ (m16 l).len) ∧ (m16 l).len - y < (m16 l).len - x ∧ ((0 : Int) + (1 : Int) = (↑y : Int) ∧ ((0 : Nat) = (0 :
 Nat) ∧ (1 : Nat) = y ∧ True) ∧ True) ∧ List.take (1 : Nat) [gD (pG (cK (el (m16 l) (0 : Nat))) ((el (m16 l) (0 : Nat)).fld (1 : Nat)).asInt (gname (0 : Int)))] = gL (m16 l) y ∧ True)) ∧ (((0 : Int) <
 (↑(m16 l).len : Int) → False) → D.nil = gsD l)) ∧ ∀ (x : Nat), (0 : Nat) < x ∧ x ≤ (m16 l).len → (m16 l).len - x < LIM ∧ ((↑x : Int) < (↑(m16 l).len : Int) → (0 : Int) ≤ (↑x : Int) ∧ (↑x : Int) <
 (↑(m16 l).len : Int) ∧ ((26 : Int) = (0 : Int) → False) ∧ ((-9223372036854775808 : Int) ≤ (↑x : Int).tdiv (26 : Int) ∧ (↑x : Int).tdiv (26 : Int) < (9223372036854775808 : Int)) ∧
 ((-9223372036854775808 : Int) ≤ (97 : Int) + (↑x : Int).tdiv (26 : Int) ∧ (97 : Int) + (↑x : Int).tdiv (26 : Int) < (9223372036854775808 : Int)) ∧ ((26 : Int) = (0 : Int) → False) ∧
 ((-9223372036854775808 : Int) ≤ (97 : Int) + (↑x : Int).tmod (26 : Int) ∧ (97 : Int) + (↑x : Int).tmod (26 : Int) < (9223372036854775808 : Int)) ∧ (0 : Nat) + (2 : Nat) ≤ (gbs (↑x : Int)).length ∧
 byteL (List.take (2 : Nat) (gbs (↑x : Int))) ∧ [(103 : UInt8)].length + (bytesD (List.take (2 : Nat) (gbs (↑x : Int)))).length < (9223372036854775808 : Nat) ∧ (((0 : Int) ≤ cK (el (m16 l) x) ∧ cK (el
 (m16 l) x) < (256 : Int)) ∧ (0 : Int) ≤ ((el (m16 l) x).fld (1 : Nat)).asInt ∧ ((el (m16 l) x).fld (1 : Nat)).asInt < (256 : Int)) ∧ (0 : Nat) + (1 : Nat) ≤ [gD (pG (cK (el (m16 l) x)) ((el (m16 l)
 x).fld (1 : Nat)).asInt (gname (↑x : Int)))].length ∧ (0 : Nat) + x ≤ (gL (m16 l) x).length ∧ x + (1 : Nat) ≤ (16777216 : Nat) ∧ ((-9223372036854775808 : Int) ≤ (↑x : Int) + (1 : Int) ∧ (↑x : Int) +
 (1 : Int) < (9223372036854775808 : Int)) ∧ ((∃ (y : Nat), y = (0 : Nat) ∧ (m16 l).len - y < (m16 l).len - x ∧ ((↑x : Int) + (1 : Int) = (0 : Int) ∧ False ∧ True) ∧ True) ∨ ∃ (y : Nat), ((0 : Nat) < y
 ∧ y ≤ (m16 l).len) ∧ (m16 l).len - y < (m16 l).len - x ∧ ((↑x : Int) + (1 : Int) = (↑y : Int) ∧ ((0 : Nat) = (0 : Nat) ∧ x + (1 : Nat) = y ∧ True) ∧ True) ∧ List.take x (gL (m16 l) x) ++ List.take (1
 : Nat) [gD (pG (cK (el (m16 l) x)) ((el (m16 l) x).fld (1 : Nat)).asInt (gname (↑x : Int)))] = gL (m16 l) y ∧ True)) ∧ (((↑x : Int) < (↑(m16 l).len : Int) → False) → (0 : Nat) + x ≤ (gL (m16 l)
 x).length ∧ D.list (List.take x (gL (m16 l) x)) = gsD l)) := by intros; kernel_rfl
theorem min_nat (l : D) (k : Nat) : (min (l.len : Int) (k : Int)).toNat ≤ l.len ∧ (min (l.len : Int) (k : Int)).toNat ≤ k := by omega
theorem m16_len (l : D) : (m16 l).len ≤ l.len ∧ (m16 l).len ≤ 16 := by
 have h := min_nat l 16
 have e : (m16 l).len = (min (l.len : Int) ((16 : Nat) : Int)).toNat := sub_len l _ h.1
 rw [e]; exact h
theorem m16_el {l : D} {x : Nat} (hx : x < (m16 l).len) : el (m16 l) x = el l x := by
 have h := min_nat l 16
 have e : (m16 l).len = (min (l.len : Int) ((16 : Nat) : Int)).toNat := sub_len l _ h.1
 exact sub_el l _ x (by omega)
theorem gL_len (l : D) (n : Nat) : (gL l n).length = n := by unfold gL; rw [List.length_map, List.length_range]
theorem gL_succ (l : D) (x : Nat) : gL l (x + 1) = gL l x ++ [gE l x] := by unfold gL; rw [List.range_succ, List.map_append]; rfl
theorem gL_app {l : D} {x : Nat} {e : D} (h : e = gE l x) : List.take x (gL l x) ++ List.take 1 [e] = gL l (x + 1) := by
 subst h; rw [gL_succ, List.take_of_length_le (by rw [gL_len]; exact Nat.le_refl _)]; rfl
theorem u8w (n : Int) : 0 ≤ IntKind.u8.wrap n ∧ IntKind.u8.wrap n < 256 := by
 show 0 ≤ n.emod 256 ∧ n.emod 256 < 256
 exact ⟨Int.emod_nonneg _ (by decide), Int.emod_lt_of_pos _ (by decide)⟩
theorem u8n (n : Int) : (IntKind.u8.wrap n).toNat < 256 ∧ IntKind.u8.wrap n = ((IntKind.u8.wrap n).toNat : Int) := by
 have := u8w n
 omega
theorem gbs_byte (i : Int) : byteL (List.take 2 (gbs i)) := ⟨fun d hd => by
 have hd : d ∈ gbs i := hd
 unfold gbs at hd
 rcases List.mem_cons.1 hd with h | h
 ·subst h; exact ⟨_, (u8n _).1, congrArg D.int (u8n _).2⟩
 ·rcases List.mem_cons.1 h with h | h
  ·subst h; exact ⟨_, (u8n _).1, congrArg D.int (u8n _).2⟩
  ·cases h⟩
theorem listD_some {l : List D} (h : 0 < l.length) : D.list l = listD l := by
 cases l with
 | nil => cases h
 | cons a l => rfl
theorem tdiv26 {x : Int} (h : 0 ≤ x) : 0 ≤ x.tdiv 26 ∧ x.tdiv 26 ≤ x ∧ 0 ≤ x.tmod 26 ∧ x.tmod 26 < 26 := by
 rw [Int.tdiv_eq_ediv_of_nonneg h, Int.tmod_eq_emod_of_nonneg h]; omega
theorem s12 (l : D) (hu : u8Ps l) : symFun (ctxr (fun | 40 => some con40 | _ => none) rfAnn) 3 12 [.dat 39 l, .val (.int .i64 16)] (.dat 28 (gsD l)) := by
 rw [vc12]
 have hl := m16_len l
 have hp : ∀ x, x < (m16 l).len → u8P (el (m16 l) x) := fun x h => by rw [m16_el h]; exact hu.out x (by omega)
 have t0 := tdiv26 (Int.le_refl 0)
 refine ⟨Int.le_refl _, by omega, by omega, Or.inl ⟨0, rfl, ⟨rfl, trivial, trivial⟩, trivial⟩, fun x hx => ⟨n_lim (by omega), fun h => ?_, fun h => ?_⟩, fun x hx => ⟨n_lim (by omega), fun h => ?_, fun h => ⟨by rw [gL_len]; omega, ?_⟩⟩⟩
 ·have hq := (hp 0 (by omega)).out
  subst hx
  refine ⟨Int.le_refl _, h, fun h => absurd h (by decide), by omega, by omega, fun h => absurd h (by decide), by omega, ?_, gbs_byte _, ?_, hq, Nat.le_refl _, by omega, by omega, Or.inr ⟨1, ⟨by omega, by omega⟩, by omega, ⟨rfl, ⟨rfl, rfl, trivial⟩, trivial⟩, ?_, trivial⟩⟩
  ·exact Nat.le_refl 2
  ·show 1 + 2 < 9223372036854775808; omega
  ·exact gL_app (x := 0) rfl
 ·have e : (m16 l).len = 0 := by have h : ¬ (0 : Int) < ((m16 l).len : Int) := h; omega
  show D.nil = listD (gL (m16 l) (m16 l).len)
  rw [e]; rfl
 ·have hq := (hp x (by omega)).out
  have t := tdiv26 (x := (x : Int)) (by omega)
  refine ⟨by omega, h, fun h => absurd h (by decide), by omega, by omega, fun h => absurd h (by decide), by omega, ?_, gbs_byte _, ?_, hq, Nat.le_refl _, by rw [gL_len]; omega, by omega, by omega, Or.inr ⟨x + 1, ⟨by omega, by omega⟩, by omega, ⟨by omega, ⟨rfl, rfl, trivial⟩, trivial⟩, gL_app rfl, trivial⟩⟩
  ·exact Nat.le_refl 2
  ·show 1 + 2 < 9223372036854775808; omega
 ·have e := x_end hx.2 h
  subst e
  rw [List.take_of_length_le (by rw [gL_len]; exact Nat.le_refl _)]
  exact listD_some (by rw [gL_len]; exact hx.1)
end Go.Ev

end

section
open Go.Proofs
namespace Go.Ev
set_option maxRecDepth 100000
theorem m_range {d : D} (hd : u8C d) : 1 ≤ mK d ∧ mK d ≤ 10 := by
 have h := hd.out.1
 have e : mK d = (1 + ((d.fld 0).asInt).tmod 10) % 256 := rfl
 rw [e, Int.tmod_eq_emod_of_nonneg h.1]
 omega
theorem lets_nm {k : Int} (h : 0 ≤ k ∧ k ≤ 3) : nameP (lets k) := by
 have hk : k = 0 ∨ k = 1 ∨ k = 2 ∨ k = 3 := by omega
 rcases hk with rfl | rfl | rfl | rfl
 all_goals exact ⟨by decide, by decide, fun i hi => by
  have hi : i < 1 := hi
  have : i = 0 := by omega
  subst this
  exact ⟨by decide, by decide⟩⟩
theorem lets_ne {k j : Int} (h : 0 ≤ k ∧ k ≤ 3) (h' : 0 ≤ j ∧ j ≤ 3) (hn : k ≠ j) : lets k ≠ lets j := by
 have hk : k = 0 ∨ k = 1 ∨ k = 2 ∨ k = 3 := by omega
 have hj : j = 0 ∨ j = 1 ∨ j = 2 ∨ j = 3 := by omega
 rcases hk with rfl | rfl | rfl | rfl
 all_goals (rcases hj with rfl | rfl | rfl | rfl)
 all_goals first
  | exact absurd rfl hn
  | decide
theorem nm1_name {d : D} (hd : u8C d) : nameP (nm1 d) := lets_nm (mod4 hd.out.2.2.1)
theorem nm2_name {d : D} : nameP (nm2 d) := lets_nm (mod4 (u8w8 _).1)
theorem nm_ne {d : D} (hd : u8C d) : nm1 d ≠ nm2 d := by
 have h := hd.out.2.2
 refine lets_ne (mod4 h.1) (mod4 (u8w8 _).1) ?_
 have e : IntKind.u8.wrap ((d.fld 2).asInt + 1) = ((d.fld 2).asInt + 1) % 256 := rfl
 rw [e, Int.tmod_eq_emod_of_nonneg h.1, Int.tmod_eq_emod_of_nonneg (by omega)]
 omega
theorem names_ok {d : D} (hd : u8C d) : 1 ≤ (D.list (mNm d)).len ∧ (D.list (mNm d)).len ≤ 2 ∧ ¬ badNm (.list (mNm d)) ∧ ¬ twiceP (.list (mNm d)) ∧ sAt (.list (mNm d)) 0 = nm1 d := by
 unfold mNm
 split
 ·refine ⟨Nat.le_refl 1, Nat.le_succ 1, fun q => ?_, fun q => ?_, rfl⟩
  ·obtain ⟨i, h1, h2⟩ := q.out
   have h1 : i < 1 := h1
   have : i = 0 := by omega
   subst this
   exact h2 (nm1_name hd)
  ·obtain ⟨i, k, h1, h2, _⟩ := q.out
   have h2 : i < 1 := h2
   omega
 ·refine ⟨Nat.le_succ 1, Nat.le_refl 2, fun q => ?_, fun q => ?_, rfl⟩
  ·obtain ⟨i, h1, h2⟩ := q.out
   have h1 : i < 2 := h1
   have : i = 0 ∨ i = 1 := by omega
   rcases this with rfl | rfl
   ·exact h2 (nm1_name hd)
   ·exact h2 nm2_name
  ·obtain ⟨i, k, h1, h2, h3⟩ := q.out
   have h2 : i < 2 := h2
   have e1 : i = 1 := by omega
   have e2 : k = 0 := by omega
   subst e1 e2
   exact nm_ne hd h3
theorem nil_ok : ¬ badNm .nil ∧ ¬ twiceP .nil := ⟨fun q => by obtain ⟨i, h1, _⟩ := q.out; exact absurd h1 (Nat.not_lt_zero _), fun q => by obtain ⟨i, k, _, h2, _⟩ := q.out; exact absurd h2 (Nat.not_lt_zero _)⟩
structure okM (d e : D) (r : List UInt8) : Prop where
 form : formP (cK e) (cA e) (cL e) (cNm e).len (cN e)
 bad : ¬ badNm (cNm e)
 twice : ¬ twiceP (cNm e)
 kind : cK e = mK d
 am : cA e = mAm d r
 nms : mK d = 1 → cNm e = .list (mNm d)
 few : (cNm e).len ≤ 2
theorem mC_ok {d : D} (hd : u8C d) (r : List UInt8) : okM d (mC d r) r := by
 have no := names_ok hd
 have mr := m_range hd
 by_cases h1 : mK d = 1
 ·rw [← mC1 h1 rfl rfl]
  exact ⟨⟨.inl ⟨h1, no.1, by have := no.2.1; show (D.list (mNm d)).len ≤ 16; omega, rfl, (fun h => by cases h), (am_n2 (d := d) fun k => k h1).symm⟩⟩, no.2.2.1, no.2.2.2.1, rfl, rfl, fun _ => rfl, no.2.1⟩
 ·by_cases h4 : mK d = 4
  ·rw [← mC4 h4 rfl]
   have w2 := w_mod hd.out.2.1 2 (by omega)
   refine ⟨⟨.inr (.inr (.inl ⟨h4, rfl, ?_, ?_⟩))⟩, nil_ok.1, nil_ok.2, rfl, rfl, fun h => absurd h h1, Nat.zero_le _⟩
   ·show 1 ≤ 1 + IntKind.i64.wrap (((d.fld 1).asInt).tmod 2); omega
   ·show 1 + IntKind.i64.wrap (((d.fld 1).asInt).tmod 2) ≤ 2; omega
  ·by_cases h5 : mK d = 5
   ·rw [← mC5 h5 rfl]
    exact ⟨⟨.inr (.inr (.inr (.inl ⟨h5, rfl, rfl⟩)))⟩, nil_ok.1, nil_ok.2, rfl, rfl, fun h => absurd h h1, Nat.zero_le _⟩
   ·by_cases h6 : mK d = 6
    ·rw [← mC6 h6 rfl rfl]
     exact ⟨⟨.inr (.inr (.inr (.inr (.inl ⟨.inl h6, no.1, by have := no.2.1; show (D.list (mNm d)).len ≤ 16; omega, rfl⟩))))⟩, no.2.2.1, no.2.2.2.1, rfl, rfl, fun h => absurd h h1, no.2.1⟩
    ·by_cases h7 : mK d = 7
     ·rw [← mC7 h7 rfl rfl]
      exact ⟨⟨.inr (.inr (.inr (.inr (.inl ⟨.inr h7, no.1, by have := no.2.1; show (D.list (mNm d)).len ≤ 16; omega, rfl⟩))))⟩, no.2.2.1, no.2.2.2.1, rfl, rfl, fun h => absurd h h1, no.2.1⟩
     ·by_cases h10 : mK d = 10
      ·rw [← mC10 h10 rfl]
       have w64 := w_mod hd.out.2.1 64 (by omega)
       refine ⟨⟨.inr (.inr (.inr (.inr (.inr ⟨h10, rfl, ?_, ?_, fun h => by cases h⟩))))⟩, nil_ok.1, nil_ok.2, rfl, rfl, fun h => absurd h h1, Nat.zero_le _⟩
       ·show 0 ≤ IntKind.i64.wrap (((d.fld 1).asInt).tmod 64); omega
       ·show IntKind.i64.wrap (((d.fld 1).asInt).tmod 64) ≤ 63; omega
      ·rw [← mC0 h1 h4 h5 h6 h7 h10 rfl]
       refine ⟨⟨.inr (.inl ⟨?_, rfl, rfl, fun h => by cases h⟩)⟩, nil_ok.1, nil_ok.2, rfl, rfl, fun h => absurd h h1, Nat.zero_le _⟩
       show mK d = 2 ∨ mK d = 3 ∨ mK d = 8 ∨ mK d = 9
       omega
theorem mD_len (l : D) : (mD l).len = (m8 l).len := by
 show (listD _).asList.length = _
 rw [listD_asl, mL_len]
theorem mD_el (l : D) {i : Nat} (h : i < (m8 l).len) : el (mD l) i = mC (el (m8 l) i) (mR (m8 l) i) := by
 show nthD (listD _).asList i = _
 rw [listD_asl]
 unfold nthD mL
 rw [List.getElem?_map, List.getElem?_range h]; rfl
theorem mR_from (m : D) : ∀ i, mR m i ≠ [] → ∃ k, k < i ∧ mK (el m k) = 1 ∧ nm1 (el m k) = mR m i
 | 0, h => absurd rfl h
 | i + 1, h => by
  by_cases e : mK (el m i) = 1
  ·exact ⟨i, Nat.lt_succ_self _, e, mR_y e⟩
  ·rw [← mR_n e] at h
   obtain ⟨k, h1, h2, h3⟩ := mR_from m i h
   exact ⟨k, by omega, h2, by rw [← mR_n e]; exact h3⟩
theorem am_cases (d : D) (r : List UInt8) : mAm d r = r ∨ mAm d r = [] := by
 unfold mAm; split
 ·exact .inl rfl
 ·exact .inr rfl
theorem m8_u8 {l : D} (hu : u8Cs l) {i : Nat} (h : i < (m8 l).len) : u8C (el (m8 l) i) := by
 have := m8_len l
 rw [m8_el h]; exact hu.out i (by omega)
theorem mD_small {l : D} (hu : u8Cs l) : smallC (mD l) := by
 have := m8_len l
 refine ⟨by rw [mD_len]; omega, fun i hi => ?_⟩
 rw [mD_len] at hi
 rw [mD_el l hi]
 have := (mC_ok (m8_u8 hu hi) (mR (m8 l) i)).few
 omega
theorem mD_bad {l : D} (hu : u8Cs l) : (badZ (mD l)).2 = 0 := by
 have hl := m8_len l
 refine bad_all (by rw [mD_len]; omega) fun i hi => ?_
 rw [mD_len] at hi
 unfold err1
 rw [mD_el l hi]
 have ok := mC_ok (m8_u8 hu hi) (mR (m8 l) i)
 refine err_zero.2 ⟨ok.form, ok.bad, fun q => ?_, ok.twice, fun q => ?_⟩
 ·rw [ok.am] at q
  rcases am_cases (el (m8 l) i) (mR (m8 l) i) with e | e
  ·rw [e] at q
   obtain ⟨k, h1, _, h3⟩ := mR_from _ _ q.1
   rw [← h3] at q
   exact q.2 (nm1_name (m8_u8 hu (by omega)))
  ·exact q.1 e
 ·rw [ok.am] at q
  rcases am_cases (el (m8 l) i) (mR (m8 l) i) with e | e
  ·rw [e] at q
   obtain ⟨k, h1, h2, h3⟩ := mR_from _ _ q.1
   have kk := mC_ok (m8_u8 hu (show k < (m8 l).len by omega)) (mR (m8 l) k)
   have no := names_ok (m8_u8 hu (show k < (m8 l).len by omega))
   refine q.2 ⟨k, h1, ?_, ?_⟩
   ·rw [mD_el l (by omega), kk.kind]; exact h2
   ·rw [mD_el l (by omega), kk.nms h2]
    exact ⟨0, by have := no.1; omega, by rw [no.2.2.2.2]; exact h3⟩
  ·exact q.1 e
theorem gsD_el (l : D) {i : Nat} (h : i < (m16 l).len) : el (gsD l) i = gE (m16 l) i := by
 show nthD (listD _).asList i = _
 rw [listD_asl]
 unfold nthD gL
 rw [List.getElem?_map, List.getElem?_range h]; rfl
theorem gsD_len (l : D) : (gsD l).len = (m16 l).len := by
 show (listD _).asList.length = _
 rw [listD_asl, gL_len]
theorem gs_tg (l : D) {i : Nat} (h : i < (gsD l).len) : ((el (gsD l) i).fld (Nat.succ 6).succ).len ≤ 100 := by
 rw [gsD_len] at h
 rw [gsD_el l h]
 show (pTg _ _).len ≤ 100
 unfold pTg; split
 ·exact Nat.zero_le _
 ·show 1 ≤ 100; omega
end Go.Ev

end

section
open Go.Proofs
namespace Go.Ev
set_option maxRecDepth 100000
set_option maxHeartbeats 4000000
theorem vc5 : ∀ (a b ps : D), symFun (ctxr rf5 rfAnn) (3 : Nat) (5 : FuncId) [V.dat (31 : TypeId) a, V.dat (31 : TypeId) b, V.dat (39 : TypeId) ps] (V.prop True) = (u8Cs a ∧ u8Cs b ∧ u8Ps ps ∧
 ((smallC (mD a) ∧ smallC (mD b)) ∧ ((badZ (mD a)).snd = (0 : Int) ∧ (badZ (mD b)).snd = (0 : Int)) ∧ (mD a).len + (mD b).len ≤ (32 : Nat)) ∧ ((((0 : Int) = (0 : Int) → False) → False) →
 ((-9223372036854775808 : Int) ≤ (↑(mD a).len : Int) + (↑(mD b).len : Int) ∧ (↑(mD a).len : Int) + (↑(mD b).len : Int) < (9223372036854775808 : Int)) ∧ (((↑(catD (mD a) (mD b)).len : Int) = (↑(mD
 a).len : Int) + (↑(mD b).len : Int) → False) → (false = true ↔ True)) ∧ ((((↑(catD (mD a) (mD b)).len : Int) = (↑(mD a).len : Int) + (↑(mD b).len : Int) → False) → False) → (∃ (x : Nat), x.le (gsD
 ps).len ∧ ((0 : Int) = (↑x : Int) ∧ True) ∧ True) ∧ ∀ (x : Nat), x.le (gsD ps).len → (gsD ps).len - x < LIM ∧ ((↑x : Int) < (↑(gsD ps).len : Int) → (∃ (x : Nat), x.le (gsD ps).len ∧ ((0 : Int) = (↑x :
 Int) ∧ True) ∧ True) ∧ ∀ (x_1 : Nat), x_1.le (gsD ps).len → (gsD ps).len - x_1 < LIM ∧ ((↑x_1 : Int) < (↑(gsD ps).len : Int) → (0 : Int) ≤ (↑x : Int) ∧ (↑x : Int) < (↑(gsD ps).len : Int) ∧ (0 : Int) ≤
 (↑x_1 : Int) ∧ (↑x_1 : Int) < (↑(gsD ps).len : Int) ∧ (smallC (mD a) ∧ ((el (gsD ps) x).fld (Nat.succ (6 : Nat)).succ).len ≤ (100 : Nat) ∧ ((el (gsD ps) x_1).fld (Nat.succ (6 : Nat)).succ).len ≤ (100
 : Nat)) ∧ ((reaZ (mD a) (gAt (el (gsD ps) x)) (gAt (el (gsD ps) x_1)) (↑x : Int) (↑x_1 : Int)).snd = (0 : Int) → (0 : Int) ≤ (↑x : Int) ∧ (↑x : Int) < (↑(gsD ps).len : Int) ∧ (0 : Int) ≤ (↑x_1 : Int)
 ∧ (↑x_1 : Int) < (↑(gsD ps).len : Int) ∧ (smallC (mD b) ∧ ((el (gsD ps) x).fld (Nat.succ (6 : Nat)).succ).len ≤ (100 : Nat) ∧ ((el (gsD ps) x_1).fld (Nat.succ (6 : Nat)).succ).len ≤ (100 : Nat)) ∧ (0
 : Int) ≤ (↑x : Int) ∧ (↑x : Int) < (↑(gsD ps).len : Int) ∧ (0 : Int) ≤ (↑x_1 : Int) ∧ (↑x_1 : Int) < (↑(gsD ps).len : Int) ∧ (smallC (catD (mD a) (mD b)) ∧ ((el (gsD ps) x).fld (Nat.succ (6 :
 Nat)).succ).len ≤ (100 : Nat) ∧ ((el (gsD ps) x_1).fld (Nat.succ (6 : Nat)).succ).len ≤ (100 : Nat)) ∧ (((reaZ (catD (mD a) (mD b)) (gAt (el (gsD ps) x)) (gAt (el (gsD ps) x_1)) (↑x : Int) (↑x_1 :
 Int)).snd = (reaZ (mD b) (gAt (el (gsD ps) x)) (gAt (el (gsD ps) x_1)) (↑x : Int) (↑x_1 : Int)).snd → False) → (false = true ↔ True)) ∧ ((((reaZ (catD (mD a) (mD b)) (gAt (el (gsD ps) x)) (gAt (el
 (gsD ps) x_1)) (↑x : Int) (↑x_1 : Int)).snd = (reaZ (mD b) (gAt (el (gsD ps) x)) (gAt (el (gsD ps) x_1)) (↑x : Int) (↑x_1 : Int)).snd → False) → False) → ((-9223372036854775808 : Int) ≤ (↑x_1 : Int) +
 (1 : Int) ∧ (↑x_1 : Int) + (1 : Int) < (9223372036854775808 : Int)) ∧ ∃ (y : Nat), y.le (gsD ps).len ∧ (gsD ps).len - y < (gsD ps).len - x_1 ∧ ((↑x_1 : Int) + (1 : Int) = (↑y : Int) ∧ True) ∧ True)) ∧
 (((reaZ (mD a) (gAt (el (gsD ps) x)) (gAt (el (gsD ps) x_1)) (↑x : Int) (↑x_1 : Int)).snd = (0 : Int) → False) → (0 : Int) ≤ (↑x : Int) ∧ (↑x : Int) < (↑(gsD ps).len : Int) ∧ (0 : Int) ≤ (↑x_1 : Int)
 ∧ (↑x_1 : Int) < (↑(gsD ps).len : Int) ∧ (smallC (catD (mD a) (mD b)) ∧ ((el (gsD ps) x).fld (Nat.succ (6 : Nat)).succ).len ≤ (100 : Nat) ∧ ((el (gsD ps) x_1).fld (Nat.succ (6 : Nat)).succ).len ≤ (100
 : Nat)) ∧ (((reaZ (catD (mD a) (mD b)) (gAt (el (gsD ps) x)) (gAt (el (gsD ps) x_1)) (↑x : Int) (↑x_1 : Int)).snd = (reaZ (mD a) (gAt (el (gsD ps) x)) (gAt (el (gsD ps) x_1)) (↑x : Int) (↑x_1 :
 Int)).snd → False) → (false = true ↔ True)) ∧ ((((reaZ (catD (mD a) (mD b)) (gAt (el (gsD ps) x)) (gAt (el (gsD ps) x_1)) (↑x : Int) (↑x_1 : Int)).snd = (reaZ (mD a) (gAt (el (gsD ps) x)) (gAt (el
 (gsD ps) x_1)) (↑x : Int) (↑x_1 : Int)).snd → False) → False) → ((-9223372036854775808 : Int) ≤ (↑x_1 : Int) + (1 : Int) ∧ (↑x_1 : Int) + (1 : Int) < (9223372036854775808 : Int)) ∧ ∃ (y : Nat), y.le
 (gsD ps).len ∧ (gsD ps).len - y < (gsD ps).len - x_1 ∧ ((↑x_1 : Int) + (1 : Int) = (↑y : Int) ∧ True) ∧ True))) ∧ (((↑x_1 : Int) < (↑(gsD ps).len : Int) → False) → ((-9223372036854775808 : Int) ≤ (↑x
 : Int) + (1 : Int) ∧ (↑x : Int) + (1 : Int) < (9223372036854775808 : Int)) ∧ ∃ (y : Nat), y.le (gsD ps).len ∧ (gsD ps).len - y < (gsD ps).len - x ∧ ((↑x : Int) + (1 : Int) = (↑y : Int) ∧ True) ∧
 True)) ∧ (((↑x : Int) < (↑(gsD ps).len : Int) → False) → (true = true ↔ True)))) ∧ (((0 : Int) = (0 : Int) → False) → (false = true ↔ True))) := by intros; kernel_rfl
theorem rea_l {c d : D} (hc : (badZ c).2 = 0) (hd : (badZ d).2 = 0) (hl : c.len + d.len ≤ 32) {a b : GD} {i j : Int} (h : (reaZ c a b i j).2 = 0 → False) : (reaZ (catD c d) a b i j).2 = (reaZ c a b i j).2 := by
 rw [rea_cat hc hd hl, if_pos h]
theorem rea_r {c d : D} (hc : (badZ c).2 = 0) (hd : (badZ d).2 = 0) (hl : c.len + d.len ≤ 32) {a b : GD} {i j : Int} (h : (reaZ c a b i j).2 = 0) : (reaZ (catD c d) a b i j).2 = (reaZ d a b i j).2 := by
 rw [rea_cat hc hd hl, if_neg (fun k => k h)]
theorem sl5 (a b ps : D) (ha : u8Cs a) (hb : u8Cs b) (hp : u8Ps ps) : symFun (ctxr rf5 rfAnn) 3 5 [.dat 31 a, .dat 31 b, .dat 39 ps] (.prop True) := by
 rw [vc5]
 have h1 := m8_len a
 have h2 := m8_len b
 have h3 := m16_len ps
 have l1 := mD_len a
 have l2 := mD_len b
 have l3 := gsD_len ps
 have ba := mD_bad ha
 have bb := mD_bad hb
 have hs : (mD a).len + (mD b).len ≤ 32 := by omega
 have cl := cat_len (mD a) (mD b)
 refine ⟨ha, hb, hp, ⟨⟨mD_small ha, mD_small hb⟩, ⟨ba, bb⟩, hs⟩, fun _ => ⟨by omega, fun h => absurd (show ((catD (mD a) (mD b)).len : Int) = (mD a).len + (mD b).len by omega) h, fun _ => ⟨⟨0, Nat.zero_le _, ⟨rfl, trivial⟩, trivial⟩, fun x hx => ⟨n_lim (by omega), fun hxl =>
  ⟨⟨0, Nat.zero_le _, ⟨rfl, trivial⟩, trivial⟩, fun y hy => ⟨n_lim (by omega), fun hyl => ?_, fun hyl => ⟨by omega, x + 1, by show x + 1 ≤ _; omega, by omega, ⟨by omega, trivial⟩, trivial⟩⟩⟩, fun _ => nt trivial⟩⟩⟩, fun h => absurd rfl h⟩
 have tx := gs_tg ps (i := x) (by omega)
 have ty := gs_tg ps (i := y) (by omega)
 have bx : 0 ≤ (x : Int) := by omega
 have by' : 0 ≤ (y : Int) := by omega
 have nx : (-9223372036854775808 ≤ (y : Int) + 1 ∧ (y : Int) + 1 < 9223372036854775808) ∧ ∃ z : Nat, z.le (gsD ps).len ∧ (gsD ps).len - z < (gsD ps).len - y ∧ ((y : Int) + 1 = (z : Int) ∧ True) ∧ True :=
  ⟨by omega, y + 1, by show y + 1 ≤ _; omega, by omega, ⟨by omega, trivial⟩, trivial⟩
 have sc := cat_small (mD_small ha) (mD_small hb) hs
 exact ⟨bx, hxl, by', hyl, ⟨mD_small ha, tx, ty⟩,
  fun h => ⟨bx, hxl, by', hyl, ⟨mD_small hb, tx, ty⟩, bx, hxl, by', hyl, ⟨sc, tx, ty⟩, fun k => absurd (rea_r ba bb hs h) k, fun _ => nx⟩,
  fun h => ⟨bx, hxl, by', hyl, ⟨sc, tx, ty⟩, fun k => absurd (rea_l ba bb hs h) k, fun _ => nx⟩⟩
end Go.Ev

end

section
open Go.Proofs
namespace Go.Ev
set_option maxRecDepth 100000
noncomputable def con5r : Con := fun | [.dat 31 a, .dat 31 b, .dat 39 ps] => some (u8Cs a ∧ u8Cs b ∧ u8Ps ps, .prop True) | _ => none
theorem v40 : ∀ d, 5 ≤ d → VC d 40 con40 := fun d hd =>
 valid_of_symF (C := ctxr (fun _ => none) rfAnn) (G := GC) (B := 2) (m := 3) rfl rfl rfl (fun d _ => vnone d) (fun _ _ _ _ h => (noneF h).elim) (fun us p r hc hp ht => by
  unfold con40 at hc
  split at hc
  ·cases hc; exact s40 _ _ _ hp.1 hp.2
  ·cases hc) (fun _ _ => rfl) rfl rfl d hd
theorem v11 : ∀ d, 5 ≤ d → VC d 11 con11 := fun d hd =>
 valid_of_symF (C := ctxr (fun _ => none) rfAnn) (G := GC) (B := 2) (m := 3) rfl rfl rfl (fun d _ => vnone d) (fun _ _ _ _ h => (noneF h).elim) (fun us p r hc hp ht => by
  unfold con11 at hc
  split at hc
  ·cases hc; exact s11 _ hp
  ·cases hc) (fun _ _ => rfl) rfl rfl d hd
theorem rf40_only {g : FuncId} {c : Con} (h : (fun | 40 => some con40 | _ => none : FuncId → Option Con) g = some c) : g = 40 ∧ con40 = c := by
 dsimp only at h
 split at h
 ·cases h; exact ⟨rfl, rfl⟩
 ·cases h
theorem rf45_only {g : FuncId} {c : Con} (h : (fun | 45 => some con45 | _ => none : FuncId → Option Con) g = some c) : g = 45 ∧ con45 = c := by
 dsimp only at h
 split at h
 ·cases h; exact ⟨rfl, rfl⟩
 ·cases h
theorem v12 : ∀ d, 8 ≤ d → VC d 12 con12 := fun d hd =>
 valid_of_symF (C := ctxr (fun | 40 => some con40 | _ => none) rfAnn) (G := GC) (B := 5) (m := 3) rfl rfl rfl (fun d hd g c h => by
  obtain ⟨rfl, rfl⟩ := rf40_only h
  exact v40 d hd) (fun _ _ _ _ h => (noneF h).elim) (fun us p r hc hp ht => by
  unfold con12 at hc
  split at hc
  ·cases hc; exact s12 _ hp
  ·cases hc) (fun _ _ => rfl) rfl rfl d hd
theorem v16 : ∀ d, 28 ≤ d → VC d 16 con16 := fun d hd =>
 valid_of_symF (C := ctxr (fun | 45 => some con45 | _ => none) rfAnn) (G := GC) (B := 25) (m := 3) rfl rfl rfl (fun d hd g c h => by
  obtain ⟨rfl, rfl⟩ := rf45_only h
  exact v45 d hd) (fun _ _ _ _ h => (noneF h).elim) (fun us p r hc hp ht => by
  unfold con16 at hc
  split at hc
  ·cases hc; exact s16 _ _ hp.1 hp.2.1 hp.2.2
  ·cases hc) (fun _ _ => rfl) rfl rfl d hd
theorem vrf5 : ∀ d, 38 ≤ d → ∀ g c, rf5 g = some c → VC d g c := fun d hd g c h => by
 unfold rf5 at h
 split at h
 ·cases h; exact v11 d (by omega)
 ·cases h; exact v12 d (by omega)
 ·cases h; exact v14 d (by omega)
 ·cases h; exact v16 d (by omega)
 ·cases h
theorem v5r : ∀ d, 41 ≤ d → VC d 5 con5r := fun d hd =>
 valid_of_symF (C := ctxr rf5 rfAnn) (G := GC) (B := 38) (m := 3) rfl rfl rfl vrf5 (fun _ _ _ _ h => (noneF h).elim) (fun us p r hc hp ht => by
  unfold con5r at hc
  split at hc
  ·cases hc; exact sl5 _ _ _ hp.1 hp.2.1 hp.2.2
  ·cases hc) (fun _ _ => rfl) rfl rfl d hd
section
variable {P : Program}
theorem ok_int {f : Nat} {t : TypeId} {d : D} {k : IntKind} (hu : P.underlying t = some (.int k)) (h : okD P (f + 1) t d) : inR k d.asInt := by
 unfold okD at h; rw [hu] at h
 obtain ⟨n, rfl, hr⟩ := h
 exact hr
theorem ok_slice {f : Nat} {t e : TypeId} {d : D} (hu : P.underlying t = some (.slice e)) (h : okD P (f + 1) t d) : ∀ i, i < d.len → okD P f e (el d i) := by
 unfold okD at h; rw [hu] at h
 rcases h with rfl | ⟨l, rfl, _, h⟩
 ·exact fun i hi => by simp [D.len, D.asList] at hi
 ·refine fun i hi => h i _ ?_
  have hi : i < l.length := hi
  show l[i]? = some (nthD l i)
  unfold nthD
  rw [List.getElem?_eq_getElem hi]; rfl
theorem ok_clause {f : Nat} {t u : TypeId} {d : D} {f0 f1 f2 f3 f4 : Field} (hu : P.underlying t = some (.struct #[f0, f1, f2, f3, f4])) (h0 : f0.type = u) (h1 : f1.type = u) (h2 : f2.type = u)
  (hb : P.underlying u = some (.int .u8)) (h : okD P (f + 2) t d) : u8C d := by
 unfold okD at h; rw [hu] at h
 obtain ⟨ds, rfl, hl, hf⟩ := h
 match ds, hl with
 | [a, b, c, x, y], _ => exact ⟨ok_int hb (h0 ▸ hf 0 _ a rfl rfl), ok_int hb (h1 ▸ hf 1 _ b rfl rfl), ok_int hb (h2 ▸ hf 2 _ c rfl rfl)⟩
theorem ok_person {f : Nat} {t u : TypeId} {d : D} {f0 f1 : Field} (hu : P.underlying t = some (.struct #[f0, f1])) (h0 : f0.type = u) (h1 : f1.type = u)
  (hb : P.underlying u = some (.int .u8)) (h : okD P (f + 2) t d) : u8P d := by
 unfold okD at h; rw [hu] at h
 obtain ⟨ds, rfl, hl, hf⟩ := h
 match ds, hl with
 | [a, b], _ => exact ⟨ok_int hb (h0 ▸ hf 0 _ a rfl rfl), ok_int hb (h1 ▸ hf 1 _ b rfl rfl)⟩
end
theorem ok31 {d : D} (h : okD Tryz.prog 20 31 d) : u8Cs d := ⟨fun i hi => ok_clause Tryz.underlying76 rfl rfl rfl Tryz.underlying5 (ok_slice Tryz.underlying31 h i hi)⟩
theorem ok39 {d : D} (h : okD Tryz.prog 20 39 d) : u8Ps d := ⟨fun i hi => ok_person Tryz.underlying33 rfl rfl Tryz.underlying5 (ok_slice Tryz.underlying39 h i hi)⟩
end Go.Ev

end

section
open Go.Proofs Go.Proofs.YtidhienppjdimaaGreatDoor
namespace Go.Ev
open Go.ChangeShapes Go.WideShapes Go.ChangeAt Go.RowKit
theorem arr_ints {P : Program} {w : World} {n e : Nat} {k : IntKind} {t : TypeId} {fuel : Nat} {cs : List Value} {zs : List Int} {p : List MemPlace} {enc : TypeId × Value → Unit} {base : Nat} {sp : Nat → Bool} {held : Bool}
  (ht : P.underlying t = some (.array n e)) (he : P.underlying e = some (.int k)) (hc1 : P.cellsOf e = 1) (hct : P.cellsOf t = n)
  (h : DataW.trod enc P w base sp held fuel t cs = some (.agg (zs.map fun z => .lit (.int k z)), p)) : cs = zs.map (Value.int k) := by
 obtain ⟨xs, m, _, ex, hlen, hxl, hel⟩ := DataW.trod_array ht h
 have e3 : (zs.map fun z => (DataW.lit (.int k z) : DataW Unit)) = xs.map (·.1) := DataW.agg.inj (Prod.mk.inj ex).1
 have hzl : zs.length = n := by have := congrArg List.length e3; simp at this; omega
 rw [hct] at hlen
 refine List.ext_getElem? fun i => ?_
 by_cases hi : i < n
 ·have k0 := hel i hi
  rw [hc1, Nat.mul_one, List.getElem?_eq_getElem (by omega : i < xs.length)] at k0
  obtain ⟨z, e1, e2, _⟩ := DataW.trod_int he k0
  have h0 : ((cs.drop i).take 1)[0]? = some (.int k z) := by rw [e1]; rfl
  have h1 : cs[i]? = some (.int k z) := by simpa using h0
  have h2 : (zs.map fun z => (DataW.lit (.int k z) : DataW Unit))[i]? = (xs.map (·.1))[i]? := by rw [e3]
  rw [List.getElem?_map, List.getElem?_map, List.getElem?_eq_getElem (by omega : i < zs.length), List.getElem?_eq_getElem (by omega : i < xs.length), e2] at h2
  simp only [Option.map_some, Option.some.injEq, DataW.lit.injEq, Lit.int.injEq, true_and] at h2
  rw [h1, List.getElem?_map, List.getElem?_eq_getElem (by omega : i < zs.length), Option.map_some, h2]
 ·rw [List.getElem?_eq_none (by omega), List.getElem?_eq_none (by simp; omega)]
theorem bytes_eq {s : ByteArray} {l : List UInt8} (h : s.data.toList = l) : s = ⟨⟨l⟩⟩ := by subst h; rfl
theorem form_cells {P : Program} {w : World} {t ts ti tb : TypeId} {fuel : Nat} {c : List Value} {s : List UInt8} {a b : Int} {x y z : Bool} {p : List MemPlace} {enc : TypeId × Value → Unit} {base : Nat} {sp : Nat → Bool} {held : Bool} {fs : Array Field} {f0 f1 f2 f3 f4 f5 : Field}
  (ht : P.underlying t = some (.struct fs)) (hf : fs = #[f0, f1, f2, f3, f4, f5]) (ho : f0.offset = 0 ∧ f1.offset = 1 ∧ f2.offset = 2 ∧ f3.offset = 3 ∧ f4.offset = 4 ∧ f5.offset = 5)
  (hty : f0.type = ts ∧ f1.type = ti ∧ f2.type = ti ∧ f3.type = tb ∧ f4.type = tb ∧ f5.type = tb) (hs : P.underlying ts = some .string) (hi : P.underlying ti = some (.int .i64)) (hb : P.underlying tb = some .bool)
  (hc : P.cellsOf ts = 1 ∧ P.cellsOf ti = 1 ∧ P.cellsOf tb = 1 ∧ P.cellsOf t = 6)
  (h : DataW.trod enc P w base sp held fuel t c = some (.agg [.lit (.string s), .lit (.int .i64 a), .lit (.int .i64 b), .lit (.bool x), .lit (.bool y), .lit (.bool z)], p)) :
  c = [.string ⟨⟨s⟩⟩, .int .i64 a, .int .i64 b, .bool x, .bool y, .bool z] := by
 obtain ⟨xs, m, _, ex, hlen, hxl, hel⟩ := DataW.trod_struct ht h
 subst hf
 rw [hc.2.2.2] at hlen
 have hxl : xs.length = 6 := hxl
 match xs, hxl with
 | [x0, x1, x2, x3, x4, x5], _ =>
  have e3 := DataW.agg.inj (Prod.mk.inj ex).1
  simp only [List.map_cons, List.map_nil, List.cons.injEq, and_true] at e3
  obtain ⟨g0, g1, g2, g3, g4, g5⟩ := e3
  match c, hlen with
  | [c0, c1, c2, c3, c4, c5], _ =>
   have k0 := hel 0 f0 rfl
   have k1 := hel 1 f1 rfl
   have k2 := hel 2 f2 rfl
   have k3 := hel 3 f3 rfl
   have k4 := hel 4 f4 rfl
   have k5 := hel 5 f5 rfl
   rw [ho.1, hty.1, hc.1] at k0
   rw [ho.2.1, hty.2.1, hc.2.1] at k1
   rw [ho.2.2.1, hty.2.2.1, hc.2.1] at k2
   rw [ho.2.2.2.1, hty.2.2.2.1, hc.2.2.1] at k3
   rw [ho.2.2.2.2.1, hty.2.2.2.2.1, hc.2.2.1] at k4
   rw [ho.2.2.2.2.2, hty.2.2.2.2.2, hc.2.2.1] at k5
   obtain ⟨v0, d0, q0, _⟩ := DataW.trod_string hs k0
   obtain ⟨v1, d1, q1, _⟩ := DataW.trod_int hi k1
   obtain ⟨v2, d2, q2, _⟩ := DataW.trod_int hi k2
   obtain ⟨v3, d3, q3⟩ := DataW.trod_bool hb k3
   obtain ⟨v4, d4, q4⟩ := DataW.trod_bool hb k4
   obtain ⟨v5, d5, q5⟩ := DataW.trod_bool hb k5
   have d0 : c0 = .string v0 := (List.cons.inj d0).1
   have d1 : c1 = .int .i64 v1 := (List.cons.inj d1).1
   have d2 : c2 = .int .i64 v2 := (List.cons.inj d2).1
   have d3 : c3 = .bool v3 := (List.cons.inj d3).1
   have d4 : c4 = .bool v4 := (List.cons.inj d4).1
   have d5 : c5 = .bool v5 := (List.cons.inj d5).1
   subst q0 q1 q2 q3 q4 q5
   have r0 := Lit.string.inj (DataW.lit.inj g0)
   have r1 := (Lit.int.inj (DataW.lit.inj g1)).2
   have r2 := (Lit.int.inj (DataW.lit.inj g2)).2
   have r3 := Lit.bool.inj (DataW.lit.inj g3)
   have r4 := Lit.bool.inj (DataW.lit.inj g4)
   have r5 := Lit.bool.inj (DataW.lit.inj g5)
   subst r1 r2 r3 r4 r5
   rw [d0, d1, d2, d3, d4, d5, bytes_eq r0.symm]
theorem chunk_eq {α : Type} {k : Nat} : ∀ (n : Nat) {a b : List α}, a.length = n * k → b.length = n * k → (∀ i, i < n → (a.drop (i * k)).take k = (b.drop (i * k)).take k) → a = b
 | 0, a, b, ha, hb, _ => by rw [List.eq_nil_of_length_eq_zero (by omega : a.length = 0), List.eq_nil_of_length_eq_zero (by omega : b.length = 0)]
 | n + 1, a, b, ha, hb, h => by
  have h0 := h 0 (by omega)
  rw [Nat.zero_mul, List.drop_zero, List.drop_zero] at h0
  have ha' : a.length = n * k + k := by rw [ha, Nat.succ_mul]
  have hb' : b.length = n * k + k := by rw [hb, Nat.succ_mul]
  have h1 : a.drop k = b.drop k := chunk_eq (k := k) n (by rw [List.length_drop]; omega) (by rw [List.length_drop]; omega) fun i hi => by
   have := h (i + 1) (by omega)
   rw [List.drop_drop, List.drop_drop]
   rw [Nat.succ_mul, Nat.add_comm] at this
   exact this
  rw [← List.take_append_drop k a, ← List.take_append_drop k b, h0, h1]
def pow10z : List Int := [1, 10, 100, 1000, 10000, 100000, 1000000, 10000000, 100000000, 1000000000, 10000000000, 100000000000, 1000000000000, 10000000000000, 100000000000000, 1000000000000000, 10000000000000000, 100000000000000000, 1000000000000000000, 10000000000000000000]
abbrev laidC : List (String × DataW Unit) := Rows.courtRefinesRow.laid
theorem pow_laid {W : World} (h : laidMetH Tryz.prog laidC W) : ∃ cs, W.var? Tryz.prog "internal/strconv.uint64pow10" = some cs ∧ cs.toList = pow10s := by
 rw [MakeChecks.laidMetH_plain _ _ _ (by kernel_rfl)] at h
 obtain ⟨ps, hl, _, _⟩ := h
 obtain ⟨_, _, _, _, _, _, _, _, _, _, hl, _⟩ := hl
 obtain ⟨_, _, _, _, _, _, _, _, _, _, hl, _⟩ := hl
 obtain ⟨g, t, cs, fuel, p, q, hg, ht, hv, hd, _, _⟩ := hl
 obtain rfl := Option.some.inj ((show Tryz.prog.globalNamed "internal/strconv.uint64pow10" = some 4 by kernel_rfl).symm.trans hg)
 obtain rfl := Option.some.inj ((show (Tryz.prog.globals[4]?).map (·.type) = some 213 by kernel_rfl).symm.trans ht)
 refine ⟨cs, hv, ?_⟩
 have e : (Rows.laid_internal_strconv_uint64pow10 : DataW Unit) = .agg (pow10z.map fun z => .lit (.int .u64 z)) := by kernel_rfl
 rw [e] at hd
 exact arr_ints (zs := pow10z) (n := 20) (e := 199) Tryz.underlying213 Tryz.underlying199 (by kernel_rfl) (by kernel_rfl) hd
theorem forms_laid {W : World} (h : laidMetH Tryz.prog laidC W) : ∃ cs, W.var? Tryz.prog "trestle/court.forms" = some cs ∧ cs.toList = formCs := by
 rw [MakeChecks.laidMetH_plain _ _ _ (by kernel_rfl)] at h
 obtain ⟨ps, hl, _, _⟩ := h
 obtain ⟨_, _, _, _, _, _, _, _, _, _, hl, _⟩ := hl
 obtain ⟨_, _, _, _, _, _, _, _, _, _, hl, _⟩ := hl
 obtain ⟨_, _, _, _, _, _, _, _, _, _, hl, _⟩ := hl
 obtain ⟨_, _, _, _, _, _, _, _, _, _, hl, _⟩ := hl
 obtain ⟨_, _, _, _, _, _, _, _, _, _, hl, _⟩ := hl
 obtain ⟨_, _, _, _, _, _, _, _, _, _, hl, _⟩ := hl
 obtain ⟨g, t, cs, fuel, p, q, hg, ht, hv, hd, _, _⟩ := hl
 obtain rfl := Option.some.inj ((show Tryz.prog.globalNamed "trestle/court.forms" = some 0 by kernel_rfl).symm.trans hg)
 obtain rfl := Option.some.inj ((show (Tryz.prog.globals[0]?).map (·.type) = some 138 by kernel_rfl).symm.trans ht)
 refine ⟨cs, hv, ?_⟩
 obtain ⟨xs, m, _, ex, hlen, hxl, hel⟩ := DataW.trod_array Tryz.underlying138 hd
 have hc6 : Tryz.prog.cellsOf 137 = 6 := by kernel_rfl
 rw [show Tryz.prog.cellsOf 138 = 66 by kernel_rfl] at hlen
 rw [hc6] at hel
 match xs, hxl with
 | [x0, x1, x2, x3, x4, x5, x6, x7, x8, x9, x10], _ =>
  have e3 := DataW.agg.inj (Prod.mk.inj ex).1
  simp only [List.map_cons, List.map_nil, List.cons.injEq, and_true] at e3
  obtain ⟨g0, g1, g2, g3, g4, g5, g6, g7, g8, g9, g10⟩ := e3
  have one : ∀ {c : List Value} {x : DataW Unit × List MemPlace} {s : List UInt8} {a b : Int} {u v z : Bool}, DataW.trod (fun _ => ()) Tryz.prog W 0 (fun _ => true) false m 137 c = some x → DataW.agg [.lit (.string s), .lit (.int .i64 a), .lit (.int .i64 b), .lit (.bool u), .lit (.bool v), .lit (.bool z)] = x.1 → c = [.string ⟨⟨s⟩⟩, .int .i64 a, .int .i64 b, .bool u, .bool v, .bool z] := fun {c x s a b u v z} h1 h2 => by
   obtain ⟨x1, x2⟩ := x
   cases h2
   exact form_cells Tryz.underlying137 rfl ⟨rfl, rfl, rfl, rfl, rfl, rfl⟩ ⟨rfl, rfl, rfl, rfl, rfl, rfl⟩ Tryz.underlying9 Tryz.underlying3 Tryz.underlying4 ⟨by kernel_rfl, by kernel_rfl, by kernel_rfl, hc6⟩ h1
  refine chunk_eq (k := 6) 11 hlen (by rfl) fun i hi => ?_
  match i, hi with
  | 0, h => exact one (hel 0 h) g0
  | 1, h => exact one (hel 1 h) g1
  | 2, h => exact one (hel 2 h) g2
  | 3, h => exact one (hel 3 h) g3
  | 4, h => exact one (hel 4 h) g4
  | 5, h => exact one (hel 5 h) g5
  | 6, h => exact one (hel 6 h) g6
  | 7, h => exact one (hel 7 h) g7
  | 8, h => exact one (hel 8 h) g8
  | 9, h => exact one (hel 9 h) g9
  | 10, h => exact one (hel 10 h) g10
theorem var_row {W : World} (hsh : W.ShapedOpen Tryz.prog) {g e : Nat} {n : String} {cs : Array Value} (hg : Tryz.prog.globalNamed n = some g) (hlt : g < Tryz.prog.globals.size)
  (ht : (((begin Tryz.prog (fun _ _ => 0) default).world.heap[g]?).bind Obj.row?).map (·.2) = some e) (hv : W.var? Tryz.prog n = some cs) : ∃ arr fz, W.heap[g]? = some (.cells arr e fz) ∧ arr.toList = cs.toList := by
 cases hr : ((begin Tryz.prog (fun _ _ => 0) default).world.heap[g]?).bind Obj.row? with
 | none => rw [hr] at ht; cases ht
 | some y =>
  obtain ⟨zero, t⟩ := y
  rw [hr] at ht
  simp only [Option.map_some, Option.some.injEq] at ht
  subst ht
  obtain ⟨cs', h1, _, _⟩ := hsh.1 g zero _ hlt hr
  refine ⟨cs', _, h1, ?_⟩
  have : W.var? Tryz.prog n = some cs' := by
   unfold World.var?
   rw [hg]
   simp only [Option.bind_some, h1]
  rw [hv] at this
  rw [Option.some.inj this]
theorem laidG_of {W : World} (hsh : W.ShapedOpen Tryz.prog) (h : laidMetH Tryz.prog laidC W) : LaidG W := fun x hx => by
 rcases List.mem_cons.1 hx with hx | hx
 ·subst hx
  refine ⟨by show 0 < 9; omega, by kernel_rfl, ?_⟩
  obtain ⟨cs, hv, hc⟩ := forms_laid h
  obtain ⟨arr, fz, h1, h2⟩ := var_row hsh (e := 138) (show Tryz.prog.globalNamed "trestle/court.forms" = some 0 by kernel_rfl) (Nat.le_of_ble_eq_true (by kernel_rfl)) (by kernel_rfl) hv
  exact ⟨arr, fz, h1, h2.trans hc⟩
 ·have hx := List.mem_singleton.1 hx
  subst hx
  refine ⟨by show 4 < 9; omega, by kernel_rfl, ?_⟩
  obtain ⟨cs, hv, hc⟩ := pow_laid h
  obtain ⟨arr, fz, h1, h2⟩ := var_row hsh (e := 213) (show Tryz.prog.globalNamed "internal/strconv.uint64pow10" = some 4 by kernel_rfl) (Nat.le_of_ble_eq_true (by kernel_rfl)) (by kernel_rfl) hv
  exact ⟨arr, fz, h1, h2.trans hc⟩
end Go.Ev

end
