/-
  Part of the engine that the claim is proved with: it states nothing of the document by itself.
-/
import Derived.Test.YtpopdemanadllaaGreatDoorCoreWhDefs
open Go.Proofs
namespace Go.Ev
set_option maxRecDepth 100000
set_option maxHeartbeats 4000000
def leafC (r : D) (T : D → Prop) : Prop := (r.isNil → (0 : Nat) + (1 : Nat) ≤ [D.int (-9 : Int)].length ∧ (1 : Nat) ≤ (16777216 : Nat) ∧ (0 : Int) ≤ (0 : Int) ∧ (0 : Int) ≤ (↑r.len : Int) ∧ ((↑(1 :
Nat) : Int) - (↑r.len : Int)).NonNeg ∧ (0 : Nat) + (0 : Nat) + r.len ≤ (List.take (1 : Nat) [D.int (-9 : Int)]).length ∧ T (D.list (List.take r.len (List.drop ((0 : Nat) + (0 : Nat)) (List.take (1 :
Nat) [D.int (-9 : Int)]))))) ∧ ((r.isNil → False) → (r.len = (0 : Nat) → (0 : Nat) + (1 : Nat) ≤ [D.int (-9 : Int)].length ∧ (0 : Nat) + (0 : Nat) ≤ ([] : List D).length ∧ (0 : Nat) + (1 : Nat) ≤
(16777216 : Nat) ∧ (0 : Int) ≤ (0 : Int) ∧ (0 : Int) ≤ (↑r.len : Int) ∧ ((↑((0 : Nat) + (1 : Nat)) : Int) - (↑r.len : Int)).NonNeg ∧ (0 : Nat) + (0 : Nat) + r.len ≤ (List.take (0 : Nat) ([] : List D)
++ List.take (1 : Nat) [D.int (-9 : Int)]).length ∧ T (D.list (List.take r.len (List.drop ((0 : Nat) + (0 : Nat)) (List.take (0 : Nat) ([] : List D) ++ List.take (1 : Nat) [D.int (-9 : Int)]))))) ∧
((0 : Nat) < r.len → (0 : Nat) + (0 : Nat) ≤ ([] : List D).length ∧ (0 : Nat) + r.len ≤ (16777216 : Nat) ∧ ((0 : Nat) + r.len ≤ (0 : Nat) → (0 : Nat) + (0 : Nat) + r.len ≤ ([] : List D).length ∧ (0 :
Nat) + (1 : Nat) ≤ [D.int (-9 : Int)].length ∧ (0 : Nat) + r.len ≤ (List.take ((0 : Nat) + (0 : Nat)) ([] : List D) ++ r.asList ++ List.drop ((0 : Nat) + (0 : Nat) + r.len) ([] : List D)).length ∧
r.len + (1 : Nat) ≤ (16777216 : Nat) ∧ (r.len + (1 : Nat) ≤ (0 : Nat) → (0 : Nat) + r.len + (1 : Nat) ≤ (List.take ((0 : Nat) + (0 : Nat)) ([] : List D) ++ r.asList ++ List.drop ((0 : Nat) + (0 : Nat)
+ r.len) ([] : List D)).length ∧ (0 : Int) ≤ (0 : Int) ∧ (0 : Int) ≤ (↑r.len : Int) ∧ ((↑(0 : Nat) : Int) - (↑r.len : Int)).NonNeg ∧ (0 : Nat) + (0 : Nat) + r.len ≤ (List.take ((0 : Nat) + r.len)
(List.take ((0 : Nat) + (0 : Nat)) ([] : List D) ++ r.asList ++ List.drop ((0 : Nat) + (0 : Nat) + r.len) ([] : List D)) ++ List.take (1 : Nat) [D.int (-9 : Int)] ++ List.drop ((0 : Nat) + r.len + (1
: Nat)) (List.take ((0 : Nat) + (0 : Nat)) ([] : List D) ++ r.asList ++ List.drop ((0 : Nat) + (0 : Nat) + r.len) ([] : List D))).length ∧ T (D.list (List.take r.len (List.drop ((0 : Nat) + (0 : Nat))
(List.take ((0 : Nat) + r.len) (List.take ((0 : Nat) + (0 : Nat)) ([] : List D) ++ r.asList ++ List.drop ((0 : Nat) + (0 : Nat) + r.len) ([] : List D)) ++ List.take (1 : Nat) [D.int (-9 : Int)] ++
List.drop ((0 : Nat) + r.len + (1 : Nat)) (List.take ((0 : Nat) + (0 : Nat)) ([] : List D) ++ r.asList ++ List.drop ((0 : Nat) + (0 : Nat) + r.len) ([] : List D))))))) ∧ ((0 : Nat) < r.len + (1 : Nat)
→ (0 : Int) ≤ (0 : Int) ∧ (0 : Int) ≤ (↑r.len : Int) ∧ ((↑(r.len + (1 : Nat)) : Int) - (↑r.len : Int)).NonNeg ∧ (0 : Nat) + (0 : Nat) + r.len ≤ (List.take r.len (List.take ((0 : Nat) + (0 : Nat)) ([]
: List D) ++ r.asList ++ List.drop ((0 : Nat) + (0 : Nat) + r.len) ([] : List D)) ++ List.take (1 : Nat) [D.int (-9 : Int)]).length ∧ T (D.list (List.take r.len (List.drop ((0 : Nat) + (0 : Nat))
(List.take r.len (List.take ((0 : Nat) + (0 : Nat)) ([] : List D) ++ r.asList ++ List.drop ((0 : Nat) + (0 : Nat) + r.len) ([] : List D)) ++ List.take (1 : Nat) [D.int (-9 : Int)])))))) ∧ ((0 : Nat) <
(0 : Nat) + r.len → (0 : Nat) + (1 : Nat) ≤ [D.int (-9 : Int)].length ∧ (0 : Nat) + r.len ≤ (List.take (0 : Nat) ([] : List D) ++ r.asList).length ∧ r.len + (1 : Nat) ≤ (16777216 : Nat) ∧ (0 : Int) ≤
(0 : Int) ∧ (0 : Int) ≤ (↑r.len : Int) ∧ ((↑(r.len + (1 : Nat)) : Int) - (↑r.len : Int)).NonNeg ∧ (0 : Nat) + (0 : Nat) + r.len ≤ (List.take r.len (List.take (0 : Nat) ([] : List D) ++ r.asList) ++
List.take (1 : Nat) [D.int (-9 : Int)]).length ∧ T (D.list (List.take r.len (List.drop ((0 : Nat) + (0 : Nat)) (List.take r.len (List.take (0 : Nat) ([] : List D) ++ r.asList) ++ List.take (1 : Nat)
[D.int (-9 : Int)])))))))
def t0C (e : D) (x_2 : Nat) (v : D) : Prop := (0 : Nat) + (1 : Nat) ≤ [v].length ∧ (1 : Nat) ≤ (16777216 : Nat) ∧ ((-9223372036854775808 : Int) ≤ (↑x_2 : Int) + (1 : Int) ∧ (↑x_2 : Int) + (1 : Int) <
(9223372036854775808 : Int)) ∧ ((∃ (y : Nat), y = (0 : Nat) ∧ e.len - y < e.len - x_2 ∧ ((↑x_2 : Int) + (1 : Int) = (↑y : Int) ∧ False ∧ True) ∧ True) ∨ ∃ (y : Nat), ((0 : Nat) < y ∧ y ≤ e.len) ∧
e.len - y < e.len - x_2 ∧ ((↑x_2 : Int) + (1 : Int) = (↑y : Int) ∧ ((0 : Nat) = (0 : Nat) ∧ (1 : Nat) = y ∧ True) ∧ True) ∧ List.take (1 : Nat) [v] = List.take y e.asList ∧ True)
def t1C (e : D) (x_2 : Nat) (v : D) : Prop := (0 : Nat) + (1 : Nat) ≤ [v].length ∧ (0 : Nat) + x_2 ≤ (List.take x_2 e.asList).length ∧ x_2 + (1 : Nat) ≤ (16777216 : Nat) ∧ ((-9223372036854775808 :
Int) ≤ (↑x_2 : Int) + (1 : Int) ∧ (↑x_2 : Int) + (1 : Int) < (9223372036854775808 : Int)) ∧ ((∃ (y : Nat), y = (0 : Nat) ∧ e.len - y < e.len - x_2 ∧ ((↑x_2 : Int) + (1 : Int) = (↑y : Int) ∧ False ∧
True) ∧ True) ∨ ∃ (y : Nat), ((0 : Nat) < y ∧ y ≤ e.len) ∧ e.len - y < e.len - x_2 ∧ ((↑x_2 : Int) + (1 : Int) = (↑y : Int) ∧ ((0 : Nat) = (0 : Nat) ∧ x_2 + (1 : Nat) = y ∧ True) ∧ True) ∧ List.take
x_2 (List.take x_2 e.asList) ++ List.take (1 : Nat) [v] = List.take y e.asList ∧ True)
def innW (e : D) : Prop := (((∃ (x : Nat), x = (0 : Nat) ∧ ((0 : Int) = (↑x : Int) ∧ True ∧ True) ∧ True) ∨ ∃ (x_2 : Nat), ((0 : Nat) < x_2 ∧ x_2 ≤ e.len) ∧ ((0 : Int) = (↑x_2 : Int) ∧ False ∧ True) ∧
False ∧ True) ∧ (∀ (x_2 : Nat), x_2 = (0 : Nat) → e.len - x_2 < LIM ∧ ((↑x_2 : Int) < (↑e.len : Int) → (0 : Int) ≤ (↑x_2 : Int) ∧ (↑x_2 : Int) < (↑e.len : Int) ∧ leafC (el e x_2) (t0C e x_2)) ∧
(((↑x_2 : Int) < (↑e.len : Int) → False) → ∃ (x : Unit), True ∧ (False ∧ True) ∧ False ∧ True)) ∧ ∀ (x_2 : Nat), (0 : Nat) < x_2 ∧ x_2 ≤ e.len → e.len - x_2 < LIM ∧ ((↑x_2 : Int) < (↑e.len : Int) → (0
: Int) ≤ (↑x_2 : Int) ∧ (↑x_2 : Int) < (↑e.len : Int) ∧ leafC (el e x_2) (t1C e x_2)) ∧ (((↑x_2 : Int) < (↑e.len : Int) → False) → ∃ (x_3 : Unit), True ∧ (((0 : Nat) = (0 : Nat) ∧ x_2 = e.len ∧ True)
∧ True) ∧ List.take x_2 e.asList = e.asList ∧ True))
def cpC (s : D) : Prop := (((∃ (x : Nat), x = (0 : Nat) ∧ ((0 : Int) = (↑x : Int) ∧ True ∧ True) ∧ True) ∨ ∃ (x : Nat), ((0 : Nat) < x ∧ x ≤ s.len) ∧ ((0 : Int) = (↑x : Int) ∧ False ∧ True) ∧ False ∧
True) ∧ (∀ (x : Nat), x = (0 : Nat) → s.len - x < LIM ∧ ((↑x : Int) < (↑s.len : Int) → (0 : Int) ≤ (↑x : Int) ∧ (↑x : Int) < (↑s.len : Int) ∧ innW (el s x) ∧ ∀ (x_2 : Unit), True → (0 : Nat) = (0 :
Nat) ∧ (el s x).len = (el s x).asList.length ∧ True ∧ (0 : Nat) = (0 : Nat) ∧ (1 : Nat) = (1 : Nat) ∧ ((-9223372036854775808 : Int) ≤ (↑x : Int) + (1 : Int) ∧ (↑x : Int) + (1 : Int) <
(9223372036854775808 : Int)) ∧ ((∃ (y : Nat), y = (0 : Nat) ∧ s.len - y < s.len - x ∧ ((↑x : Int) + (1 : Int) = (↑y : Int) ∧ False ∧ True) ∧ True) ∨ ∃ (y : Nat), ((0 : Nat) < y ∧ y ≤ s.len) ∧ s.len -
y < s.len - x ∧ ((↑x : Int) + (1 : Int) = (↑y : Int) ∧ ((0 : Nat) = (0 : Nat) ∧ (1 : Nat) = y ∧ True) ∧ True) ∧ [D.int (0 : Int)].set (0 : Nat) (D.list (el s x).asList) = List.take y s.asList ∧ True))
∧ (((↑x : Int) < (↑s.len : Int) → False) → ∃ (x : Unit), True ∧ (False ∧ True) ∧ False ∧ True)) ∧ ∀ (x : Nat), (0 : Nat) < x ∧ x ≤ s.len → s.len - x < LIM ∧ ((↑x : Int) < (↑s.len : Int) → (0 : Int) ≤
(↑x : Int) ∧ (↑x : Int) < (↑s.len : Int) ∧ innW (el s x) ∧ ∀ (x_2 : Unit), True → (0 : Nat) = (0 : Nat) ∧ (el s x).len = (el s x).asList.length ∧ True ∧ (0 : Nat) = (0 : Nat) ∧ (1 : Nat) = (1 : Nat) ∧
(0 : Nat) = (0 : Nat) ∧ x = (List.take x s.asList).length ∧ x + (1 : Nat) ≤ (16777216 : Nat) ∧ ((-9223372036854775808 : Int) ≤ (↑x : Int) + (1 : Int) ∧ (↑x : Int) + (1 : Int) < (9223372036854775808 :
Int)) ∧ ((∃ (y : Nat), y = (0 : Nat) ∧ s.len - y < s.len - x ∧ ((↑x : Int) + (1 : Int) = (↑y : Int) ∧ False ∧ True) ∧ True) ∨ ∃ (y : Nat), ((0 : Nat) < y ∧ y ≤ s.len) ∧ s.len - y < s.len - x ∧ ((↑x :
Int) + (1 : Int) = (↑y : Int) ∧ ((0 : Nat) = (0 : Nat) ∧ x + (1 : Nat) = y ∧ True) ∧ True) ∧ (List.take x s.asList ++ [D.int (0 : Int)]).set (List.take x s.asList).length (D.list (el s x).asList) =
List.take y s.asList ∧ True)) ∧ (((↑x : Int) < (↑s.len : Int) → False) → ∃ (x_2 : Unit), True ∧ (((0 : Nat) = (0 : Nat) ∧ x = s.len ∧ True) ∧ True) ∧ List.take x s.asList = s.asList ∧ True))
def wnD (n : Int) : Int := IntKind.i64.wrap (Int.ofNat (1 : Nat) * IntKind.u64.wrap n)
def rpC (n : Int) (T : Nat → Prop) : Prop := (n < (0 : Int) → False) ∧ ((n < (0 : Int) → False) → (((0 : Int) ≤ Int.ofNat (1 : Nat) ∧ Int.ofNat (1 : Nat) < (65536 : Int)) ∧ (0 : Int) ≤
IntKind.u64.wrap n ∧ IntKind.u64.wrap n < (65536 : Int)) ∧ (((0 : Int) < (0 : Int) → False) → ((9223372036854775807 : Int) < Int.ofNat (1 : Nat) * IntKind.u64.wrap n → False) ∧ (((9223372036854775807
: Int) < Int.ofNat (1 : Nat) * IntKind.u64.wrap n → False) → (0 : Int) ≤ wnD n ∧ wnD n ≤ wnD n ∧ wnD n ≤ (16777216 : Int) ∧ (8 : Nat) * (wnD n).toNat ≤ (281474976710656 : Nat) ∧ ((0 : Nat) + (wnD
n).toNat ≤ (List.replicate (wnD n).toNat (D.int (0 : Int))).length ∧ (0 : Nat) + (1 : Nat) ≤ [D.int (1 : Int)].length ∧ (0 : Nat) < (wnD n).toNat ∧ (0 : Nat) < (1 : Nat) ∧ ∃ (x : Unit), True ∧ ((↑(min
(1 : Nat) (wnD n).toNat) : Int) = (1 : Int) ∧ True) ∧ List.take (0 : Nat) (List.replicate (wnD n).toNat (D.int (0 : Int))) ++ List.take (min (1 : Nat) (wnD n).toNat) [D.int (1 : Int)] ++ List.drop ((0
: Nat) + min (1 : Nat) (wnD n).toNat) (List.replicate (wnD n).toNat (D.int (0 : Int))) = rpR n.toNat (1 : Nat) ∧ True) ∧ ∀ (x : Unit), True → (∃ (x : Nat), ((1 : Nat) ≤ x ∧ x ≤ n.toNat) ∧ ((1 : Int) =
(↑x : Int) ∧ True) ∧ rpR n.toNat (1 : Nat) = rpR n.toNat x ∧ True) ∧ ∀ (x : Nat), (1 : Nat) ≤ x ∧ x ≤ n.toNat → n.toNat - x < LIM ∧ ((↑x : Int) < (↑(wnD n).toNat : Int) → (0 : Int) ≤ (↑x : Int) ∧ (↑x
: Int) ≤ (↑(wnD n).toNat : Int) ∧ ((↑(wnD n).toNat : Int) - (↑(wnD n).toNat : Int)).NonNeg ∧ (0 : Int) ≤ (0 : Int) ∧ (0 : Int) ≤ (↑x : Int) ∧ ((↑(wnD n).toNat : Int) - (↑x : Int)).NonNeg ∧ x + ((wnD
n).toNat - x) ≤ (rpR n.toNat x).length ∧ (0 : Nat) + (0 : Nat) + x ≤ (rpR n.toNat x).length ∧ (0 : Nat) < (wnD n).toNat - x ∧ (0 : Nat) < x ∧ ((-9223372036854775808 : Int) ≤ (↑x : Int) + (↑(min x
((wnD n).toNat - x)) : Int) ∧ (↑x : Int) + (↑(min x ((wnD n).toNat - x)) : Int) < (9223372036854775808 : Int)) ∧ ∃ (y : Nat), ((1 : Nat) ≤ y ∧ y ≤ n.toNat) ∧ n.toNat - y < n.toNat - x ∧ ((↑x : Int) +
(↑(min x ((wnD n).toNat - x)) : Int) = (↑y : Int) ∧ True) ∧ List.take x (rpR n.toNat x) ++ List.take (min x ((wnD n).toNat - x)) (List.drop ((0 : Nat) + (0 : Nat)) (rpR n.toNat x)) ++ List.drop (x +
min x ((wnD n).toNat - x)) (rpR n.toNat x) = rpR n.toNat y ∧ True) ∧ (((↑x : Int) < (↑(wnD n).toNat : Int) → False) → T x))) ∧ ((0 : Int) < (0 : Int) → False))
def clC (n : Int) (z s : D) : Prop := (z.isNil → (0 : Nat) + (1 : Nat) ≤ [D.int (1 : Int)].length ∧ (1 : Nat) ≤ (16777216 : Nat) ∧ (0 : Nat) + (1 : Nat) ≤ (List.take (1 : Nat) [D.int (1 :
Int)]).length ∧ ((List.take (1 : Nat) (List.take (1 : Nat) [D.int (1 : Int)])).length ≤ (1000 : Nat) ∧ bigP s) ∧ ∃ (x : Unit), True ∧ ((chk n (D.list (List.take (1 : Nat) (List.take (1 : Nat) [D.int
(1 : Int)]))) s).snd = (90 : Int) ∧ True) ∧ True) ∧ ((z.isNil → False) → (z.len = (0 : Nat) → (0 : Nat) + (1 : Nat) ≤ [D.int (1 : Int)].length ∧ (0 : Nat) + (0 : Nat) ≤ ([] : List D).length ∧ (0 :
Nat) + (1 : Nat) ≤ (16777216 : Nat) ∧ (0 : Nat) + ((0 : Nat) + (1 : Nat)) ≤ (List.take (0 : Nat) ([] : List D) ++ List.take (1 : Nat) [D.int (1 : Int)]).length ∧ ((List.take ((0 : Nat) + (1 : Nat))
(List.take (0 : Nat) ([] : List D) ++ List.take (1 : Nat) [D.int (1 : Int)])).length ≤ (1000 : Nat) ∧ bigP s) ∧ ∃ (x : Unit), True ∧ ((chk n (D.list (List.take ((0 : Nat) + (1 : Nat)) (List.take (0 :
Nat) ([] : List D) ++ List.take (1 : Nat) [D.int (1 : Int)]))) s).snd = (90 : Int) ∧ True) ∧ True) ∧ ((0 : Nat) < z.len → (0 : Nat) + (0 : Nat) ≤ ([] : List D).length ∧ (0 : Nat) + z.len ≤ (16777216 :
Nat) ∧ ((0 : Nat) + z.len ≤ (0 : Nat) → (0 : Nat) + (0 : Nat) + z.len ≤ ([] : List D).length ∧ (0 : Nat) + (1 : Nat) ≤ [D.int (1 : Int)].length ∧ (0 : Nat) + z.len ≤ (List.take ((0 : Nat) + (0 : Nat))
([] : List D) ++ z.asList ++ List.drop ((0 : Nat) + (0 : Nat) + z.len) ([] : List D)).length ∧ z.len + (1 : Nat) ≤ (16777216 : Nat) ∧ (z.len + (1 : Nat) ≤ (0 : Nat) → (0 : Nat) + z.len + (1 : Nat) ≤
(List.take ((0 : Nat) + (0 : Nat)) ([] : List D) ++ z.asList ++ List.drop ((0 : Nat) + (0 : Nat) + z.len) ([] : List D)).length ∧ (0 : Nat) + (z.len + (1 : Nat)) ≤ (List.take ((0 : Nat) + z.len)
(List.take ((0 : Nat) + (0 : Nat)) ([] : List D) ++ z.asList ++ List.drop ((0 : Nat) + (0 : Nat) + z.len) ([] : List D)) ++ List.take (1 : Nat) [D.int (1 : Int)] ++ List.drop ((0 : Nat) + z.len + (1 :
Nat)) (List.take ((0 : Nat) + (0 : Nat)) ([] : List D) ++ z.asList ++ List.drop ((0 : Nat) + (0 : Nat) + z.len) ([] : List D))).length ∧ ((List.take (z.len + (1 : Nat)) (List.take ((0 : Nat) + z.len)
(List.take ((0 : Nat) + (0 : Nat)) ([] : List D) ++ z.asList ++ List.drop ((0 : Nat) + (0 : Nat) + z.len) ([] : List D)) ++ List.take (1 : Nat) [D.int (1 : Int)] ++ List.drop ((0 : Nat) + z.len + (1 :
Nat)) (List.take ((0 : Nat) + (0 : Nat)) ([] : List D) ++ z.asList ++ List.drop ((0 : Nat) + (0 : Nat) + z.len) ([] : List D)))).length ≤ (1000 : Nat) ∧ bigP s) ∧ ∃ (x : Unit), True ∧ ((chk n (D.list
(List.take (z.len + (1 : Nat)) (List.take ((0 : Nat) + z.len) (List.take ((0 : Nat) + (0 : Nat)) ([] : List D) ++ z.asList ++ List.drop ((0 : Nat) + (0 : Nat) + z.len) ([] : List D)) ++ List.take (1 :
Nat) [D.int (1 : Int)] ++ List.drop ((0 : Nat) + z.len + (1 : Nat)) (List.take ((0 : Nat) + (0 : Nat)) ([] : List D) ++ z.asList ++ List.drop ((0 : Nat) + (0 : Nat) + z.len) ([] : List D))))) s).snd =
(90 : Int) ∧ True) ∧ True) ∧ ((0 : Nat) < z.len + (1 : Nat) → (0 : Nat) + (z.len + (1 : Nat)) ≤ (List.take z.len (List.take ((0 : Nat) + (0 : Nat)) ([] : List D) ++ z.asList ++ List.drop ((0 : Nat) +
(0 : Nat) + z.len) ([] : List D)) ++ List.take (1 : Nat) [D.int (1 : Int)]).length ∧ ((List.take (z.len + (1 : Nat)) (List.take z.len (List.take ((0 : Nat) + (0 : Nat)) ([] : List D) ++ z.asList ++
List.drop ((0 : Nat) + (0 : Nat) + z.len) ([] : List D)) ++ List.take (1 : Nat) [D.int (1 : Int)])).length ≤ (1000 : Nat) ∧ bigP s) ∧ ∃ (x : Unit), True ∧ ((chk n (D.list (List.take (z.len + (1 :
Nat)) (List.take z.len (List.take ((0 : Nat) + (0 : Nat)) ([] : List D) ++ z.asList ++ List.drop ((0 : Nat) + (0 : Nat) + z.len) ([] : List D)) ++ List.take (1 : Nat) [D.int (1 : Int)]))) s).snd = (90
: Int) ∧ True) ∧ True)) ∧ ((0 : Nat) < (0 : Nat) + z.len → (0 : Nat) + (1 : Nat) ≤ [D.int (1 : Int)].length ∧ (0 : Nat) + z.len ≤ (List.take (0 : Nat) ([] : List D) ++ z.asList).length ∧ z.len + (1 :
Nat) ≤ (16777216 : Nat) ∧ (0 : Nat) + (z.len + (1 : Nat)) ≤ (List.take z.len (List.take (0 : Nat) ([] : List D) ++ z.asList) ++ List.take (1 : Nat) [D.int (1 : Int)]).length ∧ ((List.take (z.len + (1
: Nat)) (List.take z.len (List.take (0 : Nat) ([] : List D) ++ z.asList) ++ List.take (1 : Nat) [D.int (1 : Int)])).length ≤ (1000 : Nat) ∧ bigP s) ∧ ∃ (x : Unit), True ∧ ((chk n (D.list (List.take
(z.len + (1 : Nat)) (List.take z.len (List.take (0 : Nat) ([] : List D) ++ z.asList) ++ List.take (1 : Nat) [D.int (1 : Int)]))) s).snd = (90 : Int) ∧ True) ∧ True)))
def restC (n : Int) (z s : D) (iZ : Int) (B : List D) (e : Int) : Prop := (0 : Nat) + s.len ≤ B.length ∧ noHole B ∧ (true = true ∧ true = true) ∧ ((0 : Nat) ≤ (1000 : Nat) ∧ bigP (D.list (List.take
s.len B))) ∧ (0 : Nat) + s.len ≤ B.length ∧ noHole B ∧ (true = true ∧ true = true) ∧ (badW n (D.list (List.take s.len B)) ∧ (1 : Int) ≤ n ∧ n ≤ (64 : Int)) ∧ (0 : Nat) + s.len ≤ B.length ∧ noHole B ∧
(true = true ∧ true = true) ∧ (badW n (D.list (List.take s.len B)) ∧ (1 : Int) ≤ n ∧ n ≤ (64 : Int)) ∧ (0 : Nat) + s.len ≤ B.length ∧ noHole B ∧ (true = true ∧ true = true) ∧ (goodS n s ∧ badW n
(D.list (List.take s.len B)) ∧ (1 : Int) ≤ n ∧ n ≤ (64 : Int)) ∧ ((((chk n D.nil (D.list (List.take s.len B))).fst = iZ → False) → False) → ((((chk n D.nil (D.list (List.take s.len B))).snd = e →
False) → False) → ((((chk n D.nil (D.list (List.take s.len B))).snd = e → False) → False) → ((((chk n D.nil (D.list (List.take s.len B))).snd = e → False) → False) → ((((chk n D.nil (D.list (List.take
s.len B))).snd = e → False) → False) → (0 : Nat) + s.len ≤ B.length ∧ noHole B ∧ (true = true ∧ true = true) ∧ badW n (D.list (List.take s.len B)) ∧ (0 : Nat) + s.len ≤ B.length ∧ noHole B ∧ (true =
true ∧ true = true) ∧ badW n (D.list (List.take s.len B)) ∧ (0 : Nat) + s.len ≤ B.length ∧ noHole B ∧ (true = true ∧ true = true) ∧ badW n (D.list (List.take s.len B)) ∧ (0 : Nat) + s.len ≤ B.length ∧
noHole B ∧ (true = true ∧ true = true) ∧ badW n (D.list (List.take s.len B)) ∧ ((-9223372036854775808 : Int) ≤ Int.ofNat Nat.zero + (0 : Int) ∧ Int.ofNat Nat.zero + (0 : Int) < (9223372036854775808 :
Int)) ∧ (0 : Nat) + s.len ≤ B.length ∧ noHole B ∧ (true = true ∧ true = true) ∧ badW n (D.list (List.take s.len B)) ∧ ((-9223372036854775808 : Int) ≤ Int.ofNat Nat.zero + (0 : Int) + (0 : Int) ∧
Int.ofNat Nat.zero + (0 : Int) + (0 : Int) < (9223372036854775808 : Int)) ∧ (0 : Nat) + s.len ≤ B.length ∧ noHole B ∧ (true = true ∧ true = true) ∧ badW n (D.list (List.take s.len B)) ∧
((-9223372036854775808 : Int) ≤ Int.ofNat Nat.zero + (0 : Int) + (0 : Int) + (0 : Int) ∧ Int.ofNat Nat.zero + (0 : Int) + (0 : Int) + (0 : Int) < (9223372036854775808 : Int)) ∧ (0 : Nat) + s.len ≤
B.length ∧ noHole B ∧ (true = true ∧ true = true) ∧ badW n (D.list (List.take s.len B)) ∧ ((-9223372036854775808 : Int) ≤ Int.ofNat Nat.zero + (0 : Int) + (0 : Int) + (0 : Int) + (0 : Int) ∧ Int.ofNat
Nat.zero + (0 : Int) + (0 : Int) + (0 : Int) + (0 : Int) < (9223372036854775808 : Int)) ∧ ((Int.ofNat Nat.zero + (0 : Int) + (0 : Int) + (0 : Int) + (0 : Int) = (0 : Int) → False) → (false = true ↔
True)) ∧ (((Int.ofNat Nat.zero + (0 : Int) + (0 : Int) + (0 : Int) + (0 : Int) = (0 : Int) → False) → False) → (clC n z s) ∧ ∀ (x : Unit), True → (rpC n (fun x => (0 : Nat) + (wnD n).toNat ≤ (rpR
n.toNat x).length ∧ ((List.take (wnD n).toNat (rpR n.toNat x)).length ≤ (1000 : Nat) ∧ bigP s) ∧ ∃ (x_2 : Unit), True ∧ ((chk n (D.list (List.take (wnD n).toNat (rpR n.toNat x))) s).snd = (chk n
(D.list (rpR n.toNat n.toNat)) s).snd ∧ True) ∧ True)) ∧ ∀ (x : Unit), True → ((90 : Int) = (90 : Int) → rpC n (fun x => (0 : Nat) + (wnD n).toNat ≤ (rpR n.toNat x).length ∧ z.len ≤ (16777216 : Nat) ∧
(((chk n (D.list (rpR n.toNat n.toNat)) s).snd = (0 : Int) ↔ eqN z (D.list (List.take (wnD n).toNat (rpR n.toNat x)))) → (0 : Nat) + s.len ≤ B.length ∧ noHole B ∧ (true = true ∧ true = true) ∧ (badW n
(D.list (List.take s.len B)) ∨ goodS n (D.list (List.take s.len B)) ∧ (List.take s.len B).length = (0 : Nat)) ∧ (([] : List UInt8) = [] → (true = true ↔ True)) ∧ ((([] : List UInt8) = [] → False) →
(false = true ↔ True))) ∧ ((((chk n (D.list (rpR n.toNat n.toNat)) s).snd = (0 : Int) ↔ eqN z (D.list (List.take (wnD n).toNat (rpR n.toNat x)))) → False) → (false = true ↔ True)))) ∧ (((90 : Int) =
(90 : Int) → False) → (false = true ↔ True)))) ∧ (((chk n D.nil (D.list (List.take s.len B))).snd = e → False) → (false = true ↔ True))) ∧ (((chk n D.nil (D.list (List.take s.len B))).snd = e → False)
→ (false = true ↔ True))) ∧ (((chk n D.nil (D.list (List.take s.len B))).snd = e → False) → (false = true ↔ True))) ∧ (((chk n D.nil (D.list (List.take s.len B))).snd = e → False) → (false = true ↔
True))) ∧ (((chk n D.nil (D.list (List.take s.len B))).fst = iZ → False) → (false = true ↔ True))
def lawC (n : Int) (z s : D) (x way iZ tZ : Int) : Prop := ((↑s.len : Int) = (0 : Int) → (badW n s ∨ goodS n s ∧ s.len = (0 : Nat)) ∧ (([] : List UInt8) = [] → (true = true ↔ True)) ∧ ((([] : List
UInt8) = [] → False) → (false = true ↔ True))) ∧ (((↑s.len : Int) = (0 : Int) → False) → ((↑s.len : Int) = (0 : Int) → False) ∧ ((↑z.len : Int) = (0 : Int) → False) ∧ ((0 : Int) ≤ iZ ∧ iZ < (↑s.len :
Int) ∧ (0 : Int) ≤ tZ ∧ tZ < (↑(el s iZ.toNat).len : Int) ∧ ((el (el s iZ.toNat) tZ.toNat).isNil → ∃ (x : Unit), True ∧ (False ∧ True) ∧ False ∧ True) ∧ (((el (el s iZ.toNat) tZ.toNat).isNil → False)
→ ((el (el s iZ.toNat) tZ.toNat).len = (0 : Nat) → ∃ (x : Unit), True ∧ (((0 : Nat) = (0 : Nat) ∧ (0 : Nat) = (el (el s iZ.toNat) tZ.toNat).len ∧ False) ∧ True) ∧ ([] : List D) = (el (el s iZ.toNat)
tZ.toNat).asList ∧ True) ∧ ((0 : Nat) < (el (el s iZ.toNat) tZ.toNat).len → (0 : Nat) + (0 : Nat) ≤ ([] : List D).length ∧ (0 : Nat) + (el (el s iZ.toNat) tZ.toNat).len ≤ (16777216 : Nat) ∧ ((0 : Nat)
+ (el (el s iZ.toNat) tZ.toNat).len ≤ (0 : Nat) → (0 : Nat) + (0 : Nat) + (el (el s iZ.toNat) tZ.toNat).len ≤ ([] : List D).length ∧ ∃ (x : Unit), True ∧ (((0 : Nat) = (0 : Nat) ∧ (el (el s iZ.toNat)
tZ.toNat).len = (el (el s iZ.toNat) tZ.toNat).len ∧ False) ∧ True) ∧ List.take ((0 : Nat) + (0 : Nat)) ([] : List D) ++ (el (el s iZ.toNat) tZ.toNat).asList ++ List.drop ((0 : Nat) + (0 : Nat) + (el
(el s iZ.toNat) tZ.toNat).len) ([] : List D) = (el (el s iZ.toNat) tZ.toNat).asList ∧ True) ∧ ((0 : Nat) < (0 : Nat) + (el (el s iZ.toNat) tZ.toNat).len → ∃ (x : Unit), True ∧ (((0 : Nat) = (0 : Nat)
∧ (el (el s iZ.toNat) tZ.toNat).len = (el (el s iZ.toNat) tZ.toNat).len ∧ True) ∧ True) ∧ List.take (0 : Nat) ([] : List D) ++ (el (el s iZ.toNat) tZ.toNat).asList = (el (el s iZ.toNat)
tZ.toNat).asList ∧ True)))) ∧ ∀ (x_1 : Unit), True → (((5 : Int) = (0 : Int) → False) ∧ (way.tmod (5 : Int) = (0 : Int) → (0 : Int) ≤ (0 : Int) ∧ (0 : Int) < (↑(el (el s iZ.toNat) tZ.toNat).len : Int)
∧ (0 : Nat) + (0 : Nat) < (el (el s iZ.toNat) tZ.toNat).asList.length ∧ (((∃ (x : List D × Int), x = ([], (2 : Int)) ∧ False) ∨ ∃ (x_2 : List D × Int), misP n x s iZ.toNat tZ.toNat x_2.fst x_2.snd ∧
((6 : Int) = x_2.snd ∧ ((0 : Nat) = (0 : Nat) ∧ (el (el s iZ.toNat) tZ.toNat).len = x_2.fst.length ∧ True) ∧ True) ∧ (el (el s iZ.toNat) tZ.toNat).asList.set ((0 : Nat) + (0 : Nat)) (D.int (max x n))
= x_2.fst ∧ True) ∨ ∃ (x_2 : List D × Int), x_2 = ((el (el s iZ.toNat) tZ.toNat).asList, (2 : Int)) ∧ ((6 : Int) = (2 : Int) ∧ ((0 : Nat) = (1 : Nat) ∧ (el (el s iZ.toNat) tZ.toNat).len =
x_2.fst.length - (1 : Nat) ∧ True) ∧ True) ∧ (el (el s iZ.toNat) tZ.toNat).asList.set ((0 : Nat) + (0 : Nat)) (D.int (max x n)) = x_2.fst ∧ True)) ∧ ((way.tmod (5 : Int) = (0 : Int) → False) →
(way.tmod (5 : Int) = (1 : Int) → (0 : Int) ≤ (0 : Int) ∧ (0 : Int) < (↑(el (el s iZ.toNat) tZ.toNat).len : Int) ∧ (0 : Nat) + (0 : Nat) < (el (el s iZ.toNat) tZ.toNat).asList.length ∧ (((∃ (x : List
D × Int), x = ([], (2 : Int)) ∧ False) ∨ ∃ (x_2 : List D × Int), misP n x s iZ.toNat tZ.toNat x_2.fst x_2.snd ∧ ((6 : Int) = x_2.snd ∧ ((0 : Nat) = (0 : Nat) ∧ (el (el s iZ.toNat) tZ.toNat).len =
x_2.fst.length ∧ True) ∧ True) ∧ (el (el s iZ.toNat) tZ.toNat).asList.set ((0 : Nat) + (0 : Nat)) (D.int (min x (-1 : Int))) = x_2.fst ∧ True) ∨ ∃ (x_2 : List D × Int), x_2 = ((el (el s iZ.toNat)
tZ.toNat).asList, (2 : Int)) ∧ ((6 : Int) = (2 : Int) ∧ ((0 : Nat) = (1 : Nat) ∧ (el (el s iZ.toNat) tZ.toNat).len = x_2.fst.length - (1 : Nat) ∧ True) ∧ True) ∧ (el (el s iZ.toNat)
tZ.toNat).asList.set ((0 : Nat) + (0 : Nat)) (D.int (min x (-1 : Int))) = x_2.fst ∧ True)) ∧ ((way.tmod (5 : Int) = (1 : Int) → False) → (way.tmod (5 : Int) = (2 : Int) → (0 : Int) ≤ iZ ∧ iZ < (↑s.len
: Int) ∧ (0 : Int) ≤ (0 : Int) ∧ (0 : Int) < (↑(el s iZ.toNat).len : Int) ∧ (0 : Int) ≤ (0 : Int) ∧ (0 : Int) < (↑(el (el s iZ.toNat) (0 : Nat)).len : Int) ∧ (0 : Nat) + (1 : Nat) ≤ [D.int (nAt (el
(el s iZ.toNat) (0 : Nat)) (0 : Nat))].length ∧ (0 : Nat) + (el (el s iZ.toNat) tZ.toNat).len ≤ (el (el s iZ.toNat) tZ.toNat).asList.length ∧ (el (el s iZ.toNat) tZ.toNat).len + (1 : Nat) ≤ (16777216
: Nat) ∧ (((∃ (x : List D × Int), x = ([], (2 : Int)) ∧ False) ∨ ∃ (x_2 : List D × Int), misP n x s iZ.toNat tZ.toNat x_2.fst x_2.snd ∧ ((5 : Int) = x_2.snd ∧ ((0 : Nat) = (0 : Nat) ∧ (el (el s
iZ.toNat) tZ.toNat).len + (1 : Nat) = x_2.fst.length ∧ True) ∧ True) ∧ List.take (el (el s iZ.toNat) tZ.toNat).len (el (el s iZ.toNat) tZ.toNat).asList ++ List.take (1 : Nat) [D.int (nAt (el (el s
iZ.toNat) (0 : Nat)) (0 : Nat))] = x_2.fst ∧ True) ∨ ∃ (x : List D × Int), x = ((el (el s iZ.toNat) tZ.toNat).asList, (2 : Int)) ∧ ((5 : Int) = (2 : Int) ∧ ((0 : Nat) = (1 : Nat) ∧ (el (el s iZ.toNat)
tZ.toNat).len + (1 : Nat) = x.fst.length - (1 : Nat) ∧ True) ∧ True) ∧ List.take (el (el s iZ.toNat) tZ.toNat).len (el (el s iZ.toNat) tZ.toNat).asList ++ List.take (1 : Nat) [D.int (nAt (el (el s
iZ.toNat) (0 : Nat)) (0 : Nat))] = x.fst ∧ True)) ∧ ((way.tmod (5 : Int) = (2 : Int) → False) → (way.tmod (5 : Int) = (3 : Int) → (0 : Int) ≤ (1 : Int) ∧ (1 : Int) ≤ (↑(el (el s iZ.toNat)
tZ.toNat).len : Int) ∧ ((↑(el (el s iZ.toNat) tZ.toNat).len : Int) - (↑(el (el s iZ.toNat) tZ.toNat).len : Int)).NonNeg ∧ (((∃ (x : List D × Int), x = ([], (2 : Int)) ∧ ((2 : Int) = (2 : Int) ∧ False
∧ True) ∧ True) ∨ ∃ (x_2 : List D × Int), misP n x s iZ.toNat tZ.toNat x_2.fst x_2.snd ∧ ((2 : Int) = x_2.snd ∧ ((1 : Nat) = (0 : Nat) ∧ (el (el s iZ.toNat) tZ.toNat).len - Int.toNat (1 : Int) =
x_2.fst.length ∧ True) ∧ True) ∧ (el (el s iZ.toNat) tZ.toNat).asList = x_2.fst ∧ True) ∨ ∃ (x : List D × Int), x = ((el (el s iZ.toNat) tZ.toNat).asList, (2 : Int)) ∧ ((2 : Int) = (2 : Int) ∧ ((1 :
Nat) = (1 : Nat) ∧ (el (el s iZ.toNat) tZ.toNat).len - Int.toNat (1 : Int) = x.fst.length - (1 : Nat) ∧ True) ∧ True) ∧ (el (el s iZ.toNat) tZ.toNat).asList = x.fst ∧ True)) ∧ ((way.tmod (5 : Int) =
(3 : Int) → False) → ((∃ (x : List D × Int), x = ([], (2 : Int)) ∧ ((2 : Int) = (2 : Int) ∧ True ∧ True) ∧ True) ∨ ∃ (x_2 : List D × Int), misP n x s iZ.toNat tZ.toNat x_2.fst x_2.snd ∧ ((2 : Int) =
x_2.snd ∧ False ∧ True) ∧ (el (el s iZ.toNat) tZ.toNat).asList = x_2.fst ∧ True) ∨ ∃ (x : List D × Int), x = ((el (el s iZ.toNat) tZ.toNat).asList, (2 : Int)) ∧ ((2 : Int) = (2 : Int) ∧ False ∧ True)
∧ (el (el s iZ.toNat) tZ.toNat).asList = x.fst ∧ True))))) ∧ ((∀ (x : List D × Int), x = ([], (2 : Int)) → cpC s ∧ ∀ (x : Unit), True → (0 : Int) ≤ iZ ∧ iZ < (↑s.len : Int) ∧ iZ.toNat <
s.asList.length ∧ ((el s iZ.toNat) = D.nil → False) ∧ (∀ (r : List D), (el s iZ.toNat) = D.list r → (0 : Int) ≤ tZ ∧ tZ < (↑r.length : Int) ∧ iZ.toNat < s.asList.length ∧ tZ < (↑(el s iZ.toNat).len :
Int) ∧ iZ.toNat < s.asList.length ∧ tZ.toNat < (el s iZ.toNat).len ∧ restC n z s iZ (s.asList.set iZ.toNat (D.list ((el s iZ.toNat).asList.set tZ.toNat D.nil))) (2 : Int)) ∧ ∀ (n : Int), (el s
iZ.toNat) = D.int n → False) ∧ ∀ (x_2 : List D × Int), misP n x s iZ.toNat tZ.toNat x_2.fst x_2.snd → cpC s ∧ ∀ (x : Unit), True → (0 : Int) ≤ iZ ∧ iZ < (↑s.len : Int) ∧ iZ.toNat < s.asList.length ∧
((el s iZ.toNat) = D.nil → False) ∧ (∀ (r : List D), (el s iZ.toNat) = D.list r → (0 : Int) ≤ tZ ∧ tZ < (↑r.length : Int) ∧ iZ.toNat < s.asList.length ∧ tZ < (↑(el s iZ.toNat).len : Int) ∧ (0 : Nat) +
x_2.fst.length ≤ x_2.fst.length ∧ iZ.toNat < s.asList.length ∧ tZ.toNat < (el s iZ.toNat).len ∧ restC n z s iZ (s.asList.set iZ.toNat (D.list ((el s iZ.toNat).asList.set tZ.toNat (D.list (List.take
x_2.fst.length x_2.fst))))) x_2.snd) ∧ ∀ (n : Int), (el s iZ.toNat) = D.int n → False) ∧ ∀ (x : List D × Int), x = ((el (el s iZ.toNat) tZ.toNat).asList, (2 : Int)) → cpC s ∧ ∀ (x_2 : Unit), True → (0
: Int) ≤ iZ ∧ iZ < (↑s.len : Int) ∧ iZ.toNat < s.asList.length ∧ ((el s iZ.toNat) = D.nil → False) ∧ (∀ (r : List D), (el s iZ.toNat) = D.list r → (0 : Int) ≤ tZ ∧ tZ < (↑r.length : Int) ∧ iZ.toNat <
s.asList.length ∧ tZ < (↑(el s iZ.toNat).len : Int) ∧ (1 : Nat) + (x.fst.length - (1 : Nat)) ≤ x.fst.length ∧ iZ.toNat < s.asList.length ∧ tZ.toNat < (el s iZ.toNat).len ∧ restC n z s iZ (s.asList.set
iZ.toNat (D.list ((el s iZ.toNat).asList.set tZ.toNat (D.list (List.take (x.fst.length - (1 : Nat)) (List.drop (1 : Nat) x.fst)))))) (2 : Int)) ∧ ∀ (n : Int), (el s iZ.toNat) = D.int n → False)
theorem vc3 (c w : D) (at_ where_ way x : Int) : symFun (ctxo wh1 whAnn whJoin) 6 (3 : FuncId) [V.dat (22 : TypeId) c, V.dat (23 : TypeId) w, V.int IntKind.u8 at_, V.int IntKind.u8 where_, V.int IntKind.u8 way, V.int
IntKind.i64 x] (V.prop True) = ((u8L c ∧ u8W w) ∧ lawC (nD c) (szD c) (madeD c w) x way ((IntKind.i64.wrap at_).tmod (↑(madeD c w).len : Int)) ((IntKind.i64.wrap where_).tmod (↑(szD c).len : Int))) := by kernel_rfl
end Go.Ev
