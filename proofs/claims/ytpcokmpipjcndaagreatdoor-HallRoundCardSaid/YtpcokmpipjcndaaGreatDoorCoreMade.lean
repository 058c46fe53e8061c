/-
  Part of the engine that the claim is proved with: it states nothing of the document by itself.
-/
import Derived.Test.YtpcokmpipjcndaaGreatDoorCoreG23
open Go.Proofs
namespace Go.Ev
set_option maxRecDepth 100000
set_option maxHeartbeats 4000000
theorem vc25 : ∀ (nm : List UInt8) (sh a b : Int) (o : D),
 symFun (ctx (fun (x : FuncId) => none) (annMade nm o)) (3 : Nat) (25 : FuncId)
 [V.agg [V.int IntKind.u8 sh, V.int IntKind.u8 a, V.int IntKind.u8 b, V.dat (52 : TypeId) o], V.str nm]
 (V.agg
 [V.str nm, V.int IntKind.u8 (mSh sh), V.int IntKind.i64 (mA sh a), V.int IntKind.i64 (mB sh a b), V.dat (37 : TypeId) (openD o (mN sh a b)),
 V.int IntKind.i64 (0 : Int), V.int IntKind.i64 (0 : Int)]) =
 (((4 : Int) = (0 : Int) → False) ∧
 ((0 : Int) ≤ (1 : Int) + sh.tmod (4 : Int) ∧ (1 : Int) + sh.tmod (4 : Int) < (256 : Int)) ∧
 ((1 : Int) + sh.tmod (4 : Int) = (1 : Int) →
 ((24 : Int) = (0 : Int) → False) ∧
 ((-9223372036854775808 : Int) ≤ (1 : Int) + IntKind.i64.wrap (a.tmod (24 : Int)) ∧
 (1 : Int) + IntKind.i64.wrap (a.tmod (24 : Int)) < (9223372036854775808 : Int)) ∧
 (0 : Int) ≤ (0 : Int) ∧
 ((0 : Int) ≤ bif false then max (↑o.len : Int) (24 : Int) else min (↑o.len : Int) (24 : Int)) ∧
 (bif false then max (↑o.len : Int) (24 : Int) else min (↑o.len : Int) (24 : Int)) ≤ (↑o.len : Int) ∧
 ((∃ (x : Nat), x = (0 : Nat) ∧ ((0 : Int) = (0 : Int) ∧ True) ∧ True) ∨
 ∃ (x : Nat),
 ((0 : Nat) < x ∧ x ≤ min o.len (24 : Nat)) ∧
 ((0 : Int) = (↑x : Int) ∧ True) ∧
 (nm = nm ∧
 (1 : Int) + sh.tmod (4 : Int) = (1 : Int) + sh.tmod (4 : Int) ∧
 (1 : Int) + IntKind.i64.wrap (a.tmod (24 : Int)) = (1 : Int) + IntKind.i64.wrap (a.tmod (24 : Int)) ∧
 (0 : Int) = Int.ofNat (0 : Nat) ∧ False ∧ (0 : Int) = (0 : Int) ∧ (0 : Int) = (0 : Int) ∧ True) ∧
 False ∧ True) ∧
 (∀ (x : Nat),
 x = (0 : Nat) →
 (24 : Nat) - x < LIM ∧
 ((0 : Int) <
 (↑(o.sub (0 : Nat) (bif false then max (↑o.len : Int) (24 : Int) else min (↑o.len : Int) (24 : Int)).toNat).len : Int) →
 (0 : Int) ≤ (0 : Int) ∧
 (0 : Int) <
 (↑(o.sub (0 : Nat) (bif false then max (↑o.len : Int) (24 : Int) else min (↑o.len : Int) (24 : Int)).toNat).len :
 Int) ∧
 ((1 : Int) + IntKind.i64.wrap (a.tmod (24 : Int)) = (0 : Int) → False) ∧
 (0 : Nat) + (1 : Nat) ≤
 [D.int
 ((IntKind.i64.wrap
 (el
 (o.sub (0 : Nat)
 (bif false then max (↑o.len : Int) (24 : Int) else min (↑o.len : Int) (24 : Int)).toNat)
 (Int.toNat (0 : Int))).asInt).tmod
 ((1 : Int) + IntKind.i64.wrap (a.tmod (24 : Int))))].length ∧
 (1 : Nat) ≤ (16777216 : Nat) ∧
 ((-9223372036854775808 : Int) ≤ (0 : Int) + (1 : Int) ∧ (0 : Int) + (1 : Int) < (9223372036854775808 : Int)) ∧
 ((∃ (y : Nat), y = (0 : Nat) ∧ (24 : Nat) - y < (24 : Nat) - x ∧ False) ∨
 ∃ (y : Nat),
 ((0 : Nat) < y ∧ y ≤ min o.len (24 : Nat)) ∧
 (24 : Nat) - y < (24 : Nat) - x ∧
 ((0 : Int) + (1 : Int) = (↑y : Int) ∧ True) ∧
 (nm = nm ∧
 (1 : Int) + sh.tmod (4 : Int) = (1 : Int) + sh.tmod (4 : Int) ∧
 (1 : Int) + IntKind.i64.wrap (a.tmod (24 : Int)) =
 (1 : Int) + IntKind.i64.wrap (a.tmod (24 : Int)) ∧
 (0 : Int) = Int.ofNat (0 : Nat) ∧
 ((0 : Nat) = (0 : Nat) ∧ (1 : Nat) = y ∧ True) ∧
 (0 : Int) = (0 : Int) ∧ (0 : Int) = (0 : Int) ∧ True) ∧
 List.take (1 : Nat)
 [D.int
 ((IntKind.i64.wrap
 (el
 (o.sub (0 : Nat)
 (bif false then max (↑o.len : Int) (24 : Int)
 else min (↑o.len : Int) (24 : Int)).toNat)
 (Int.toNat (0 : Int))).asInt).tmod
 ((1 : Int) + IntKind.i64.wrap (a.tmod (24 : Int))))] =
 openL o ((1 : Int) + IntKind.i64.wrap (a.tmod (24 : Int))) y ∧
 True)) ∧
 (((0 : Int) <
 (↑(o.sub (0 : Nat) (bif false then max (↑o.len : Int) (24 : Int) else min (↑o.len : Int) (24 : Int)).toNat).len : Int) →
 False) →
 (sortF.ret [] = none →
 (compactF.ret [] = none → False) ∧
 ∀ (k : Nat),
 compactF.ret [] = some k →
 nm = nm ∧
 (1 : Int) + sh.tmod (4 : Int) = mSh sh ∧
 (1 : Int) + IntKind.i64.wrap (a.tmod (24 : Int)) = mA sh a ∧
 (0 : Int) = mB sh a b ∧
 D.nil = openD o (mN sh a b) ∧ (0 : Int) = (0 : Int) ∧ (0 : Int) = (0 : Int) ∧ True) ∧
 ∀ (k : Nat),
 sortF.ret [] = some k →
 (compactF.ret [] = none → False) ∧
 ∀ (k : Nat),
 compactF.ret [] = some k →
 nm = nm ∧
 (1 : Int) + sh.tmod (4 : Int) = mSh sh ∧
 (1 : Int) + IntKind.i64.wrap (a.tmod (24 : Int)) = mA sh a ∧
 (0 : Int) = mB sh a b ∧
 D.nil = openD o (mN sh a b) ∧ (0 : Int) = (0 : Int) ∧ (0 : Int) = (0 : Int) ∧ True)) ∧
 ∀ (x : Nat),
 (0 : Nat) < x ∧ x ≤ min o.len (24 : Nat) →
 (24 : Nat) - x < LIM ∧
 ((↑x : Int) <
 (↑(o.sub (0 : Nat) (bif false then max (↑o.len : Int) (24 : Int) else min (↑o.len : Int) (24 : Int)).toNat).len : Int) →
 (0 : Int) ≤ (↑x : Int) ∧
 (↑x : Int) <
 (↑(o.sub (0 : Nat) (bif false then max (↑o.len : Int) (24 : Int) else min (↑o.len : Int) (24 : Int)).toNat).len :
 Int) ∧
 ((1 : Int) + IntKind.i64.wrap (a.tmod (24 : Int)) = (0 : Int) → False) ∧
 (0 : Nat) + (1 : Nat) ≤
 [D.int
 ((IntKind.i64.wrap
 (el
 (o.sub (0 : Nat)
 (bif false then max (↑o.len : Int) (24 : Int) else min (↑o.len : Int) (24 : Int)).toNat)
 x).asInt).tmod
 ((1 : Int) + IntKind.i64.wrap (a.tmod (24 : Int))))].length ∧
 (0 : Nat) + x ≤ (openL o ((1 : Int) + IntKind.i64.wrap (a.tmod (24 : Int))) x).length ∧
 x + (1 : Nat) ≤ (16777216 : Nat) ∧
 ((-9223372036854775808 : Int) ≤ (↑x : Int) + (1 : Int) ∧ (↑x : Int) + (1 : Int) < (9223372036854775808 : Int)) ∧
 ((∃ (y : Nat), y = (0 : Nat) ∧ (24 : Nat) - y < (24 : Nat) - x ∧ False) ∨
 ∃ (y : Nat),
 ((0 : Nat) < y ∧ y ≤ min o.len (24 : Nat)) ∧
 (24 : Nat) - y < (24 : Nat) - x ∧
 ((↑x : Int) + (1 : Int) = (↑y : Int) ∧ True) ∧
 (nm = nm ∧
 (1 : Int) + sh.tmod (4 : Int) = (1 : Int) + sh.tmod (4 : Int) ∧
 (1 : Int) + IntKind.i64.wrap (a.tmod (24 : Int)) =
 (1 : Int) + IntKind.i64.wrap (a.tmod (24 : Int)) ∧
 Int.ofNat (0 : Nat) = Int.ofNat (0 : Nat) ∧
 ((0 : Nat) = (0 : Nat) ∧ x + (1 : Nat) = y ∧ True) ∧
 (0 : Int) = (0 : Int) ∧ (0 : Int) = (0 : Int) ∧ True) ∧
 List.take x (openL o ((1 : Int) + IntKind.i64.wrap (a.tmod (24 : Int))) x) ++
 List.take (1 : Nat)
 [D.int
 ((IntKind.i64.wrap
 (el
 (o.sub (0 : Nat)
 (bif false then max (↑o.len : Int) (24 : Int)
 else min (↑o.len : Int) (24 : Int)).toNat)
 x).asInt).tmod
 ((1 : Int) + IntKind.i64.wrap (a.tmod (24 : Int))))] =
 openL o ((1 : Int) + IntKind.i64.wrap (a.tmod (24 : Int))) y ∧
 True)) ∧
 (((↑x : Int) <
 (↑(o.sub (0 : Nat) (bif false then max (↑o.len : Int) (24 : Int) else min (↑o.len : Int) (24 : Int)).toNat).len : Int) →
 False) →
 (0 : Nat) < x ∧
 x ≤ (16777216 : Nat) ∧
 (0 : Nat) + x ≤ (openL o ((1 : Int) + IntKind.i64.wrap (a.tmod (24 : Int))) x).length ∧
 intL (List.take x (openL o ((1 : Int) + IntKind.i64.wrap (a.tmod (24 : Int))) x)) ∧
 (sortF.new (List.map D.asInt (List.take x (openL o ((1 : Int) + IntKind.i64.wrap (a.tmod (24 : Int))) x)))).length =
 x ∧
 (sortF.ret (List.map D.asInt (List.take x (openL o ((1 : Int) + IntKind.i64.wrap (a.tmod (24 : Int))) x))) =
 none →
 (0 : Nat) < x ∧
 x ≤ (16777216 : Nat) ∧
 (0 : Nat) + x ≤
 (List.take (0 : Nat) (openL o ((1 : Int) + IntKind.i64.wrap (a.tmod (24 : Int))) x) ++
 sortD sortF (List.take x (openL o ((1 : Int) + IntKind.i64.wrap (a.tmod (24 : Int))) x)) ++
 List.drop ((0 : Nat) + x) (openL o ((1 : Int) + IntKind.i64.wrap (a.tmod (24 : Int))) x)).length ∧
 intL
 (List.take x
 (List.take (0 : Nat) (openL o ((1 : Int) + IntKind.i64.wrap (a.tmod (24 : Int))) x) ++
 sortD sortF (List.take x (openL o ((1 : Int) + IntKind.i64.wrap (a.tmod (24 : Int))) x)) ++
 List.drop ((0 : Nat) + x) (openL o ((1 : Int) + IntKind.i64.wrap (a.tmod (24 : Int))) x))) ∧
 (compactF.new
 (List.map D.asInt
 (List.take x
 (List.take (0 : Nat) (openL o ((1 : Int) + IntKind.i64.wrap (a.tmod (24 : Int))) x) ++
 sortD sortF
 (List.take x (openL o ((1 : Int) + IntKind.i64.wrap (a.tmod (24 : Int))) x)) ++
 List.drop ((0 : Nat) + x)
 (openL o ((1 : Int) + IntKind.i64.wrap (a.tmod (24 : Int))) x))))).length =
 x ∧
 (compactF.ret
 (List.map D.asInt
 (List.take x
 (List.take (0 : Nat) (openL o ((1 : Int) + IntKind.i64.wrap (a.tmod (24 : Int))) x) ++
 sortD sortF
 (List.take x (openL o ((1 : Int) + IntKind.i64.wrap (a.tmod (24 : Int))) x)) ++
 List.drop ((0 : Nat) + x)
 (openL o ((1 : Int) + IntKind.i64.wrap (a.tmod (24 : Int))) x)))) =
 none →
 False) ∧
 ∀ (k : Nat),
 compactF.ret
 (List.map D.asInt
 (List.take x
 (List.take (0 : Nat) (openL o ((1 : Int) + IntKind.i64.wrap (a.tmod (24 : Int))) x) ++
 sortD sortF
 (List.take x (openL o ((1 : Int) + IntKind.i64.wrap (a.tmod (24 : Int))) x)) ++
 List.drop ((0 : Nat) + x)
 (openL o ((1 : Int) + IntKind.i64.wrap (a.tmod (24 : Int))) x)))) =
 some k →
 k ≤ x ∧
 nm = nm ∧
 (1 : Int) + sh.tmod (4 : Int) = mSh sh ∧
 (1 : Int) + IntKind.i64.wrap (a.tmod (24 : Int)) = mA sh a ∧
 Int.ofNat (0 : Nat) = mB sh a b ∧
 ((0 : Nat) + k ≤
 (List.take (0 : Nat)
 (List.take (0 : Nat)
 (openL o ((1 : Int) + IntKind.i64.wrap (a.tmod (24 : Int)))
 x) ++
 sortD sortF
 (List.take x
 (openL o ((1 : Int) + IntKind.i64.wrap (a.tmod (24 : Int)))
 x)) ++
 List.drop ((0 : Nat) + x)
 (openL o ((1 : Int) + IntKind.i64.wrap (a.tmod (24 : Int))) x)) ++
 sortD compactF
 (List.take x
 (List.take (0 : Nat)
 (openL o ((1 : Int) + IntKind.i64.wrap (a.tmod (24 : Int)))
 x) ++
 sortD sortF
 (List.take x
 (openL o ((1 : Int) + IntKind.i64.wrap (a.tmod (24 : Int)))
 x)) ++
 List.drop ((0 : Nat) + x)
 (openL o ((1 : Int) + IntKind.i64.wrap (a.tmod (24 : Int)))
 x))) ++
 List.drop ((0 : Nat) + x)
 (List.take (0 : Nat)
 (openL o ((1 : Int) + IntKind.i64.wrap (a.tmod (24 : Int))) x) ++
 sortD sortF
 (List.take x
 (openL o ((1 : Int) + IntKind.i64.wrap (a.tmod (24 : Int)))
 x)) ++
 List.drop ((0 : Nat) + x)
 (openL o ((1 : Int) + IntKind.i64.wrap (a.tmod (24 : Int)))
 x))).length ∧
 D.list
 (List.take k
 (List.take (0 : Nat)
 (List.take (0 : Nat)
 (openL o ((1 : Int) + IntKind.i64.wrap (a.tmod (24 : Int)))
 x) ++
 sortD sortF
 (List.take x
 (openL o ((1 : Int) + IntKind.i64.wrap (a.tmod (24 : Int)))
 x)) ++
 List.drop ((0 : Nat) + x)
 (openL o ((1 : Int) + IntKind.i64.wrap (a.tmod (24 : Int)))
 x)) ++
 sortD compactF
 (List.take x
 (List.take (0 : Nat)
 (openL o ((1 : Int) + IntKind.i64.wrap (a.tmod (24 : Int)))
 x) ++
 sortD sortF
 (List.take x
 (openL o
 ((1 : Int) + IntKind.i64.wrap (a.tmod (24 : Int)))
 x)) ++
 List.drop ((0 : Nat) + x)
 (openL o ((1 : Int) + IntKind.i64.wrap (a.tmod (24 : Int)))
 x))) ++
 List.drop ((0 : Nat) + x)
 (List.take (0 : Nat)
 (openL o ((1 : Int) + IntKind.i64.wrap (a.tmod (24 : Int)))
 x) ++
 sortD sortF
 (List.take x
 (openL o ((1 : Int) + IntKind.i64.wrap (a.tmod (24 : Int)))
 x)) ++
 List.drop ((0 : Nat) + x)
 (openL o ((1 : Int) + IntKind.i64.wrap (a.tmod (24 : Int)))
 x)))) =
 openD o (mN sh a b)) ∧
 (0 : Int) = (0 : Int) ∧ (0 : Int) = (0 : Int) ∧ True) ∧
 ∀ (k : Nat),
 sortF.ret (List.map D.asInt (List.take x (openL o ((1 : Int) + IntKind.i64.wrap (a.tmod (24 : Int))) x))) =
 some k →
 k ≤ x ∧
 (0 : Nat) < x ∧
 x ≤ (16777216 : Nat) ∧
 (0 : Nat) + x ≤
 (List.take (0 : Nat) (openL o ((1 : Int) + IntKind.i64.wrap (a.tmod (24 : Int))) x) ++
 sortD sortF (List.take x (openL o ((1 : Int) + IntKind.i64.wrap (a.tmod (24 : Int))) x)) ++
 List.drop ((0 : Nat) + x)
 (openL o ((1 : Int) + IntKind.i64.wrap (a.tmod (24 : Int))) x)).length ∧
 intL
 (List.take x
 (List.take (0 : Nat) (openL o ((1 : Int) + IntKind.i64.wrap (a.tmod (24 : Int))) x) ++
 sortD sortF
 (List.take x (openL o ((1 : Int) + IntKind.i64.wrap (a.tmod (24 : Int))) x)) ++
 List.drop ((0 : Nat) + x) (openL o ((1 : Int) + IntKind.i64.wrap (a.tmod (24 : Int))) x))) ∧
 (compactF.new
 (List.map D.asInt
 (List.take x
 (List.take (0 : Nat) (openL o ((1 : Int) + IntKind.i64.wrap (a.tmod (24 : Int))) x) ++
 sortD sortF
 (List.take x (openL o ((1 : Int) + IntKind.i64.wrap (a.tmod (24 : Int))) x)) ++
 List.drop ((0 : Nat) + x)
 (openL o ((1 : Int) + IntKind.i64.wrap (a.tmod (24 : Int))) x))))).length =
 x ∧
 (compactF.ret
 (List.map D.asInt
 (List.take x
 (List.take (0 : Nat)
 (openL o ((1 : Int) + IntKind.i64.wrap (a.tmod (24 : Int))) x) ++
 sortD sortF
 (List.take x
 (openL o ((1 : Int) + IntKind.i64.wrap (a.tmod (24 : Int))) x)) ++
 List.drop ((0 : Nat) + x)
 (openL o ((1 : Int) + IntKind.i64.wrap (a.tmod (24 : Int))) x)))) =
 none →
 False) ∧
 ∀ (k : Nat),
 compactF.ret
 (List.map D.asInt
 (List.take x
 (List.take (0 : Nat)
 (openL o ((1 : Int) + IntKind.i64.wrap (a.tmod (24 : Int))) x) ++
 sortD sortF
 (List.take x
 (openL o ((1 : Int) + IntKind.i64.wrap (a.tmod (24 : Int))) x)) ++
 List.drop ((0 : Nat) + x)
 (openL o ((1 : Int) + IntKind.i64.wrap (a.tmod (24 : Int))) x)))) =
 some k →
 k ≤ x ∧
 nm = nm ∧
 (1 : Int) + sh.tmod (4 : Int) = mSh sh ∧
 (1 : Int) + IntKind.i64.wrap (a.tmod (24 : Int)) = mA sh a ∧
 Int.ofNat (0 : Nat) = mB sh a b ∧
 ((0 : Nat) + k ≤
 (List.take (0 : Nat)
 (List.take (0 : Nat)
 (openL o ((1 : Int) + IntKind.i64.wrap (a.tmod (24 : Int)))
 x) ++
 sortD sortF
 (List.take x
 (openL o
 ((1 : Int) + IntKind.i64.wrap (a.tmod (24 : Int)))
 x)) ++
 List.drop ((0 : Nat) + x)
 (openL o ((1 : Int) + IntKind.i64.wrap (a.tmod (24 : Int)))
 x)) ++
 sortD compactF
 (List.take x
 (List.take (0 : Nat)
 (openL o
 ((1 : Int) + IntKind.i64.wrap (a.tmod (24 : Int))) x) ++
 sortD sortF
 (List.take x
 (openL o
 ((1 : Int) + IntKind.i64.wrap (a.tmod (24 : Int)))
 x)) ++
 List.drop ((0 : Nat) + x)
 (openL o ((1 : Int) + IntKind.i64.wrap (a.tmod (24 : Int)))
 x))) ++
 List.drop ((0 : Nat) + x)
 (List.take (0 : Nat)
 (openL o ((1 : Int) + IntKind.i64.wrap (a.tmod (24 : Int)))
 x) ++
 sortD sortF
 (List.take x
 (openL o ((1 : Int) + IntKind.i64.wrap (a.tmod (24 : Int)))
 x)) ++
 List.drop ((0 : Nat) + x)
 (openL o ((1 : Int) + IntKind.i64.wrap (a.tmod (24 : Int)))
 x))).length ∧
 D.list
 (List.take k
 (List.take (0 : Nat)
 (List.take (0 : Nat)
 (openL o
 ((1 : Int) + IntKind.i64.wrap (a.tmod (24 : Int))) x) ++
 sortD sortF
 (List.take x
 (openL o
 ((1 : Int) + IntKind.i64.wrap (a.tmod (24 : Int)))
 x)) ++
 List.drop ((0 : Nat) + x)
 (openL o ((1 : Int) + IntKind.i64.wrap (a.tmod (24 : Int)))
 x)) ++
 sortD compactF
 (List.take x
 (List.take (0 : Nat)
 (openL o
 ((1 : Int) + IntKind.i64.wrap (a.tmod (24 : Int)))
 x) ++
 sortD sortF
 (List.take x
 (openL o
 ((1 : Int) + IntKind.i64.wrap (a.tmod (24 : Int)))
 x)) ++
 List.drop ((0 : Nat) + x)
 (openL o
 ((1 : Int) + IntKind.i64.wrap (a.tmod (24 : Int)))
 x))) ++
 List.drop ((0 : Nat) + x)
 (List.take (0 : Nat)
 (openL o ((1 : Int) + IntKind.i64.wrap (a.tmod (24 : Int)))
 x) ++
 sortD sortF
 (List.take x
 (openL o
 ((1 : Int) + IntKind.i64.wrap (a.tmod (24 : Int)))
 x)) ++
 List.drop ((0 : Nat) + x)
 (openL o ((1 : Int) + IntKind.i64.wrap (a.tmod (24 : Int)))
 x)))) =
 openD o (mN sh a b)) ∧
 (0 : Int) = (0 : Int) ∧ (0 : Int) = (0 : Int) ∧ True)) ∧
 (((1 : Int) + sh.tmod (4 : Int) = (1 : Int) → False) →
 ((1 : Int) + sh.tmod (4 : Int) = (2 : Int) →
 ((11 : Int) = (0 : Int) → False) ∧
 ((-9223372036854775808 : Int) ≤ (1 : Int) + IntKind.i64.wrap (a.tmod (11 : Int)) ∧
 (1 : Int) + IntKind.i64.wrap (a.tmod (11 : Int)) < (9223372036854775808 : Int)) ∧
 ((3 : Int) = (0 : Int) → False) ∧
 ((-9223372036854775808 : Int) ≤ (2 : Int) * ((1 : Int) + IntKind.i64.wrap (a.tmod (11 : Int))) ∧
 (2 : Int) * ((1 : Int) + IntKind.i64.wrap (a.tmod (11 : Int))) < (9223372036854775808 : Int)) ∧
 ((-9223372036854775808 : Int) ≤ (2 : Int) * ((1 : Int) + IntKind.i64.wrap (a.tmod (11 : Int))) + IntKind.i64.wrap (b.tmod (3 : Int)) ∧
 (2 : Int) * ((1 : Int) + IntKind.i64.wrap (a.tmod (11 : Int))) + IntKind.i64.wrap (b.tmod (3 : Int)) <
 (9223372036854775808 : Int)) ∧
 (0 : Int) ≤ (0 : Int) ∧
 ((0 : Int) ≤ bif false then max (↑o.len : Int) (24 : Int) else min (↑o.len : Int) (24 : Int)) ∧
 (bif false then max (↑o.len : Int) (24 : Int) else min (↑o.len : Int) (24 : Int)) ≤ (↑o.len : Int) ∧
 ((∃ (x : Nat), x = (0 : Nat) ∧ ((0 : Int) = (0 : Int) ∧ True) ∧ True) ∨
 ∃ (x : Nat),
 ((0 : Nat) < x ∧ x ≤ min o.len (24 : Nat)) ∧
 ((0 : Int) = (↑x : Int) ∧ True) ∧
 (nm = nm ∧
 (1 : Int) + sh.tmod (4 : Int) = (1 : Int) + sh.tmod (4 : Int) ∧
 (1 : Int) + IntKind.i64.wrap (a.tmod (11 : Int)) = (1 : Int) + IntKind.i64.wrap (a.tmod (11 : Int)) ∧
 IntKind.i64.wrap (b.tmod (3 : Int)) = IntKind.i64.wrap (b.tmod (3 : Int)) ∧
 False ∧ (0 : Int) = (0 : Int) ∧ (0 : Int) = (0 : Int) ∧ True) ∧
 False ∧ True) ∧
 (∀ (x : Nat),
 x = (0 : Nat) →
 (24 : Nat) - x < LIM ∧
 ((0 : Int) <
 (↑(o.sub (0 : Nat)
 (bif false then max (↑o.len : Int) (24 : Int) else min (↑o.len : Int) (24 : Int)).toNat).len :
 Int) →
 (0 : Int) ≤ (0 : Int) ∧
 (0 : Int) <
 (↑(o.sub (0 : Nat)
 (bif false then max (↑o.len : Int) (24 : Int) else min (↑o.len : Int) (24 : Int)).toNat).len :
 Int) ∧
 ((2 : Int) * ((1 : Int) + IntKind.i64.wrap (a.tmod (11 : Int))) + IntKind.i64.wrap (b.tmod (3 : Int)) =
 (0 : Int) →
 False) ∧
 (0 : Nat) + (1 : Nat) ≤
 [D.int
 ((IntKind.i64.wrap
 (el
 (o.sub (0 : Nat)
 (bif false then max (↑o.len : Int) (24 : Int)
 else min (↑o.len : Int) (24 : Int)).toNat)
 (Int.toNat (0 : Int))).asInt).tmod
 ((2 : Int) * ((1 : Int) + IntKind.i64.wrap (a.tmod (11 : Int))) +
 IntKind.i64.wrap (b.tmod (3 : Int))))].length ∧
 (1 : Nat) ≤ (16777216 : Nat) ∧
 ((-9223372036854775808 : Int) ≤ (0 : Int) + (1 : Int) ∧
 (0 : Int) + (1 : Int) < (9223372036854775808 : Int)) ∧
 ((∃ (y : Nat), y = (0 : Nat) ∧ (24 : Nat) - y < (24 : Nat) - x ∧ False) ∨
 ∃ (y : Nat),
 ((0 : Nat) < y ∧ y ≤ min o.len (24 : Nat)) ∧
 (24 : Nat) - y < (24 : Nat) - x ∧
 ((0 : Int) + (1 : Int) = (↑y : Int) ∧ True) ∧
 (nm = nm ∧
 (1 : Int) + sh.tmod (4 : Int) = (1 : Int) + sh.tmod (4 : Int) ∧
 (1 : Int) + IntKind.i64.wrap (a.tmod (11 : Int)) =
 (1 : Int) + IntKind.i64.wrap (a.tmod (11 : Int)) ∧
 IntKind.i64.wrap (b.tmod (3 : Int)) = IntKind.i64.wrap (b.tmod (3 : Int)) ∧
 ((0 : Nat) = (0 : Nat) ∧ (1 : Nat) = y ∧ True) ∧
 (0 : Int) = (0 : Int) ∧ (0 : Int) = (0 : Int) ∧ True) ∧
 List.take (1 : Nat)
 [D.int
 ((IntKind.i64.wrap
 (el
 (o.sub (0 : Nat)
 (bif false then max (↑o.len : Int) (24 : Int)
 else min (↑o.len : Int) (24 : Int)).toNat)
 (Int.toNat (0 : Int))).asInt).tmod
 ((2 : Int) * ((1 : Int) + IntKind.i64.wrap (a.tmod (11 : Int))) +
 IntKind.i64.wrap (b.tmod (3 : Int))))] =
 openL o
 ((2 : Int) * ((1 : Int) + IntKind.i64.wrap (a.tmod (11 : Int))) +
 IntKind.i64.wrap (b.tmod (3 : Int)))
 y ∧
 True)) ∧
 (((0 : Int) <
 (↑(o.sub (0 : Nat)
 (bif false then max (↑o.len : Int) (24 : Int) else min (↑o.len : Int) (24 : Int)).toNat).len :
 Int) →
 False) →
 (sortF.ret [] = none →
 (compactF.ret [] = none → False) ∧
 ∀ (k : Nat),
 compactF.ret [] = some k →
 nm = nm ∧
 (1 : Int) + sh.tmod (4 : Int) = mSh sh ∧
 (1 : Int) + IntKind.i64.wrap (a.tmod (11 : Int)) = mA sh a ∧
 IntKind.i64.wrap (b.tmod (3 : Int)) = mB sh a b ∧
 D.nil = openD o (mN sh a b) ∧ (0 : Int) = (0 : Int) ∧ (0 : Int) = (0 : Int) ∧ True) ∧
 ∀ (k : Nat),
 sortF.ret [] = some k →
 (compactF.ret [] = none → False) ∧
 ∀ (k : Nat),
 compactF.ret [] = some k →
 nm = nm ∧
 (1 : Int) + sh.tmod (4 : Int) = mSh sh ∧
 (1 : Int) + IntKind.i64.wrap (a.tmod (11 : Int)) = mA sh a ∧
 IntKind.i64.wrap (b.tmod (3 : Int)) = mB sh a b ∧
 D.nil = openD o (mN sh a b) ∧ (0 : Int) = (0 : Int) ∧ (0 : Int) = (0 : Int) ∧ True)) ∧
 ∀ (x : Nat),
 (0 : Nat) < x ∧ x ≤ min o.len (24 : Nat) →
 (24 : Nat) - x < LIM ∧
 ((↑x : Int) <
 (↑(o.sub (0 : Nat)
 (bif false then max (↑o.len : Int) (24 : Int) else min (↑o.len : Int) (24 : Int)).toNat).len :
 Int) →
 (0 : Int) ≤ (↑x : Int) ∧
 (↑x : Int) <
 (↑(o.sub (0 : Nat)
 (bif false then max (↑o.len : Int) (24 : Int) else min (↑o.len : Int) (24 : Int)).toNat).len :
 Int) ∧
 ((2 : Int) * ((1 : Int) + IntKind.i64.wrap (a.tmod (11 : Int))) + IntKind.i64.wrap (b.tmod (3 : Int)) =
 (0 : Int) →
 False) ∧
 (0 : Nat) + (1 : Nat) ≤
 [D.int
 ((IntKind.i64.wrap
 (el
 (o.sub (0 : Nat)
 (bif false then max (↑o.len : Int) (24 : Int)
 else min (↑o.len : Int) (24 : Int)).toNat)
 x).asInt).tmod
 ((2 : Int) * ((1 : Int) + IntKind.i64.wrap (a.tmod (11 : Int))) +
 IntKind.i64.wrap (b.tmod (3 : Int))))].length ∧
 (0 : Nat) + x ≤
 (openL o
 ((2 : Int) * ((1 : Int) + IntKind.i64.wrap (a.tmod (11 : Int))) +
 IntKind.i64.wrap (b.tmod (3 : Int)))
 x).length ∧
 x + (1 : Nat) ≤ (16777216 : Nat) ∧
 ((-9223372036854775808 : Int) ≤ (↑x : Int) + (1 : Int) ∧
 (↑x : Int) + (1 : Int) < (9223372036854775808 : Int)) ∧
 ((∃ (y : Nat), y = (0 : Nat) ∧ (24 : Nat) - y < (24 : Nat) - x ∧ False) ∨
 ∃ (y : Nat),
 ((0 : Nat) < y ∧ y ≤ min o.len (24 : Nat)) ∧
 (24 : Nat) - y < (24 : Nat) - x ∧
 ((↑x : Int) + (1 : Int) = (↑y : Int) ∧ True) ∧
 (nm = nm ∧
 (1 : Int) + sh.tmod (4 : Int) = (1 : Int) + sh.tmod (4 : Int) ∧
 (1 : Int) + IntKind.i64.wrap (a.tmod (11 : Int)) =
 (1 : Int) + IntKind.i64.wrap (a.tmod (11 : Int)) ∧
 IntKind.i64.wrap (b.tmod (3 : Int)) = IntKind.i64.wrap (b.tmod (3 : Int)) ∧
 ((0 : Nat) = (0 : Nat) ∧ x + (1 : Nat) = y ∧ True) ∧
 (0 : Int) = (0 : Int) ∧ (0 : Int) = (0 : Int) ∧ True) ∧
 List.take x
 (openL o
 ((2 : Int) * ((1 : Int) + IntKind.i64.wrap (a.tmod (11 : Int))) +
 IntKind.i64.wrap (b.tmod (3 : Int)))
 x) ++
 List.take (1 : Nat)
 [D.int
 ((IntKind.i64.wrap
 (el
 (o.sub (0 : Nat)
 (bif false then max (↑o.len : Int) (24 : Int)
 else min (↑o.len : Int) (24 : Int)).toNat)
 x).asInt).tmod
 ((2 : Int) * ((1 : Int) + IntKind.i64.wrap (a.tmod (11 : Int))) +
 IntKind.i64.wrap (b.tmod (3 : Int))))] =
 openL o
 ((2 : Int) * ((1 : Int) + IntKind.i64.wrap (a.tmod (11 : Int))) +
 IntKind.i64.wrap (b.tmod (3 : Int)))
 y ∧
 True)) ∧
 (((↑x : Int) <
 (↑(o.sub (0 : Nat)
 (bif false then max (↑o.len : Int) (24 : Int) else min (↑o.len : Int) (24 : Int)).toNat).len :
 Int) →
 False) →
 (0 : Nat) < x ∧
 x ≤ (16777216 : Nat) ∧
 (0 : Nat) + x ≤
 (openL o
 ((2 : Int) * ((1 : Int) + IntKind.i64.wrap (a.tmod (11 : Int))) + IntKind.i64.wrap (b.tmod (3 : Int)))
 x).length ∧
 intL
 (List.take x
 (openL o
 ((2 : Int) * ((1 : Int) + IntKind.i64.wrap (a.tmod (11 : Int))) +
 IntKind.i64.wrap (b.tmod (3 : Int)))
 x)) ∧
 (sortF.new
 (List.map D.asInt
 (List.take x
 (openL o
 ((2 : Int) * ((1 : Int) + IntKind.i64.wrap (a.tmod (11 : Int))) +
 IntKind.i64.wrap (b.tmod (3 : Int)))
 x)))).length =
 x ∧
 (sortF.ret
 (List.map D.asInt
 (List.take x
 (openL o
 ((2 : Int) * ((1 : Int) + IntKind.i64.wrap (a.tmod (11 : Int))) +
 IntKind.i64.wrap (b.tmod (3 : Int)))
 x))) =
 none →
 (0 : Nat) < x ∧
 x ≤ (16777216 : Nat) ∧
 (0 : Nat) + x ≤
 (List.take (0 : Nat)
 (openL o
 ((2 : Int) * ((1 : Int) + IntKind.i64.wrap (a.tmod (11 : Int))) +
 IntKind.i64.wrap (b.tmod (3 : Int)))
 x) ++
 sortD sortF
 (List.take x
 (openL o
 ((2 : Int) * ((1 : Int) + IntKind.i64.wrap (a.tmod (11 : Int))) +
 IntKind.i64.wrap (b.tmod (3 : Int)))
 x)) ++
 List.drop ((0 : Nat) + x)
 (openL o
 ((2 : Int) * ((1 : Int) + IntKind.i64.wrap (a.tmod (11 : Int))) +
 IntKind.i64.wrap (b.tmod (3 : Int)))
 x)).length ∧
 intL
 (List.take x
 (List.take (0 : Nat)
 (openL o
 ((2 : Int) * ((1 : Int) + IntKind.i64.wrap (a.tmod (11 : Int))) +
 IntKind.i64.wrap (b.tmod (3 : Int)))
 x) ++
 sortD sortF
 (List.take x
 (openL o
 ((2 : Int) * ((1 : Int) + IntKind.i64.wrap (a.tmod (11 : Int))) +
 IntKind.i64.wrap (b.tmod (3 : Int)))
 x)) ++
 List.drop ((0 : Nat) + x)
 (openL o
 ((2 : Int) * ((1 : Int) + IntKind.i64.wrap (a.tmod (11 : Int))) +
 IntKind.i64.wrap (b.tmod (3 : Int)))
 x))) ∧
 (compactF.new
 (List.map D.asInt
 (List.take x
 (List.take (0 : Nat)
 (openL o
 ((2 : Int) * ((1 : Int) + IntKind.i64.wrap (a.tmod (11 : Int))) +
 IntKind.i64.wrap (b.tmod (3 : Int)))
 x) ++
 sortD sortF
 (List.take x
 (openL o
 ((2 : Int) * ((1 : Int) + IntKind.i64.wrap (a.tmod (11 : Int))) +
 IntKind.i64.wrap (b.tmod (3 : Int)))
 x)) ++
 List.drop ((0 : Nat) + x)
 (openL o
 ((2 : Int) * ((1 : Int) + IntKind.i64.wrap (a.tmod (11 : Int))) +
 IntKind.i64.wrap (b.tmod (3 : Int)))
 x))))).length =
 x ∧
 (compactF.ret
 (List.map D.asInt
 (List.take x
 (List.take (0 : Nat)
 (openL o
 ((2 : Int) * ((1 : Int) + IntKind.i64.wrap (a.tmod (11 : Int))) +
 IntKind.i64.wrap (b.tmod (3 : Int)))
 x) ++
 sortD sortF
 (List.take x
 (openL o
 ((2 : Int) * ((1 : Int) + IntKind.i64.wrap (a.tmod (11 : Int))) +
 IntKind.i64.wrap (b.tmod (3 : Int)))
 x)) ++
 List.drop ((0 : Nat) + x)
 (openL o
 ((2 : Int) * ((1 : Int) + IntKind.i64.wrap (a.tmod (11 : Int))) +
 IntKind.i64.wrap (b.tmod (3 : Int)))
 x)))) =
 none →
 False) ∧
 ∀ (k : Nat),
 compactF.ret
 (List.map D.asInt
 (List.take x
 (List.take (0 : Nat)
 (openL o
 ((2 : Int) * ((1 : Int) + IntKind.i64.wrap (a.tmod (11 : Int))) +
 IntKind.i64.wrap (b.tmod (3 : Int)))
 x) ++
 sortD sortF
 (List.take x
 (openL o
 ((2 : Int) * ((1 : Int) + IntKind.i64.wrap (a.tmod (11 : Int))) +
 IntKind.i64.wrap (b.tmod (3 : Int)))
 x)) ++
 List.drop ((0 : Nat) + x)
 (openL o
 ((2 : Int) * ((1 : Int) + IntKind.i64.wrap (a.tmod (11 : Int))) +
 IntKind.i64.wrap (b.tmod (3 : Int)))
 x)))) =
 some k →
 k ≤ x ∧
 nm = nm ∧
 (1 : Int) + sh.tmod (4 : Int) = mSh sh ∧
 (1 : Int) + IntKind.i64.wrap (a.tmod (11 : Int)) = mA sh a ∧
 IntKind.i64.wrap (b.tmod (3 : Int)) = mB sh a b ∧
 ((0 : Nat) + k ≤
 (List.take (0 : Nat)
 (List.take (0 : Nat)
 (openL o
 ((2 : Int) *
 ((1 : Int) +
 IntKind.i64.wrap (a.tmod (11 : Int))) +
 IntKind.i64.wrap (b.tmod (3 : Int)))
 x) ++
 sortD sortF
 (List.take x
 (openL o
 ((2 : Int) *
 ((1 : Int) +
 IntKind.i64.wrap (a.tmod (11 : Int))) +
 IntKind.i64.wrap (b.tmod (3 : Int)))
 x)) ++
 List.drop ((0 : Nat) + x)
 (openL o
 ((2 : Int) *
 ((1 : Int) +
 IntKind.i64.wrap (a.tmod (11 : Int))) +
 IntKind.i64.wrap (b.tmod (3 : Int)))
 x)) ++
 sortD compactF
 (List.take x
 (List.take (0 : Nat)
 (openL o
 ((2 : Int) *
 ((1 : Int) +
 IntKind.i64.wrap (a.tmod (11 : Int))) +
 IntKind.i64.wrap (b.tmod (3 : Int)))
 x) ++
 sortD sortF
 (List.take x
 (openL o
 ((2 : Int) *
 ((1 : Int) +
 IntKind.i64.wrap (a.tmod (11 : Int))) +
 IntKind.i64.wrap (b.tmod (3 : Int)))
 x)) ++
 List.drop ((0 : Nat) + x)
 (openL o
 ((2 : Int) *
 ((1 : Int) +
 IntKind.i64.wrap (a.tmod (11 : Int))) +
 IntKind.i64.wrap (b.tmod (3 : Int)))
 x))) ++
 List.drop ((0 : Nat) + x)
 (List.take (0 : Nat)
 (openL o
 ((2 : Int) *
 ((1 : Int) +
 IntKind.i64.wrap (a.tmod (11 : Int))) +
 IntKind.i64.wrap (b.tmod (3 : Int)))
 x) ++
 sortD sortF
 (List.take x
 (openL o
 ((2 : Int) *
 ((1 : Int) +
 IntKind.i64.wrap (a.tmod (11 : Int))) +
 IntKind.i64.wrap (b.tmod (3 : Int)))
 x)) ++
 List.drop ((0 : Nat) + x)
 (openL o
 ((2 : Int) *
 ((1 : Int) + IntKind.i64.wrap (a.tmod (11 : Int))) +
 IntKind.i64.wrap (b.tmod (3 : Int)))
 x))).length ∧
 D.list
 (List.take k
 (List.take (0 : Nat)
 (List.take (0 : Nat)
 (openL o
 ((2 : Int) *
 ((1 : Int) +
 IntKind.i64.wrap (a.tmod (11 : Int))) +
 IntKind.i64.wrap (b.tmod (3 : Int)))
 x) ++
 sortD sortF
 (List.take x
 (openL o
 ((2 : Int) *
 ((1 : Int) +
 IntKind.i64.wrap (a.tmod (11 : Int))) +
 IntKind.i64.wrap (b.tmod (3 : Int)))
 x)) ++
 List.drop ((0 : Nat) + x)
 (openL o
 ((2 : Int) *
 ((1 : Int) +
 IntKind.i64.wrap (a.tmod (11 : Int))) +
 IntKind.i64.wrap (b.tmod (3 : Int)))
 x)) ++
 sortD compactF
 (List.take x
 (List.take (0 : Nat)
 (openL o
 ((2 : Int) *
 ((1 : Int) +
 IntKind.i64.wrap (a.tmod (11 : Int))) +
 IntKind.i64.wrap (b.tmod (3 : Int)))
 x) ++
 sortD sortF
 (List.take x
 (openL o
 ((2 : Int) *
 ((1 : Int) +
 IntKind.i64.wrap (a.tmod (11 : Int))) +
 IntKind.i64.wrap (b.tmod (3 : Int)))
 x)) ++
 List.drop ((0 : Nat) + x)
 (openL o
 ((2 : Int) *
 ((1 : Int) +
 IntKind.i64.wrap (a.tmod (11 : Int))) +
 IntKind.i64.wrap (b.tmod (3 : Int)))
 x))) ++
 List.drop ((0 : Nat) + x)
 (List.take (0 : Nat)
 (openL o
 ((2 : Int) *
 ((1 : Int) +
 IntKind.i64.wrap (a.tmod (11 : Int))) +
 IntKind.i64.wrap (b.tmod (3 : Int)))
 x) ++
 sortD sortF
 (List.take x
 (openL o
 ((2 : Int) *
 ((1 : Int) +
 IntKind.i64.wrap (a.tmod (11 : Int))) +
 IntKind.i64.wrap (b.tmod (3 : Int)))
 x)) ++
 List.drop ((0 : Nat) + x)
 (openL o
 ((2 : Int) *
 ((1 : Int) +
 IntKind.i64.wrap (a.tmod (11 : Int))) +
 IntKind.i64.wrap (b.tmod (3 : Int)))
 x)))) =
 openD o (mN sh a b)) ∧
 (0 : Int) = (0 : Int) ∧ (0 : Int) = (0 : Int) ∧ True) ∧
 ∀ (k : Nat),
 sortF.ret
 (List.map D.asInt
 (List.take x
 (openL o
 ((2 : Int) * ((1 : Int) + IntKind.i64.wrap (a.tmod (11 : Int))) +
 IntKind.i64.wrap (b.tmod (3 : Int)))
 x))) =
 some k →
 k ≤ x ∧
 (0 : Nat) < x ∧
 x ≤ (16777216 : Nat) ∧
 (0 : Nat) + x ≤
 (List.take (0 : Nat)
 (openL o
 ((2 : Int) * ((1 : Int) + IntKind.i64.wrap (a.tmod (11 : Int))) +
 IntKind.i64.wrap (b.tmod (3 : Int)))
 x) ++
 sortD sortF
 (List.take x
 (openL o
 ((2 : Int) * ((1 : Int) + IntKind.i64.wrap (a.tmod (11 : Int))) +
 IntKind.i64.wrap (b.tmod (3 : Int)))
 x)) ++
 List.drop ((0 : Nat) + x)
 (openL o
 ((2 : Int) * ((1 : Int) + IntKind.i64.wrap (a.tmod (11 : Int))) +
 IntKind.i64.wrap (b.tmod (3 : Int)))
 x)).length ∧
 intL
 (List.take x
 (List.take (0 : Nat)
 (openL o
 ((2 : Int) * ((1 : Int) + IntKind.i64.wrap (a.tmod (11 : Int))) +
 IntKind.i64.wrap (b.tmod (3 : Int)))
 x) ++
 sortD sortF
 (List.take x
 (openL o
 ((2 : Int) * ((1 : Int) + IntKind.i64.wrap (a.tmod (11 : Int))) +
 IntKind.i64.wrap (b.tmod (3 : Int)))
 x)) ++
 List.drop ((0 : Nat) + x)
 (openL o
 ((2 : Int) * ((1 : Int) + IntKind.i64.wrap (a.tmod (11 : Int))) +
 IntKind.i64.wrap (b.tmod (3 : Int)))
 x))) ∧
 (compactF.new
 (List.map D.asInt
 (List.take x
 (List.take (0 : Nat)
 (openL o
 ((2 : Int) * ((1 : Int) + IntKind.i64.wrap (a.tmod (11 : Int))) +
 IntKind.i64.wrap (b.tmod (3 : Int)))
 x) ++
 sortD sortF
 (List.take x
 (openL o
 ((2 : Int) * ((1 : Int) + IntKind.i64.wrap (a.tmod (11 : Int))) +
 IntKind.i64.wrap (b.tmod (3 : Int)))
 x)) ++
 List.drop ((0 : Nat) + x)
 (openL o
 ((2 : Int) * ((1 : Int) + IntKind.i64.wrap (a.tmod (11 : Int))) +
 IntKind.i64.wrap (b.tmod (3 : Int)))
 x))))).length =
 x ∧
 (compactF.ret
 (List.map D.asInt
 (List.take x
 (List.take (0 : Nat)
 (openL o
 ((2 : Int) * ((1 : Int) + IntKind.i64.wrap (a.tmod (11 : Int))) +
 IntKind.i64.wrap (b.tmod (3 : Int)))
 x) ++
 sortD sortF
 (List.take x
 (openL o
 ((2 : Int) *
 ((1 : Int) + IntKind.i64.wrap (a.tmod (11 : Int))) +
 IntKind.i64.wrap (b.tmod (3 : Int)))
 x)) ++
 List.drop ((0 : Nat) + x)
 (openL o
 ((2 : Int) * ((1 : Int) + IntKind.i64.wrap (a.tmod (11 : Int))) +
 IntKind.i64.wrap (b.tmod (3 : Int)))
 x)))) =
 none →
 False) ∧
 ∀ (k : Nat),
 compactF.ret
 (List.map D.asInt
 (List.take x
 (List.take (0 : Nat)
 (openL o
 ((2 : Int) *
 ((1 : Int) + IntKind.i64.wrap (a.tmod (11 : Int))) +
 IntKind.i64.wrap (b.tmod (3 : Int)))
 x) ++
 sortD sortF
 (List.take x
 (openL o
 ((2 : Int) *
 ((1 : Int) + IntKind.i64.wrap (a.tmod (11 : Int))) +
 IntKind.i64.wrap (b.tmod (3 : Int)))
 x)) ++
 List.drop ((0 : Nat) + x)
 (openL o
 ((2 : Int) * ((1 : Int) + IntKind.i64.wrap (a.tmod (11 : Int))) +
 IntKind.i64.wrap (b.tmod (3 : Int)))
 x)))) =
 some k →
 k ≤ x ∧
 nm = nm ∧
 (1 : Int) + sh.tmod (4 : Int) = mSh sh ∧
 (1 : Int) + IntKind.i64.wrap (a.tmod (11 : Int)) = mA sh a ∧
 IntKind.i64.wrap (b.tmod (3 : Int)) = mB sh a b ∧
 ((0 : Nat) + k ≤
 (List.take (0 : Nat)
 (List.take (0 : Nat)
 (openL o
 ((2 : Int) *
 ((1 : Int) +
 IntKind.i64.wrap (a.tmod (11 : Int))) +
 IntKind.i64.wrap (b.tmod (3 : Int)))
 x) ++
 sortD sortF
 (List.take x
 (openL o
 ((2 : Int) *
 ((1 : Int) +
 IntKind.i64.wrap (a.tmod (11 : Int))) +
 IntKind.i64.wrap (b.tmod (3 : Int)))
 x)) ++
 List.drop ((0 : Nat) + x)
 (openL o
 ((2 : Int) *
 ((1 : Int) +
 IntKind.i64.wrap (a.tmod (11 : Int))) +
 IntKind.i64.wrap (b.tmod (3 : Int)))
 x)) ++
 sortD compactF
 (List.take x
 (List.take (0 : Nat)
 (openL o
 ((2 : Int) *
 ((1 : Int) +
 IntKind.i64.wrap (a.tmod (11 : Int))) +
 IntKind.i64.wrap (b.tmod (3 : Int)))
 x) ++
 sortD sortF
 (List.take x
 (openL o
 ((2 : Int) *
 ((1 : Int) +
 IntKind.i64.wrap
 (a.tmod (11 : Int))) +
 IntKind.i64.wrap (b.tmod (3 : Int)))
 x)) ++
 List.drop ((0 : Nat) + x)
 (openL o
 ((2 : Int) *
 ((1 : Int) +
 IntKind.i64.wrap (a.tmod (11 : Int))) +
 IntKind.i64.wrap (b.tmod (3 : Int)))
 x))) ++
 List.drop ((0 : Nat) + x)
 (List.take (0 : Nat)
 (openL o
 ((2 : Int) *
 ((1 : Int) +
 IntKind.i64.wrap (a.tmod (11 : Int))) +
 IntKind.i64.wrap (b.tmod (3 : Int)))
 x) ++
 sortD sortF
 (List.take x
 (openL o
 ((2 : Int) *
 ((1 : Int) +
 IntKind.i64.wrap (a.tmod (11 : Int))) +
 IntKind.i64.wrap (b.tmod (3 : Int)))
 x)) ++
 List.drop ((0 : Nat) + x)
 (openL o
 ((2 : Int) *
 ((1 : Int) +
 IntKind.i64.wrap (a.tmod (11 : Int))) +
 IntKind.i64.wrap (b.tmod (3 : Int)))
 x))).length ∧
 D.list
 (List.take k
 (List.take (0 : Nat)
 (List.take (0 : Nat)
 (openL o
 ((2 : Int) *
 ((1 : Int) +
 IntKind.i64.wrap (a.tmod (11 : Int))) +
 IntKind.i64.wrap (b.tmod (3 : Int)))
 x) ++
 sortD sortF
 (List.take x
 (openL o
 ((2 : Int) *
 ((1 : Int) +
 IntKind.i64.wrap
 (a.tmod (11 : Int))) +
 IntKind.i64.wrap (b.tmod (3 : Int)))
 x)) ++
 List.drop ((0 : Nat) + x)
 (openL o
 ((2 : Int) *
 ((1 : Int) +
 IntKind.i64.wrap (a.tmod (11 : Int))) +
 IntKind.i64.wrap (b.tmod (3 : Int)))
 x)) ++
 sortD compactF
 (List.take x
 (List.take (0 : Nat)
 (openL o
 ((2 : Int) *
 ((1 : Int) +
 IntKind.i64.wrap
 (a.tmod (11 : Int))) +
 IntKind.i64.wrap (b.tmod (3 : Int)))
 x) ++
 sortD sortF
 (List.take x
 (openL o
 ((2 : Int) *
 ((1 : Int) +
 IntKind.i64.wrap
 (a.tmod (11 : Int))) +
 IntKind.i64.wrap (b.tmod (3 : Int)))
 x)) ++
 List.drop ((0 : Nat) + x)
 (openL o
 ((2 : Int) *
 ((1 : Int) +
 IntKind.i64.wrap (a.tmod (11 : Int))) +
 IntKind.i64.wrap (b.tmod (3 : Int)))
 x))) ++
 List.drop ((0 : Nat) + x)
 (List.take (0 : Nat)
 (openL o
 ((2 : Int) *
 ((1 : Int) +
 IntKind.i64.wrap (a.tmod (11 : Int))) +
 IntKind.i64.wrap (b.tmod (3 : Int)))
 x) ++
 sortD sortF
 (List.take x
 (openL o
 ((2 : Int) *
 ((1 : Int) +
 IntKind.i64.wrap (a.tmod (11 : Int))) +
 IntKind.i64.wrap (b.tmod (3 : Int)))
 x)) ++
 List.drop ((0 : Nat) + x)
 (openL o
 ((2 : Int) *
 ((1 : Int) +
 IntKind.i64.wrap (a.tmod (11 : Int))) +
 IntKind.i64.wrap (b.tmod (3 : Int)))
 x)))) =
 openD o (mN sh a b)) ∧
 (0 : Int) = (0 : Int) ∧ (0 : Int) = (0 : Int) ∧ True)) ∧
 (((1 : Int) + sh.tmod (4 : Int) = (2 : Int) → False) →
 ((1 : Int) + sh.tmod (4 : Int) = (3 : Int) →
 ((8 : Int) = (0 : Int) → False) ∧
 ((-9223372036854775808 : Int) ≤ (1 : Int) + IntKind.i64.wrap (a.tmod (8 : Int)) ∧
 (1 : Int) + IntKind.i64.wrap (a.tmod (8 : Int)) < (9223372036854775808 : Int)) ∧
 ((8 : Int) = (0 : Int) → False) ∧
 ((-9223372036854775808 : Int) ≤ (1 : Int) + IntKind.i64.wrap (b.tmod (8 : Int)) ∧
 (1 : Int) + IntKind.i64.wrap (b.tmod (8 : Int)) < (9223372036854775808 : Int)) ∧
 ((-9223372036854775808 : Int) ≤ (2 : Int) * ((1 : Int) + IntKind.i64.wrap (b.tmod (8 : Int))) ∧
 (2 : Int) * ((1 : Int) + IntKind.i64.wrap (b.tmod (8 : Int))) < (9223372036854775808 : Int)) ∧
 ((-9223372036854775808 : Int) ≤
 (1 : Int) + IntKind.i64.wrap (a.tmod (8 : Int)) + (2 : Int) * ((1 : Int) + IntKind.i64.wrap (b.tmod (8 : Int))) ∧
 (1 : Int) + IntKind.i64.wrap (a.tmod (8 : Int)) + (2 : Int) * ((1 : Int) + IntKind.i64.wrap (b.tmod (8 : Int))) <
 (9223372036854775808 : Int)) ∧
 (0 : Int) ≤ (0 : Int) ∧
 ((0 : Int) ≤ bif false then max (↑o.len : Int) (24 : Int) else min (↑o.len : Int) (24 : Int)) ∧
 (bif false then max (↑o.len : Int) (24 : Int) else min (↑o.len : Int) (24 : Int)) ≤ (↑o.len : Int) ∧
 ((∃ (x : Nat), x = (0 : Nat) ∧ ((0 : Int) = (0 : Int) ∧ True) ∧ True) ∨
 ∃ (x : Nat),
 ((0 : Nat) < x ∧ x ≤ min o.len (24 : Nat)) ∧
 ((0 : Int) = (↑x : Int) ∧ True) ∧
 (nm = nm ∧
 (1 : Int) + sh.tmod (4 : Int) = (1 : Int) + sh.tmod (4 : Int) ∧
 (1 : Int) + IntKind.i64.wrap (a.tmod (8 : Int)) = (1 : Int) + IntKind.i64.wrap (a.tmod (8 : Int)) ∧
 (1 : Int) + IntKind.i64.wrap (b.tmod (8 : Int)) = (1 : Int) + IntKind.i64.wrap (b.tmod (8 : Int)) ∧
 False ∧ (0 : Int) = (0 : Int) ∧ (0 : Int) = (0 : Int) ∧ True) ∧
 False ∧ True) ∧
 (∀ (x : Nat),
 x = (0 : Nat) →
 (24 : Nat) - x < LIM ∧
 ((0 : Int) <
 (↑(o.sub (0 : Nat)
 (bif false then max (↑o.len : Int) (24 : Int) else min (↑o.len : Int) (24 : Int)).toNat).len :
 Int) →
 (0 : Int) ≤ (0 : Int) ∧
 (0 : Int) <
 (↑(o.sub (0 : Nat)
 (bif false then max (↑o.len : Int) (24 : Int) else min (↑o.len : Int) (24 : Int)).toNat).len :
 Int) ∧
 ((1 : Int) + IntKind.i64.wrap (a.tmod (8 : Int)) +
 (2 : Int) * ((1 : Int) + IntKind.i64.wrap (b.tmod (8 : Int))) =
 (0 : Int) →
 False) ∧
 (0 : Nat) + (1 : Nat) ≤
 [D.int
 ((IntKind.i64.wrap
 (el
 (o.sub (0 : Nat)
 (bif false then max (↑o.len : Int) (24 : Int)
 else min (↑o.len : Int) (24 : Int)).toNat)
 (Int.toNat (0 : Int))).asInt).tmod
 ((1 : Int) + IntKind.i64.wrap (a.tmod (8 : Int)) +
 (2 : Int) * ((1 : Int) + IntKind.i64.wrap (b.tmod (8 : Int)))))].length ∧
 (1 : Nat) ≤ (16777216 : Nat) ∧
 ((-9223372036854775808 : Int) ≤ (0 : Int) + (1 : Int) ∧
 (0 : Int) + (1 : Int) < (9223372036854775808 : Int)) ∧
 ((∃ (y : Nat), y = (0 : Nat) ∧ (24 : Nat) - y < (24 : Nat) - x ∧ False) ∨
 ∃ (y : Nat),
 ((0 : Nat) < y ∧ y ≤ min o.len (24 : Nat)) ∧
 (24 : Nat) - y < (24 : Nat) - x ∧
 ((0 : Int) + (1 : Int) = (↑y : Int) ∧ True) ∧
 (nm = nm ∧
 (1 : Int) + sh.tmod (4 : Int) = (1 : Int) + sh.tmod (4 : Int) ∧
 (1 : Int) + IntKind.i64.wrap (a.tmod (8 : Int)) =
 (1 : Int) + IntKind.i64.wrap (a.tmod (8 : Int)) ∧
 (1 : Int) + IntKind.i64.wrap (b.tmod (8 : Int)) =
 (1 : Int) + IntKind.i64.wrap (b.tmod (8 : Int)) ∧
 ((0 : Nat) = (0 : Nat) ∧ (1 : Nat) = y ∧ True) ∧
 (0 : Int) = (0 : Int) ∧ (0 : Int) = (0 : Int) ∧ True) ∧
 List.take (1 : Nat)
 [D.int
 ((IntKind.i64.wrap
 (el
 (o.sub (0 : Nat)
 (bif false then max (↑o.len : Int) (24 : Int)
 else min (↑o.len : Int) (24 : Int)).toNat)
 (Int.toNat (0 : Int))).asInt).tmod
 ((1 : Int) + IntKind.i64.wrap (a.tmod (8 : Int)) +
 (2 : Int) * ((1 : Int) + IntKind.i64.wrap (b.tmod (8 : Int)))))] =
 openL o
 ((1 : Int) + IntKind.i64.wrap (a.tmod (8 : Int)) +
 (2 : Int) * ((1 : Int) + IntKind.i64.wrap (b.tmod (8 : Int))))
 y ∧
 True)) ∧
 (((0 : Int) <
 (↑(o.sub (0 : Nat)
 (bif false then max (↑o.len : Int) (24 : Int) else min (↑o.len : Int) (24 : Int)).toNat).len :
 Int) →
 False) →
 (sortF.ret [] = none →
 (compactF.ret [] = none → False) ∧
 ∀ (k : Nat),
 compactF.ret [] = some k →
 nm = nm ∧
 (1 : Int) + sh.tmod (4 : Int) = mSh sh ∧
 (1 : Int) + IntKind.i64.wrap (a.tmod (8 : Int)) = mA sh a ∧
 (1 : Int) + IntKind.i64.wrap (b.tmod (8 : Int)) = mB sh a b ∧
 D.nil = openD o (mN sh a b) ∧ (0 : Int) = (0 : Int) ∧ (0 : Int) = (0 : Int) ∧ True) ∧
 ∀ (k : Nat),
 sortF.ret [] = some k →
 (compactF.ret [] = none → False) ∧
 ∀ (k : Nat),
 compactF.ret [] = some k →
 nm = nm ∧
 (1 : Int) + sh.tmod (4 : Int) = mSh sh ∧
 (1 : Int) + IntKind.i64.wrap (a.tmod (8 : Int)) = mA sh a ∧
 (1 : Int) + IntKind.i64.wrap (b.tmod (8 : Int)) = mB sh a b ∧
 D.nil = openD o (mN sh a b) ∧ (0 : Int) = (0 : Int) ∧ (0 : Int) = (0 : Int) ∧ True)) ∧
 ∀ (x : Nat),
 (0 : Nat) < x ∧ x ≤ min o.len (24 : Nat) →
 (24 : Nat) - x < LIM ∧
 ((↑x : Int) <
 (↑(o.sub (0 : Nat)
 (bif false then max (↑o.len : Int) (24 : Int) else min (↑o.len : Int) (24 : Int)).toNat).len :
 Int) →
 (0 : Int) ≤ (↑x : Int) ∧
 (↑x : Int) <
 (↑(o.sub (0 : Nat)
 (bif false then max (↑o.len : Int) (24 : Int) else min (↑o.len : Int) (24 : Int)).toNat).len :
 Int) ∧
 ((1 : Int) + IntKind.i64.wrap (a.tmod (8 : Int)) +
 (2 : Int) * ((1 : Int) + IntKind.i64.wrap (b.tmod (8 : Int))) =
 (0 : Int) →
 False) ∧
 (0 : Nat) + (1 : Nat) ≤
 [D.int
 ((IntKind.i64.wrap
 (el
 (o.sub (0 : Nat)
 (bif false then max (↑o.len : Int) (24 : Int)
 else min (↑o.len : Int) (24 : Int)).toNat)
 x).asInt).tmod
 ((1 : Int) + IntKind.i64.wrap (a.tmod (8 : Int)) +
 (2 : Int) * ((1 : Int) + IntKind.i64.wrap (b.tmod (8 : Int)))))].length ∧
 (0 : Nat) + x ≤
 (openL o
 ((1 : Int) + IntKind.i64.wrap (a.tmod (8 : Int)) +
 (2 : Int) * ((1 : Int) + IntKind.i64.wrap (b.tmod (8 : Int))))
 x).length ∧
 x + (1 : Nat) ≤ (16777216 : Nat) ∧
 ((-9223372036854775808 : Int) ≤ (↑x : Int) + (1 : Int) ∧
 (↑x : Int) + (1 : Int) < (9223372036854775808 : Int)) ∧
 ((∃ (y : Nat), y = (0 : Nat) ∧ (24 : Nat) - y < (24 : Nat) - x ∧ False) ∨
 ∃ (y : Nat),
 ((0 : Nat) < y ∧ y ≤ min o.len (24 : Nat)) ∧
 (24 : Nat) - y < (24 : Nat) - x ∧
 ((↑x : Int) + (1 : Int) = (↑y : Int) ∧ True) ∧
 (nm = nm ∧
 (1 : Int) + sh.tmod (4 : Int) = (1 : Int) + sh.tmod (4 : Int) ∧
 (1 : Int) + IntKind.i64.wrap (a.tmod (8 : Int)) =
 (1 : Int) + IntKind.i64.wrap (a.tmod (8 : Int)) ∧
 (1 : Int) + IntKind.i64.wrap (b.tmod (8 : Int)) =
 (1 : Int) + IntKind.i64.wrap (b.tmod (8 : Int)) ∧
 ((0 : Nat) = (0 : Nat) ∧ x + (1 : Nat) = y ∧ True) ∧
 (0 : Int) = (0 : Int) ∧ (0 : Int) = (0 : Int) ∧ True) ∧
 List.take x
 (openL o
 ((1 : Int) + IntKind.i64.wrap (a.tmod (8 : Int)) +
 (2 : Int) * ((1 : Int) + IntKind.i64.wrap (b.tmod (8 : Int))))
 x) ++
 List.take (1 : Nat)
 [D.int
 ((IntKind.i64.wrap
 (el
 (o.sub (0 : Nat)
 (bif false then max (↑o.len : Int) (24 : Int)
 else min (↑o.len : Int) (24 : Int)).toNat)
 x).asInt).tmod
 ((1 : Int) + IntKind.i64.wrap (a.tmod (8 : Int)) +
 (2 : Int) * ((1 : Int) + IntKind.i64.wrap (b.tmod (8 : Int)))))] =
 openL o
 ((1 : Int) + IntKind.i64.wrap (a.tmod (8 : Int)) +
 (2 : Int) * ((1 : Int) + IntKind.i64.wrap (b.tmod (8 : Int))))
 y ∧
 True)) ∧
 (((↑x : Int) <
 (↑(o.sub (0 : Nat)
 (bif false then max (↑o.len : Int) (24 : Int) else min (↑o.len : Int) (24 : Int)).toNat).len :
 Int) →
 False) →
 (0 : Nat) < x ∧
 x ≤ (16777216 : Nat) ∧
 (0 : Nat) + x ≤
 (openL o
 ((1 : Int) + IntKind.i64.wrap (a.tmod (8 : Int)) +
 (2 : Int) * ((1 : Int) + IntKind.i64.wrap (b.tmod (8 : Int))))
 x).length ∧
 intL
 (List.take x
 (openL o
 ((1 : Int) + IntKind.i64.wrap (a.tmod (8 : Int)) +
 (2 : Int) * ((1 : Int) + IntKind.i64.wrap (b.tmod (8 : Int))))
 x)) ∧
 (sortF.new
 (List.map D.asInt
 (List.take x
 (openL o
 ((1 : Int) + IntKind.i64.wrap (a.tmod (8 : Int)) +
 (2 : Int) * ((1 : Int) + IntKind.i64.wrap (b.tmod (8 : Int))))
 x)))).length =
 x ∧
 (sortF.ret
 (List.map D.asInt
 (List.take x
 (openL o
 ((1 : Int) + IntKind.i64.wrap (a.tmod (8 : Int)) +
 (2 : Int) * ((1 : Int) + IntKind.i64.wrap (b.tmod (8 : Int))))
 x))) =
 none →
 (0 : Nat) < x ∧
 x ≤ (16777216 : Nat) ∧
 (0 : Nat) + x ≤
 (List.take (0 : Nat)
 (openL o
 ((1 : Int) + IntKind.i64.wrap (a.tmod (8 : Int)) +
 (2 : Int) * ((1 : Int) + IntKind.i64.wrap (b.tmod (8 : Int))))
 x) ++
 sortD sortF
 (List.take x
 (openL o
 ((1 : Int) + IntKind.i64.wrap (a.tmod (8 : Int)) +
 (2 : Int) * ((1 : Int) + IntKind.i64.wrap (b.tmod (8 : Int))))
 x)) ++
 List.drop ((0 : Nat) + x)
 (openL o
 ((1 : Int) + IntKind.i64.wrap (a.tmod (8 : Int)) +
 (2 : Int) * ((1 : Int) + IntKind.i64.wrap (b.tmod (8 : Int))))
 x)).length ∧
 intL
 (List.take x
 (List.take (0 : Nat)
 (openL o
 ((1 : Int) + IntKind.i64.wrap (a.tmod (8 : Int)) +
 (2 : Int) * ((1 : Int) + IntKind.i64.wrap (b.tmod (8 : Int))))
 x) ++
 sortD sortF
 (List.take x
 (openL o
 ((1 : Int) + IntKind.i64.wrap (a.tmod (8 : Int)) +
 (2 : Int) * ((1 : Int) + IntKind.i64.wrap (b.tmod (8 : Int))))
 x)) ++
 List.drop ((0 : Nat) + x)
 (openL o
 ((1 : Int) + IntKind.i64.wrap (a.tmod (8 : Int)) +
 (2 : Int) * ((1 : Int) + IntKind.i64.wrap (b.tmod (8 : Int))))
 x))) ∧
 (compactF.new
 (List.map D.asInt
 (List.take x
 (List.take (0 : Nat)
 (openL o
 ((1 : Int) + IntKind.i64.wrap (a.tmod (8 : Int)) +
 (2 : Int) * ((1 : Int) + IntKind.i64.wrap (b.tmod (8 : Int))))
 x) ++
 sortD sortF
 (List.take x
 (openL o
 ((1 : Int) + IntKind.i64.wrap (a.tmod (8 : Int)) +
 (2 : Int) * ((1 : Int) + IntKind.i64.wrap (b.tmod (8 : Int))))
 x)) ++
 List.drop ((0 : Nat) + x)
 (openL o
 ((1 : Int) + IntKind.i64.wrap (a.tmod (8 : Int)) +
 (2 : Int) * ((1 : Int) + IntKind.i64.wrap (b.tmod (8 : Int))))
 x))))).length =
 x ∧
 (compactF.ret
 (List.map D.asInt
 (List.take x
 (List.take (0 : Nat)
 (openL o
 ((1 : Int) + IntKind.i64.wrap (a.tmod (8 : Int)) +
 (2 : Int) * ((1 : Int) + IntKind.i64.wrap (b.tmod (8 : Int))))
 x) ++
 sortD sortF
 (List.take x
 (openL o
 ((1 : Int) + IntKind.i64.wrap (a.tmod (8 : Int)) +
 (2 : Int) *
 ((1 : Int) + IntKind.i64.wrap (b.tmod (8 : Int))))
 x)) ++
 List.drop ((0 : Nat) + x)
 (openL o
 ((1 : Int) + IntKind.i64.wrap (a.tmod (8 : Int)) +
 (2 : Int) * ((1 : Int) + IntKind.i64.wrap (b.tmod (8 : Int))))
 x)))) =
 none →
 False) ∧
 ∀ (k : Nat),
 compactF.ret
 (List.map D.asInt
 (List.take x
 (List.take (0 : Nat)
 (openL o
 ((1 : Int) + IntKind.i64.wrap (a.tmod (8 : Int)) +
 (2 : Int) *
 ((1 : Int) + IntKind.i64.wrap (b.tmod (8 : Int))))
 x) ++
 sortD sortF
 (List.take x
 (openL o
 ((1 : Int) + IntKind.i64.wrap (a.tmod (8 : Int)) +
 (2 : Int) *
 ((1 : Int) + IntKind.i64.wrap (b.tmod (8 : Int))))
 x)) ++
 List.drop ((0 : Nat) + x)
 (openL o
 ((1 : Int) + IntKind.i64.wrap (a.tmod (8 : Int)) +
 (2 : Int) * ((1 : Int) + IntKind.i64.wrap (b.tmod (8 : Int))))
 x)))) =
 some k →
 k ≤ x ∧
 nm = nm ∧
 (1 : Int) + sh.tmod (4 : Int) = mSh sh ∧
 (1 : Int) + IntKind.i64.wrap (a.tmod (8 : Int)) = mA sh a ∧
 (1 : Int) + IntKind.i64.wrap (b.tmod (8 : Int)) = mB sh a b ∧
 ((0 : Nat) + k ≤
 (List.take (0 : Nat)
 (List.take (0 : Nat)
 (openL o
 ((1 : Int) +
 IntKind.i64.wrap (a.tmod (8 : Int)) +
 (2 : Int) *
 ((1 : Int) +
 IntKind.i64.wrap (b.tmod (8 : Int))))
 x) ++
 sortD sortF
 (List.take x
 (openL o
 ((1 : Int) +
 IntKind.i64.wrap (a.tmod (8 : Int)) +
 (2 : Int) *
 ((1 : Int) +
 IntKind.i64.wrap (b.tmod (8 : Int))))
 x)) ++
 List.drop ((0 : Nat) + x)
 (openL o
 ((1 : Int) +
 IntKind.i64.wrap (a.tmod (8 : Int)) +
 (2 : Int) *
 ((1 : Int) +
 IntKind.i64.wrap (b.tmod (8 : Int))))
 x)) ++
 sortD compactF
 (List.take x
 (List.take (0 : Nat)
 (openL o
 ((1 : Int) +
 IntKind.i64.wrap (a.tmod (8 : Int)) +
 (2 : Int) *
 ((1 : Int) +
 IntKind.i64.wrap (b.tmod (8 : Int))))
 x) ++
 sortD sortF
 (List.take x
 (openL o
 ((1 : Int) +
 IntKind.i64.wrap (a.tmod (8 : Int)) +
 (2 : Int) *
 ((1 : Int) +
 IntKind.i64.wrap
 (b.tmod (8 : Int))))
 x)) ++
 List.drop ((0 : Nat) + x)
 (openL o
 ((1 : Int) +
 IntKind.i64.wrap (a.tmod (8 : Int)) +
 (2 : Int) *
 ((1 : Int) +
 IntKind.i64.wrap (b.tmod (8 : Int))))
 x))) ++
 List.drop ((0 : Nat) + x)
 (List.take (0 : Nat)
 (openL o
 ((1 : Int) +
 IntKind.i64.wrap (a.tmod (8 : Int)) +
 (2 : Int) *
 ((1 : Int) +
 IntKind.i64.wrap (b.tmod (8 : Int))))
 x) ++
 sortD sortF
 (List.take x
 (openL o
 ((1 : Int) +
 IntKind.i64.wrap (a.tmod (8 : Int)) +
 (2 : Int) *
 ((1 : Int) +
 IntKind.i64.wrap (b.tmod (8 : Int))))
 x)) ++
 List.drop ((0 : Nat) + x)
 (openL o
 ((1 : Int) + IntKind.i64.wrap (a.tmod (8 : Int)) +
 (2 : Int) *
 ((1 : Int) +
 IntKind.i64.wrap (b.tmod (8 : Int))))
 x))).length ∧
 D.list
 (List.take k
 (List.take (0 : Nat)
 (List.take (0 : Nat)
 (openL o
 ((1 : Int) +
 IntKind.i64.wrap (a.tmod (8 : Int)) +
 (2 : Int) *
 ((1 : Int) +
 IntKind.i64.wrap (b.tmod (8 : Int))))
 x) ++
 sortD sortF
 (List.take x
 (openL o
 ((1 : Int) +
 IntKind.i64.wrap (a.tmod (8 : Int)) +
 (2 : Int) *
 ((1 : Int) +
 IntKind.i64.wrap
 (b.tmod (8 : Int))))
 x)) ++
 List.drop ((0 : Nat) + x)
 (openL o
 ((1 : Int) +
 IntKind.i64.wrap (a.tmod (8 : Int)) +
 (2 : Int) *
 ((1 : Int) +
 IntKind.i64.wrap (b.tmod (8 : Int))))
 x)) ++
 sortD compactF
 (List.take x
 (List.take (0 : Nat)
 (openL o
 ((1 : Int) +
 IntKind.i64.wrap (a.tmod (8 : Int)) +
 (2 : Int) *
 ((1 : Int) +
 IntKind.i64.wrap
 (b.tmod (8 : Int))))
 x) ++
 sortD sortF
 (List.take x
 (openL o
 ((1 : Int) +
 IntKind.i64.wrap
 (a.tmod (8 : Int)) +
 (2 : Int) *
 ((1 : Int) +
 IntKind.i64.wrap
 (b.tmod (8 : Int))))
 x)) ++
 List.drop ((0 : Nat) + x)
 (openL o
 ((1 : Int) +
 IntKind.i64.wrap (a.tmod (8 : Int)) +
 (2 : Int) *
 ((1 : Int) +
 IntKind.i64.wrap (b.tmod (8 : Int))))
 x))) ++
 List.drop ((0 : Nat) + x)
 (List.take (0 : Nat)
 (openL o
 ((1 : Int) +
 IntKind.i64.wrap (a.tmod (8 : Int)) +
 (2 : Int) *
 ((1 : Int) +
 IntKind.i64.wrap (b.tmod (8 : Int))))
 x) ++
 sortD sortF
 (List.take x
 (openL o
 ((1 : Int) +
 IntKind.i64.wrap (a.tmod (8 : Int)) +
 (2 : Int) *
 ((1 : Int) +
 IntKind.i64.wrap (b.tmod (8 : Int))))
 x)) ++
 List.drop ((0 : Nat) + x)
 (openL o
 ((1 : Int) +
 IntKind.i64.wrap (a.tmod (8 : Int)) +
 (2 : Int) *
 ((1 : Int) +
 IntKind.i64.wrap (b.tmod (8 : Int))))
 x)))) =
 openD o (mN sh a b)) ∧
 (0 : Int) = (0 : Int) ∧ (0 : Int) = (0 : Int) ∧ True) ∧
 ∀ (k : Nat),
 sortF.ret
 (List.map D.asInt
 (List.take x
 (openL o
 ((1 : Int) + IntKind.i64.wrap (a.tmod (8 : Int)) +
 (2 : Int) * ((1 : Int) + IntKind.i64.wrap (b.tmod (8 : Int))))
 x))) =
 some k →
 k ≤ x ∧
 (0 : Nat) < x ∧
 x ≤ (16777216 : Nat) ∧
 (0 : Nat) + x ≤
 (List.take (0 : Nat)
 (openL o
 ((1 : Int) + IntKind.i64.wrap (a.tmod (8 : Int)) +
 (2 : Int) * ((1 : Int) + IntKind.i64.wrap (b.tmod (8 : Int))))
 x) ++
 sortD sortF
 (List.take x
 (openL o
 ((1 : Int) + IntKind.i64.wrap (a.tmod (8 : Int)) +
 (2 : Int) * ((1 : Int) + IntKind.i64.wrap (b.tmod (8 : Int))))
 x)) ++
 List.drop ((0 : Nat) + x)
 (openL o
 ((1 : Int) + IntKind.i64.wrap (a.tmod (8 : Int)) +
 (2 : Int) * ((1 : Int) + IntKind.i64.wrap (b.tmod (8 : Int))))
 x)).length ∧
 intL
 (List.take x
 (List.take (0 : Nat)
 (openL o
 ((1 : Int) + IntKind.i64.wrap (a.tmod (8 : Int)) +
 (2 : Int) * ((1 : Int) + IntKind.i64.wrap (b.tmod (8 : Int))))
 x) ++
 sortD sortF
 (List.take x
 (openL o
 ((1 : Int) + IntKind.i64.wrap (a.tmod (8 : Int)) +
 (2 : Int) * ((1 : Int) + IntKind.i64.wrap (b.tmod (8 : Int))))
 x)) ++
 List.drop ((0 : Nat) + x)
 (openL o
 ((1 : Int) + IntKind.i64.wrap (a.tmod (8 : Int)) +
 (2 : Int) * ((1 : Int) + IntKind.i64.wrap (b.tmod (8 : Int))))
 x))) ∧
 (compactF.new
 (List.map D.asInt
 (List.take x
 (List.take (0 : Nat)
 (openL o
 ((1 : Int) + IntKind.i64.wrap (a.tmod (8 : Int)) +
 (2 : Int) *
 ((1 : Int) + IntKind.i64.wrap (b.tmod (8 : Int))))
 x) ++
 sortD sortF
 (List.take x
 (openL o
 ((1 : Int) + IntKind.i64.wrap (a.tmod (8 : Int)) +
 (2 : Int) *
 ((1 : Int) + IntKind.i64.wrap (b.tmod (8 : Int))))
 x)) ++
 List.drop ((0 : Nat) + x)
 (openL o
 ((1 : Int) + IntKind.i64.wrap (a.tmod (8 : Int)) +
 (2 : Int) * ((1 : Int) + IntKind.i64.wrap (b.tmod (8 : Int))))
 x))))).length =
 x ∧
 (compactF.ret
 (List.map D.asInt
 (List.take x
 (List.take (0 : Nat)
 (openL o
 ((1 : Int) + IntKind.i64.wrap (a.tmod (8 : Int)) +
 (2 : Int) *
 ((1 : Int) + IntKind.i64.wrap (b.tmod (8 : Int))))
 x) ++
 sortD sortF
 (List.take x
 (openL o
 ((1 : Int) + IntKind.i64.wrap (a.tmod (8 : Int)) +
 (2 : Int) *
 ((1 : Int) + IntKind.i64.wrap (b.tmod (8 : Int))))
 x)) ++
 List.drop ((0 : Nat) + x)
 (openL o
 ((1 : Int) + IntKind.i64.wrap (a.tmod (8 : Int)) +
 (2 : Int) *
 ((1 : Int) + IntKind.i64.wrap (b.tmod (8 : Int))))
 x)))) =
 none →
 False) ∧
 ∀ (k : Nat),
 compactF.ret
 (List.map D.asInt
 (List.take x
 (List.take (0 : Nat)
 (openL o
 ((1 : Int) + IntKind.i64.wrap (a.tmod (8 : Int)) +
 (2 : Int) *
 ((1 : Int) + IntKind.i64.wrap (b.tmod (8 : Int))))
 x) ++
 sortD sortF
 (List.take x
 (openL o
 ((1 : Int) + IntKind.i64.wrap (a.tmod (8 : Int)) +
 (2 : Int) *
 ((1 : Int) + IntKind.i64.wrap (b.tmod (8 : Int))))
 x)) ++
 List.drop ((0 : Nat) + x)
 (openL o
 ((1 : Int) + IntKind.i64.wrap (a.tmod (8 : Int)) +
 (2 : Int) *
 ((1 : Int) + IntKind.i64.wrap (b.tmod (8 : Int))))
 x)))) =
 some k →
 k ≤ x ∧
 nm = nm ∧
 (1 : Int) + sh.tmod (4 : Int) = mSh sh ∧
 (1 : Int) + IntKind.i64.wrap (a.tmod (8 : Int)) = mA sh a ∧
 (1 : Int) + IntKind.i64.wrap (b.tmod (8 : Int)) = mB sh a b ∧
 ((0 : Nat) + k ≤
 (List.take (0 : Nat)
 (List.take (0 : Nat)
 (openL o
 ((1 : Int) +
 IntKind.i64.wrap (a.tmod (8 : Int)) +
 (2 : Int) *
 ((1 : Int) +
 IntKind.i64.wrap
 (b.tmod (8 : Int))))
 x) ++
 sortD sortF
 (List.take x
 (openL o
 ((1 : Int) +
 IntKind.i64.wrap
 (a.tmod (8 : Int)) +
 (2 : Int) *
 ((1 : Int) +
 IntKind.i64.wrap
 (b.tmod (8 : Int))))
 x)) ++
 List.drop ((0 : Nat) + x)
 (openL o
 ((1 : Int) +
 IntKind.i64.wrap (a.tmod (8 : Int)) +
 (2 : Int) *
 ((1 : Int) +
 IntKind.i64.wrap (b.tmod (8 : Int))))
 x)) ++
 sortD compactF
 (List.take x
 (List.take (0 : Nat)
 (openL o
 ((1 : Int) +
 IntKind.i64.wrap
 (a.tmod (8 : Int)) +
 (2 : Int) *
 ((1 : Int) +
 IntKind.i64.wrap
 (b.tmod (8 : Int))))
 x) ++
 sortD sortF
 (List.take x
 (openL o
 ((1 : Int) +
 IntKind.i64.wrap
 (a.tmod (8 : Int)) +
 (2 : Int) *
 ((1 : Int) +
 IntKind.i64.wrap
 (b.tmod (8 : Int))))
 x)) ++
 List.drop ((0 : Nat) + x)
 (openL o
 ((1 : Int) +
 IntKind.i64.wrap (a.tmod (8 : Int)) +
 (2 : Int) *
 ((1 : Int) +
 IntKind.i64.wrap
 (b.tmod (8 : Int))))
 x))) ++
 List.drop ((0 : Nat) + x)
 (List.take (0 : Nat)
 (openL o
 ((1 : Int) +
 IntKind.i64.wrap (a.tmod (8 : Int)) +
 (2 : Int) *
 ((1 : Int) +
 IntKind.i64.wrap (b.tmod (8 : Int))))
 x) ++
 sortD sortF
 (List.take x
 (openL o
 ((1 : Int) +
 IntKind.i64.wrap (a.tmod (8 : Int)) +
 (2 : Int) *
 ((1 : Int) +
 IntKind.i64.wrap
 (b.tmod (8 : Int))))
 x)) ++
 List.drop ((0 : Nat) + x)
 (openL o
 ((1 : Int) +
 IntKind.i64.wrap (a.tmod (8 : Int)) +
 (2 : Int) *
 ((1 : Int) +
 IntKind.i64.wrap (b.tmod (8 : Int))))
 x))).length ∧
 D.list
 (List.take k
 (List.take (0 : Nat)
 (List.take (0 : Nat)
 (openL o
 ((1 : Int) +
 IntKind.i64.wrap
 (a.tmod (8 : Int)) +
 (2 : Int) *
 ((1 : Int) +
 IntKind.i64.wrap
 (b.tmod (8 : Int))))
 x) ++
 sortD sortF
 (List.take x
 (openL o
 ((1 : Int) +
 IntKind.i64.wrap
 (a.tmod (8 : Int)) +
 (2 : Int) *
 ((1 : Int) +
 IntKind.i64.wrap
 (b.tmod (8 : Int))))
 x)) ++
 List.drop ((0 : Nat) + x)
 (openL o
 ((1 : Int) +
 IntKind.i64.wrap (a.tmod (8 : Int)) +
 (2 : Int) *
 ((1 : Int) +
 IntKind.i64.wrap
 (b.tmod (8 : Int))))
 x)) ++
 sortD compactF
 (List.take x
 (List.take (0 : Nat)
 (openL o
 ((1 : Int) +
 IntKind.i64.wrap
 (a.tmod (8 : Int)) +
 (2 : Int) *
 ((1 : Int) +
 IntKind.i64.wrap
 (b.tmod (8 : Int))))
 x) ++
 sortD sortF
 (List.take x
 (openL o
 ((1 : Int) +
 IntKind.i64.wrap
 (a.tmod (8 : Int)) +
 (2 : Int) *
 ((1 : Int) +
 IntKind.i64.wrap
 (b.tmod (8 : Int))))
 x)) ++
 List.drop ((0 : Nat) + x)
 (openL o
 ((1 : Int) +
 IntKind.i64.wrap
 (a.tmod (8 : Int)) +
 (2 : Int) *
 ((1 : Int) +
 IntKind.i64.wrap
 (b.tmod (8 : Int))))
 x))) ++
 List.drop ((0 : Nat) + x)
 (List.take (0 : Nat)
 (openL o
 ((1 : Int) +
 IntKind.i64.wrap (a.tmod (8 : Int)) +
 (2 : Int) *
 ((1 : Int) +
 IntKind.i64.wrap
 (b.tmod (8 : Int))))
 x) ++
 sortD sortF
 (List.take x
 (openL o
 ((1 : Int) +
 IntKind.i64.wrap
 (a.tmod (8 : Int)) +
 (2 : Int) *
 ((1 : Int) +
 IntKind.i64.wrap
 (b.tmod (8 : Int))))
 x)) ++
 List.drop ((0 : Nat) + x)
 (openL o
 ((1 : Int) +
 IntKind.i64.wrap (a.tmod (8 : Int)) +
 (2 : Int) *
 ((1 : Int) +
 IntKind.i64.wrap (b.tmod (8 : Int))))
 x)))) =
 openD o (mN sh a b)) ∧
 (0 : Int) = (0 : Int) ∧ (0 : Int) = (0 : Int) ∧ True)) ∧
 (((1 : Int) + sh.tmod (4 : Int) = (3 : Int) → False) →
 ((24 : Int) = (0 : Int) → False) ∧
 ((-9223372036854775808 : Int) ≤ (1 : Int) + IntKind.i64.wrap (a.tmod (24 : Int)) ∧
 (1 : Int) + IntKind.i64.wrap (a.tmod (24 : Int)) < (9223372036854775808 : Int)) ∧
 ((-9223372036854775808 : Int) ≤ (1 : Int) + IntKind.i64.wrap (a.tmod (24 : Int)) + (1 : Int) ∧
 (1 : Int) + IntKind.i64.wrap (a.tmod (24 : Int)) + (1 : Int) < (9223372036854775808 : Int)) ∧
 ((1 : Int) + IntKind.i64.wrap (a.tmod (24 : Int)) + (1 : Int) = (0 : Int) → False) ∧
 (0 : Int) ≤ (0 : Int) ∧
 ((0 : Int) ≤ bif false then max (↑o.len : Int) (24 : Int) else min (↑o.len : Int) (24 : Int)) ∧
 (bif false then max (↑o.len : Int) (24 : Int) else min (↑o.len : Int) (24 : Int)) ≤ (↑o.len : Int) ∧
 ((∃ (x : Nat), x = (0 : Nat) ∧ ((0 : Int) = (0 : Int) ∧ True) ∧ True) ∨
 ∃ (x : Nat),
 ((0 : Nat) < x ∧ x ≤ min o.len (24 : Nat)) ∧
 ((0 : Int) = (↑x : Int) ∧ True) ∧
 (nm = nm ∧
 (1 : Int) + sh.tmod (4 : Int) = (1 : Int) + sh.tmod (4 : Int) ∧
 (1 : Int) + IntKind.i64.wrap (a.tmod (24 : Int)) = (1 : Int) + IntKind.i64.wrap (a.tmod (24 : Int)) ∧
 (IntKind.i64.wrap b).tmod ((1 : Int) + IntKind.i64.wrap (a.tmod (24 : Int)) + (1 : Int)) =
 (IntKind.i64.wrap b).tmod ((1 : Int) + IntKind.i64.wrap (a.tmod (24 : Int)) + (1 : Int)) ∧
 False ∧ (0 : Int) = (0 : Int) ∧ (0 : Int) = (0 : Int) ∧ True) ∧
 False ∧ True) ∧
 (∀ (x : Nat),
 x = (0 : Nat) →
 (24 : Nat) - x < LIM ∧
 ((0 : Int) <
 (↑(o.sub (0 : Nat)
 (bif false then max (↑o.len : Int) (24 : Int) else min (↑o.len : Int) (24 : Int)).toNat).len :
 Int) →
 (0 : Int) ≤ (0 : Int) ∧
 (0 : Int) <
 (↑(o.sub (0 : Nat)
 (bif false then max (↑o.len : Int) (24 : Int) else min (↑o.len : Int) (24 : Int)).toNat).len :
 Int) ∧
 ((1 : Int) + IntKind.i64.wrap (a.tmod (24 : Int)) = (0 : Int) → False) ∧
 (0 : Nat) + (1 : Nat) ≤
 [D.int
 ((IntKind.i64.wrap
 (el
 (o.sub (0 : Nat)
 (bif false then max (↑o.len : Int) (24 : Int)
 else min (↑o.len : Int) (24 : Int)).toNat)
 (Int.toNat (0 : Int))).asInt).tmod
 ((1 : Int) + IntKind.i64.wrap (a.tmod (24 : Int))))].length ∧
 (1 : Nat) ≤ (16777216 : Nat) ∧
 ((-9223372036854775808 : Int) ≤ (0 : Int) + (1 : Int) ∧
 (0 : Int) + (1 : Int) < (9223372036854775808 : Int)) ∧
 ((∃ (y : Nat), y = (0 : Nat) ∧ (24 : Nat) - y < (24 : Nat) - x ∧ False) ∨
 ∃ (y : Nat),
 ((0 : Nat) < y ∧ y ≤ min o.len (24 : Nat)) ∧
 (24 : Nat) - y < (24 : Nat) - x ∧
 ((0 : Int) + (1 : Int) = (↑y : Int) ∧ True) ∧
 (nm = nm ∧
 (1 : Int) + sh.tmod (4 : Int) = (1 : Int) + sh.tmod (4 : Int) ∧
 (1 : Int) + IntKind.i64.wrap (a.tmod (24 : Int)) =
 (1 : Int) + IntKind.i64.wrap (a.tmod (24 : Int)) ∧
 (IntKind.i64.wrap b).tmod
 ((1 : Int) + IntKind.i64.wrap (a.tmod (24 : Int)) + (1 : Int)) =
 (IntKind.i64.wrap b).tmod
 ((1 : Int) + IntKind.i64.wrap (a.tmod (24 : Int)) + (1 : Int)) ∧
 ((0 : Nat) = (0 : Nat) ∧ (1 : Nat) = y ∧ True) ∧
 (0 : Int) = (0 : Int) ∧ (0 : Int) = (0 : Int) ∧ True) ∧
 List.take (1 : Nat)
 [D.int
 ((IntKind.i64.wrap
 (el
 (o.sub (0 : Nat)
 (bif false then max (↑o.len : Int) (24 : Int)
 else min (↑o.len : Int) (24 : Int)).toNat)
 (Int.toNat (0 : Int))).asInt).tmod
 ((1 : Int) + IntKind.i64.wrap (a.tmod (24 : Int))))] =
 openL o ((1 : Int) + IntKind.i64.wrap (a.tmod (24 : Int))) y ∧
 True)) ∧
 (((0 : Int) <
 (↑(o.sub (0 : Nat)
 (bif false then max (↑o.len : Int) (24 : Int) else min (↑o.len : Int) (24 : Int)).toNat).len :
 Int) →
 False) →
 (sortF.ret [] = none →
 (compactF.ret [] = none → False) ∧
 ∀ (k : Nat),
 compactF.ret [] = some k →
 nm = nm ∧
 (1 : Int) + sh.tmod (4 : Int) = mSh sh ∧
 (1 : Int) + IntKind.i64.wrap (a.tmod (24 : Int)) = mA sh a ∧
 (IntKind.i64.wrap b).tmod ((1 : Int) + IntKind.i64.wrap (a.tmod (24 : Int)) + (1 : Int)) =
 mB sh a b ∧
 D.nil = openD o (mN sh a b) ∧ (0 : Int) = (0 : Int) ∧ (0 : Int) = (0 : Int) ∧ True) ∧
 ∀ (k : Nat),
 sortF.ret [] = some k →
 (compactF.ret [] = none → False) ∧
 ∀ (k : Nat),
 compactF.ret [] = some k →
 nm = nm ∧
 (1 : Int) + sh.tmod (4 : Int) = mSh sh ∧
 (1 : Int) + IntKind.i64.wrap (a.tmod (24 : Int)) = mA sh a ∧
 (IntKind.i64.wrap b).tmod ((1 : Int) + IntKind.i64.wrap (a.tmod (24 : Int)) + (1 : Int)) =
 mB sh a b ∧
 D.nil = openD o (mN sh a b) ∧ (0 : Int) = (0 : Int) ∧ (0 : Int) = (0 : Int) ∧ True)) ∧
 ∀ (x : Nat),
 (0 : Nat) < x ∧ x ≤ min o.len (24 : Nat) →
 (24 : Nat) - x < LIM ∧
 ((↑x : Int) <
 (↑(o.sub (0 : Nat)
 (bif false then max (↑o.len : Int) (24 : Int) else min (↑o.len : Int) (24 : Int)).toNat).len :
 Int) →
 (0 : Int) ≤ (↑x : Int) ∧
 (↑x : Int) <
 (↑(o.sub (0 : Nat)
 (bif false then max (↑o.len : Int) (24 : Int) else min (↑o.len : Int) (24 : Int)).toNat).len :
 Int) ∧
 ((1 : Int) + IntKind.i64.wrap (a.tmod (24 : Int)) = (0 : Int) → False) ∧
 (0 : Nat) + (1 : Nat) ≤
 [D.int
 ((IntKind.i64.wrap
 (el
 (o.sub (0 : Nat)
 (bif false then max (↑o.len : Int) (24 : Int)
 else min (↑o.len : Int) (24 : Int)).toNat)
 x).asInt).tmod
 ((1 : Int) + IntKind.i64.wrap (a.tmod (24 : Int))))].length ∧
 (0 : Nat) + x ≤ (openL o ((1 : Int) + IntKind.i64.wrap (a.tmod (24 : Int))) x).length ∧
 x + (1 : Nat) ≤ (16777216 : Nat) ∧
 ((-9223372036854775808 : Int) ≤ (↑x : Int) + (1 : Int) ∧
 (↑x : Int) + (1 : Int) < (9223372036854775808 : Int)) ∧
 ((∃ (y : Nat), y = (0 : Nat) ∧ (24 : Nat) - y < (24 : Nat) - x ∧ False) ∨
 ∃ (y : Nat),
 ((0 : Nat) < y ∧ y ≤ min o.len (24 : Nat)) ∧
 (24 : Nat) - y < (24 : Nat) - x ∧
 ((↑x : Int) + (1 : Int) = (↑y : Int) ∧ True) ∧
 (nm = nm ∧
 (1 : Int) + sh.tmod (4 : Int) = (1 : Int) + sh.tmod (4 : Int) ∧
 (1 : Int) + IntKind.i64.wrap (a.tmod (24 : Int)) =
 (1 : Int) + IntKind.i64.wrap (a.tmod (24 : Int)) ∧
 (IntKind.i64.wrap b).tmod
 ((1 : Int) + IntKind.i64.wrap (a.tmod (24 : Int)) + (1 : Int)) =
 (IntKind.i64.wrap b).tmod
 ((1 : Int) + IntKind.i64.wrap (a.tmod (24 : Int)) + (1 : Int)) ∧
 ((0 : Nat) = (0 : Nat) ∧ x + (1 : Nat) = y ∧ True) ∧
 (0 : Int) = (0 : Int) ∧ (0 : Int) = (0 : Int) ∧ True) ∧
 List.take x (openL o ((1 : Int) + IntKind.i64.wrap (a.tmod (24 : Int))) x) ++
 List.take (1 : Nat)
 [D.int
 ((IntKind.i64.wrap
 (el
 (o.sub (0 : Nat)
 (bif false then max (↑o.len : Int) (24 : Int)
 else min (↑o.len : Int) (24 : Int)).toNat)
 x).asInt).tmod
 ((1 : Int) + IntKind.i64.wrap (a.tmod (24 : Int))))] =
 openL o ((1 : Int) + IntKind.i64.wrap (a.tmod (24 : Int))) y ∧
 True)) ∧
 (((↑x : Int) <
 (↑(o.sub (0 : Nat)
 (bif false then max (↑o.len : Int) (24 : Int) else min (↑o.len : Int) (24 : Int)).toNat).len :
 Int) →
 False) →
 (0 : Nat) < x ∧
 x ≤ (16777216 : Nat) ∧
 (0 : Nat) + x ≤ (openL o ((1 : Int) + IntKind.i64.wrap (a.tmod (24 : Int))) x).length ∧
 intL (List.take x (openL o ((1 : Int) + IntKind.i64.wrap (a.tmod (24 : Int))) x)) ∧
 (sortF.new
 (List.map D.asInt
 (List.take x (openL o ((1 : Int) + IntKind.i64.wrap (a.tmod (24 : Int))) x)))).length =
 x ∧
 (sortF.ret
 (List.map D.asInt
 (List.take x (openL o ((1 : Int) + IntKind.i64.wrap (a.tmod (24 : Int))) x))) =
 none →
 (0 : Nat) < x ∧
 x ≤ (16777216 : Nat) ∧
 (0 : Nat) + x ≤
 (List.take (0 : Nat) (openL o ((1 : Int) + IntKind.i64.wrap (a.tmod (24 : Int))) x) ++
 sortD sortF
 (List.take x (openL o ((1 : Int) + IntKind.i64.wrap (a.tmod (24 : Int))) x)) ++
 List.drop ((0 : Nat) + x)
 (openL o ((1 : Int) + IntKind.i64.wrap (a.tmod (24 : Int))) x)).length ∧
 intL
 (List.take x
 (List.take (0 : Nat) (openL o ((1 : Int) + IntKind.i64.wrap (a.tmod (24 : Int))) x) ++
 sortD sortF
 (List.take x (openL o ((1 : Int) + IntKind.i64.wrap (a.tmod (24 : Int))) x)) ++
 List.drop ((0 : Nat) + x)
 (openL o ((1 : Int) + IntKind.i64.wrap (a.tmod (24 : Int))) x))) ∧
 (compactF.new
 (List.map D.asInt
 (List.take x
 (List.take (0 : Nat)
 (openL o ((1 : Int) + IntKind.i64.wrap (a.tmod (24 : Int))) x) ++
 sortD sortF
 (List.take x
 (openL o ((1 : Int) + IntKind.i64.wrap (a.tmod (24 : Int))) x)) ++
 List.drop ((0 : Nat) + x)
 (openL o ((1 : Int) + IntKind.i64.wrap (a.tmod (24 : Int)))
 x))))).length =
 x ∧
 (compactF.ret
 (List.map D.asInt
 (List.take x
 (List.take (0 : Nat)
 (openL o ((1 : Int) + IntKind.i64.wrap (a.tmod (24 : Int))) x) ++
 sortD sortF
 (List.take x
 (openL o ((1 : Int) + IntKind.i64.wrap (a.tmod (24 : Int))) x)) ++
 List.drop ((0 : Nat) + x)
 (openL o ((1 : Int) + IntKind.i64.wrap (a.tmod (24 : Int))) x)))) =
 none →
 False) ∧
 ∀ (k : Nat),
 compactF.ret
 (List.map D.asInt
 (List.take x
 (List.take (0 : Nat)
 (openL o ((1 : Int) + IntKind.i64.wrap (a.tmod (24 : Int))) x) ++
 sortD sortF
 (List.take x
 (openL o ((1 : Int) + IntKind.i64.wrap (a.tmod (24 : Int))) x)) ++
 List.drop ((0 : Nat) + x)
 (openL o ((1 : Int) + IntKind.i64.wrap (a.tmod (24 : Int))) x)))) =
 some k →
 k ≤ x ∧
 nm = nm ∧
 (1 : Int) + sh.tmod (4 : Int) = mSh sh ∧
 (1 : Int) + IntKind.i64.wrap (a.tmod (24 : Int)) = mA sh a ∧
 (IntKind.i64.wrap b).tmod
 ((1 : Int) + IntKind.i64.wrap (a.tmod (24 : Int)) + (1 : Int)) =
 mB sh a b ∧
 ((0 : Nat) + k ≤
 (List.take (0 : Nat)
 (List.take (0 : Nat)
 (openL o
 ((1 : Int) + IntKind.i64.wrap (a.tmod (24 : Int)))
 x) ++
 sortD sortF
 (List.take x
 (openL o
 ((1 : Int) +
 IntKind.i64.wrap (a.tmod (24 : Int)))
 x)) ++
 List.drop ((0 : Nat) + x)
 (openL o
 ((1 : Int) + IntKind.i64.wrap (a.tmod (24 : Int)))
 x)) ++
 sortD compactF
 (List.take x
 (List.take (0 : Nat)
 (openL o
 ((1 : Int) +
 IntKind.i64.wrap (a.tmod (24 : Int)))
 x) ++
 sortD sortF
 (List.take x
 (openL o
 ((1 : Int) +
 IntKind.i64.wrap (a.tmod (24 : Int)))
 x)) ++
 List.drop ((0 : Nat) + x)
 (openL o
 ((1 : Int) + IntKind.i64.wrap (a.tmod (24 : Int)))
 x))) ++
 List.drop ((0 : Nat) + x)
 (List.take (0 : Nat)
 (openL o
 ((1 : Int) + IntKind.i64.wrap (a.tmod (24 : Int)))
 x) ++
 sortD sortF
 (List.take x
 (openL o
 ((1 : Int) + IntKind.i64.wrap (a.tmod (24 : Int)))
 x)) ++
 List.drop ((0 : Nat) + x)
 (openL o
 ((1 : Int) + IntKind.i64.wrap (a.tmod (24 : Int)))
 x))).length ∧
 D.list
 (List.take k
 (List.take (0 : Nat)
 (List.take (0 : Nat)
 (openL o
 ((1 : Int) +
 IntKind.i64.wrap (a.tmod (24 : Int)))
 x) ++
 sortD sortF
 (List.take x
 (openL o
 ((1 : Int) +
 IntKind.i64.wrap (a.tmod (24 : Int)))
 x)) ++
 List.drop ((0 : Nat) + x)
 (openL o
 ((1 : Int) + IntKind.i64.wrap (a.tmod (24 : Int)))
 x)) ++
 sortD compactF
 (List.take x
 (List.take (0 : Nat)
 (openL o
 ((1 : Int) +
 IntKind.i64.wrap (a.tmod (24 : Int)))
 x) ++
 sortD sortF
 (List.take x
 (openL o
 ((1 : Int) +
 IntKind.i64.wrap (a.tmod (24 : Int)))
 x)) ++
 List.drop ((0 : Nat) + x)
 (openL o
 ((1 : Int) +
 IntKind.i64.wrap (a.tmod (24 : Int)))
 x))) ++
 List.drop ((0 : Nat) + x)
 (List.take (0 : Nat)
 (openL o
 ((1 : Int) + IntKind.i64.wrap (a.tmod (24 : Int)))
 x) ++
 sortD sortF
 (List.take x
 (openL o
 ((1 : Int) +
 IntKind.i64.wrap (a.tmod (24 : Int)))
 x)) ++
 List.drop ((0 : Nat) + x)
 (openL o
 ((1 : Int) + IntKind.i64.wrap (a.tmod (24 : Int)))
 x)))) =
 openD o (mN sh a b)) ∧
 (0 : Int) = (0 : Int) ∧ (0 : Int) = (0 : Int) ∧ True) ∧
 ∀ (k : Nat),
 sortF.ret
 (List.map D.asInt
 (List.take x (openL o ((1 : Int) + IntKind.i64.wrap (a.tmod (24 : Int))) x))) =
 some k →
 k ≤ x ∧
 (0 : Nat) < x ∧
 x ≤ (16777216 : Nat) ∧
 (0 : Nat) + x ≤
 (List.take (0 : Nat) (openL o ((1 : Int) + IntKind.i64.wrap (a.tmod (24 : Int))) x) ++
 sortD sortF
 (List.take x
 (openL o ((1 : Int) + IntKind.i64.wrap (a.tmod (24 : Int))) x)) ++
 List.drop ((0 : Nat) + x)
 (openL o ((1 : Int) + IntKind.i64.wrap (a.tmod (24 : Int))) x)).length ∧
 intL
 (List.take x
 (List.take (0 : Nat)
 (openL o ((1 : Int) + IntKind.i64.wrap (a.tmod (24 : Int))) x) ++
 sortD sortF
 (List.take x
 (openL o ((1 : Int) + IntKind.i64.wrap (a.tmod (24 : Int))) x)) ++
 List.drop ((0 : Nat) + x)
 (openL o ((1 : Int) + IntKind.i64.wrap (a.tmod (24 : Int))) x))) ∧
 (compactF.new
 (List.map D.asInt
 (List.take x
 (List.take (0 : Nat)
 (openL o ((1 : Int) + IntKind.i64.wrap (a.tmod (24 : Int))) x) ++
 sortD sortF
 (List.take x
 (openL o ((1 : Int) + IntKind.i64.wrap (a.tmod (24 : Int))) x)) ++
 List.drop ((0 : Nat) + x)
 (openL o ((1 : Int) + IntKind.i64.wrap (a.tmod (24 : Int)))
 x))))).length =
 x ∧
 (compactF.ret
 (List.map D.asInt
 (List.take x
 (List.take (0 : Nat)
 (openL o ((1 : Int) + IntKind.i64.wrap (a.tmod (24 : Int))) x) ++
 sortD sortF
 (List.take x
 (openL o ((1 : Int) + IntKind.i64.wrap (a.tmod (24 : Int)))
 x)) ++
 List.drop ((0 : Nat) + x)
 (openL o ((1 : Int) + IntKind.i64.wrap (a.tmod (24 : Int))) x)))) =
 none →
 False) ∧
 ∀ (k : Nat),
 compactF.ret
 (List.map D.asInt
 (List.take x
 (List.take (0 : Nat)
 (openL o ((1 : Int) + IntKind.i64.wrap (a.tmod (24 : Int)))
 x) ++
 sortD sortF
 (List.take x
 (openL o ((1 : Int) + IntKind.i64.wrap (a.tmod (24 : Int)))
 x)) ++
 List.drop ((0 : Nat) + x)
 (openL o ((1 : Int) + IntKind.i64.wrap (a.tmod (24 : Int)))
 x)))) =
 some k →
 k ≤ x ∧
 nm = nm ∧
 (1 : Int) + sh.tmod (4 : Int) = mSh sh ∧
 (1 : Int) + IntKind.i64.wrap (a.tmod (24 : Int)) = mA sh a ∧
 (IntKind.i64.wrap b).tmod
 ((1 : Int) + IntKind.i64.wrap (a.tmod (24 : Int)) + (1 : Int)) =
 mB sh a b ∧
 ((0 : Nat) + k ≤
 (List.take (0 : Nat)
 (List.take (0 : Nat)
 (openL o
 ((1 : Int) +
 IntKind.i64.wrap (a.tmod (24 : Int)))
 x) ++
 sortD sortF
 (List.take x
 (openL o
 ((1 : Int) +
 IntKind.i64.wrap (a.tmod (24 : Int)))
 x)) ++
 List.drop ((0 : Nat) + x)
 (openL o
 ((1 : Int) +
 IntKind.i64.wrap (a.tmod (24 : Int)))
 x)) ++
 sortD compactF
 (List.take x
 (List.take (0 : Nat)
 (openL o
 ((1 : Int) +
 IntKind.i64.wrap (a.tmod (24 : Int)))
 x) ++
 sortD sortF
 (List.take x
 (openL o
 ((1 : Int) +
 IntKind.i64.wrap (a.tmod (24 : Int)))
 x)) ++
 List.drop ((0 : Nat) + x)
 (openL o
 ((1 : Int) +
 IntKind.i64.wrap (a.tmod (24 : Int)))
 x))) ++
 List.drop ((0 : Nat) + x)
 (List.take (0 : Nat)
 (openL o
 ((1 : Int) +
 IntKind.i64.wrap (a.tmod (24 : Int)))
 x) ++
 sortD sortF
 (List.take x
 (openL o
 ((1 : Int) +
 IntKind.i64.wrap (a.tmod (24 : Int)))
 x)) ++
 List.drop ((0 : Nat) + x)
 (openL o
 ((1 : Int) + IntKind.i64.wrap (a.tmod (24 : Int)))
 x))).length ∧
 D.list
 (List.take k
 (List.take (0 : Nat)
 (List.take (0 : Nat)
 (openL o
 ((1 : Int) +
 IntKind.i64.wrap (a.tmod (24 : Int)))
 x) ++
 sortD sortF
 (List.take x
 (openL o
 ((1 : Int) +
 IntKind.i64.wrap (a.tmod (24 : Int)))
 x)) ++
 List.drop ((0 : Nat) + x)
 (openL o
 ((1 : Int) +
 IntKind.i64.wrap (a.tmod (24 : Int)))
 x)) ++
 sortD compactF
 (List.take x
 (List.take (0 : Nat)
 (openL o
 ((1 : Int) +
 IntKind.i64.wrap (a.tmod (24 : Int)))
 x) ++
 sortD sortF
 (List.take x
 (openL o
 ((1 : Int) +
 IntKind.i64.wrap (a.tmod (24 : Int)))
 x)) ++
 List.drop ((0 : Nat) + x)
 (openL o
 ((1 : Int) +
 IntKind.i64.wrap (a.tmod (24 : Int)))
 x))) ++
 List.drop ((0 : Nat) + x)
 (List.take (0 : Nat)
 (openL o
 ((1 : Int) +
 IntKind.i64.wrap (a.tmod (24 : Int)))
 x) ++
 sortD sortF
 (List.take x
 (openL o
 ((1 : Int) +
 IntKind.i64.wrap (a.tmod (24 : Int)))
 x)) ++
 List.drop ((0 : Nat) + x)
 (openL o
 ((1 : Int) +
 IntKind.i64.wrap (a.tmod (24 : Int)))
 x)))) =
 openD o (mN sh a b)) ∧
 (0 : Int) = (0 : Int) ∧ (0 : Int) = (0 : Int) ∧ True))))) := by intros; kernel_rfl
theorem cmp_le (zs : List Int) : (Lib.compact zs).length ≤ zs.length := by
 unfold Lib.compact Lib.compactUpTo
 rw [List.length_map]
 exact Nat.le_trans (List.length_filter_le _ _) (by simp)
theorem wrap64 {n : Int} (h1 : -9223372036854775808 ≤ n) (h2 : n < 9223372036854775808) : IntKind.i64.wrap n = n := by
 simp only [IntKind.wrap, IntKind.bits, IntKind.signed, Bool.true_and, ge_iff_le, decide_eq_true_eq]
 split <;> omega
theorem subLen (l : D) (n : Nat) (h : n ≤ l.len) : (l.sub 0 n).len = n := by
 cases l <;> simp [D.sub, D.len, D.asList] at h ⊢ <;> omega
theorem subEl (l : D) (n i : Nat) (h : i < n) : el (l.sub 0 n) i = el l i := by
 cases l <;> simp [D.sub, el, D.asList, nthD, List.getElem?_take, h]
theorem len_openI (o : D) (n : Int) (x : Nat) : (openI o n x).length = x := by simp [openI]
theorem len_open (o : D) (n : Int) (x : Nat) : (openL o n x).length = x := by simp [openL, openI]
theorem take_openL (o : D) (n : Int) (x : Nat) : List.take x (openL o n x) = openL o n x := List.take_of_length_le (by rw [len_open]; exact Nat.le_refl _)
theorem drop_openL (o : D) (n : Int) (x : Nat) : List.drop x (openL o n x) = [] := List.drop_eq_nil_of_le (by rw [len_open]; exact Nat.le_refl _)
theorem map_int (zs : List Int) : List.map D.asInt (List.map D.int zs) = zs := by
 rw [List.map_map]; exact (List.map_congr_left fun a _ => rfl).trans (List.map_id zs)
theorem map_openL (o : D) (n : Int) (x : Nat) : List.map D.asInt (openL o n x) = openI o n x := map_int _
theorem sort_openL (o : D) (n : Int) (x : Nat) : sortD sortF (openL o n x) = ((openI o n x).mergeSort fun x y => decide (x ≤ y)).map D.int := by
 unfold sortD; rw [map_openL]; rfl
theorem len_sort (o : D) (n : Int) (x : Nat) : (sortD sortF (openL o n x)).length = x := by
 rw [sort_openL, List.length_map, List.length_mergeSort, len_openI]
theorem take_sort (o : D) (n : Int) (x : Nat) : List.take x (sortD sortF (openL o n x)) = sortD sortF (openL o n x) := List.take_of_length_le (by rw [len_sort]; exact Nat.le_refl _)
theorem map_sort (o : D) (n : Int) (x : Nat) : List.map D.asInt (sortD sortF (openL o n x)) = (openI o n x).mergeSort fun x y => decide (x ≤ y) := by rw [sort_openL]; exact map_int _
theorem sret (zs : List Int) : sortF.ret zs = none := rfl
theorem cret1 (zs : List Int) : (compactF.ret zs = none) = False := by simp [compactF]
theorem cret2 (zs : List Int) (k : Nat) : (compactF.ret zs = some k) = ((Lib.compact zs).length = k) := by simp [compactF]
theorem newlen1 (zs : List Int) : (sortF.new zs).length = zs.length := List.length_mergeSort _
theorem newlen2 (zs : List Int) : (compactF.new zs).length = zs.length := by
 show (Lib.compact zs ++ List.replicate (zs.length - (Lib.compact zs).length) 0).length = zs.length
 have := cmp_le zs
 rw [List.length_append, List.length_replicate]; omega
theorem len_srt (o : D) (n : Int) (x : Nat) : ((openI o n x).mergeSort fun x y => decide (x ≤ y)).length = x := by rw [List.length_mergeSort, len_openI]
theorem intL_map (zs : List Int) : intL (zs.map D.int) := ⟨fun d hd => by obtain ⟨n, _, e⟩ := List.mem_map.1 hd; exact ⟨n, e.symm⟩⟩
theorem cmp_take (zs : List Int) : List.take (Lib.compact zs).length (sortD compactF (zs.map D.int)) = (Lib.compact zs).map D.int := by
 unfold sortD
 rw [map_int]
 show List.take _ (List.map D.int (Lib.compact zs ++ _)) = _
 rw [List.map_append]
 have := List.take_left' (l₁ := List.map D.int (Lib.compact zs)) (l₂ := List.map D.int (List.replicate (zs.length - (Lib.compact zs).length) 0)) (i := (Lib.compact zs).length) (by simp)
 exact this
theorem cmp_len (zs : List Int) : (sortD compactF (zs.map D.int)).length = zs.length := by
 unfold sortD
 rw [map_int, List.length_map, newlen2]
theorem compact_nonnil (zs : List Int) (h : 0 < zs.length) : Lib.compact zs ≠ [] := by
 unfold Lib.compact Lib.compactUpTo
 intro e
 rw [List.map_eq_nil_iff, List.filter_eq_nil_iff] at e
 exact e 0 (List.mem_range.2 h) (Lib.keeps_lt_one _ 0 (by omega))
theorem openL_succ (o : D) (n : Int) (x : Nat) : openL o n (x + 1) = openL o n x ++ [D.int ((atI o x).tmod n)] := by
 unfold openL openI; rw [List.range_succ, List.map_append, List.map_append]; rfl
theorem open_end (o : D) (N : Int) (x : Nat) (h0 : 0 < x) (e : x = min o.len 24) (k : Nat) (hk : (Lib.compact ((openI o N x).mergeSort fun x y => decide (x ≤ y))).length = k) :
  k ≤ x ∧ k ≤ (sortD compactF (sortD sortF (openL o N x))).length ∧ D.list (List.take k (sortD compactF (sortD sortF (openL o N x)))) = openD o N := by
 rw [sort_openL, cmp_len, len_srt]
 have hkx : k ≤ x := by rw [← hk]; exact Nat.le_trans (cmp_le _) (by rw [len_srt]; exact Nat.le_refl _)
 refine ⟨hkx, hkx, ?_⟩
 rw [← hk, cmp_take]
 unfold openD openZ
 rw [← e]
 have := compact_nonnil ((openI o N x).mergeSort fun x y => decide (x ≤ y)) (by rw [len_srt]; exact h0)
 generalize Lib.compact ((openI o N x).mergeSort fun x y => decide (x ≤ y)) = zs at this ⊢
 cases zs with
 | nil => exact absurd rfl this
 | cons z zs => rfl
theorem open_none (o : D) (N : Int) (h : min o.len 24 = 0) : D.nil = openD o N := by
 unfold openD openZ
 rw [h]
 have : (openI o N 0).mergeSort (fun x y => decide (x ≤ y)) = [] := List.eq_nil_of_length_eq_zero (by rw [List.length_mergeSort, len_openI])
 rw [this]; rfl
theorem drop_sort (o : D) (n : Int) (x : Nat) : List.drop x (sortD sortF (openL o n x)) = [] := List.drop_eq_nil_of_le (by rw [len_sort]; exact Nat.le_refl _)
theorem s25 (nm : List UInt8) (sh a b : Int) (o : D) (hs : byteP sh) (ha : byteP a) (hb : byteP b) (ho : bytesP o) : symFun (ctx (fun _ => none) (annMade nm o)) 3 25 [.agg [.int .u8 sh, .int .u8 a, .int .u8 b, .dat 52 o], .str nm] (.agg [.str nm, .int .u8 (mSh sh), .int .i64 (mA sh a), .int .i64 (mB sh a b), .dat 37 (openD o (mN sh a b)), .int .i64 0, .int .i64 0]) := by
 have hs := hs.out
 have ha := ha.out
 have hb := hb.out
 rw [vc25]
 have t1 : ∀ m : Int, 0 < m → 0 ≤ a.tmod m ∧ a.tmod m < m := fun m hm => ⟨Int.tmod_nonneg m ha.1, Int.tmod_lt_of_pos a hm⟩
 have t2 : ∀ m : Int, 0 < m → 0 ≤ b.tmod m ∧ b.tmod m < m := fun m hm => ⟨Int.tmod_nonneg m hb.1, Int.tmod_lt_of_pos b hm⟩
 have t3 : 0 ≤ sh.tmod 4 ∧ sh.tmod 4 < 4 := ⟨Int.tmod_nonneg 4 hs.1, Int.tmod_lt_of_pos sh (by decide)⟩
 have a24 := t1 24 (by decide)
 have a11 := t1 11 (by decide)
 have a8 := t1 8 (by decide)
 have b8 := t2 8 (by decide)
 have b3 := t2 3 (by decide)
 have w3 : IntKind.i64.wrap b = b := wrap64 (by omega) (by omega)
 have hq : (min (↑o.len : Int) 24).toNat = min o.len 24 := by omega
 have hsl : (o.sub 0 (min o.len 24)).len = min o.len 24 := subLen _ _ (by omega)
 have hel : ∀ x, x < min o.len 24 → IntKind.i64.wrap (el (o.sub 0 (min o.len 24)) x).asInt = atI o x := fun x hx => by
  rw [subEl _ _ _ hx]
  have := ho.out x (by omega)
  exact wrap64 (show -9223372036854775808 ≤ atI o x by omega) (show atI o x < 9223372036854775808 by omega)
 rw [wrap64 (n := a.tmod 24) (by omega) (by omega), wrap64 (n := a.tmod 11) (by omega) (by omega), wrap64 (n := a.tmod 8) (by omega) (by omega), wrap64 (n := b.tmod 8) (by omega) (by omega), wrap64 (n := b.tmod 3) (by omega) (by omega), w3]
 simp only [cond_false, and_true, true_and, and_false, false_and, or_false, false_or, exists_false, Int.zero_add, imp_false, not_false_eq_true, Nat.zero_add, List.take_zero, List.nil_append, Nat.le_refl, Int.le_refl]
 refine ⟨by decide, by omega, fun h1 => ?_, fun h1 => ⟨fun h2 => ?_, fun h2 => ⟨fun h3 => ?_, fun h3 => ?_⟩⟩⟩
 ·have eA : mA sh a = 1 + a.tmod 24 := by unfold mA mSh; rw [if_pos h1]
  have eB : mB sh a b = 0 := by unfold mB mSh; rw [if_pos h1]
  have eN : mN sh a b = 1 + a.tmod 24 := by unfold mN mSh; rw [if_pos h1, eA]
  have eS : (1 + sh.tmod 4 = mSh sh) = True := eq_true rfl
  rw [eA, eB, eN]
  simp only [hq, hsl, take_openL, drop_openL, drop_sort, List.append_nil, take_sort, len_sort, len_open, sret, cret1, cret2, map_sort, newlen1, newlen2, len_srt, map_openL, len_openI, eS, forall_const, true_and, and_true, reduceCtorEq, not_false_eq_true, implies_true, false_implies, List.length_singleton]
  refine ⟨by omega, by omega, by omega, by omega, ⟨0, rfl⟩, fun x hx0 => ?_, fun x hx => ?_⟩
  ·subst hx0
   refine ⟨by unfold LIM; omega, fun hlt => ⟨hlt, by omega, by decide, by decide, by decide, 1, ⟨by decide, by omega⟩, by omega, rfl, by first | rfl | exact ⟨rfl, rfl⟩, ?_⟩, fun hge k _ => open_none o _ (by omega)⟩
   rw [show Int.toNat 0 = 0 from rfl, hel 0 (by omega)]; rfl
  ·refine ⟨by unfold LIM; omega, fun hlt => ⟨by omega, hlt, by omega, by decide, by omega, by omega, by omega, x + 1, ⟨by omega, by omega⟩, by omega, by omega, rfl, ?_⟩, fun hge => ⟨hx.1, by omega, by omega, intL_map _, hx.1, by omega, by omega, by rw [sort_openL]; exact intL_map _, fun k hk => ?_⟩⟩
   ·rw [hel x (by omega), openL_succ]; rfl
   ·have := open_end o (1 + a.tmod 24) x hx.1 (by omega) k hk
    first | exact this | exact ⟨this.1, rfl, this.2⟩
 ·have eA : mA sh a = 1 + a.tmod 11 := by unfold mA mSh; rw [if_neg h1, if_pos h2]
  have eB : mB sh a b = b.tmod 3 := by unfold mB mSh; rw [if_neg h1, if_pos h2]
  have eN : mN sh a b = 2 * (1 + a.tmod 11) + b.tmod 3 := by unfold mN mSh; rw [if_neg h1, if_pos h2, eA, eB]
  have eS : (1 + sh.tmod 4 = mSh sh) = True := eq_true rfl
  rw [eA, eB, eN]
  simp only [hq, hsl, take_openL, drop_openL, drop_sort, List.append_nil, take_sort, len_sort, len_open, sret, cret1, cret2, map_sort, newlen1, newlen2, len_srt, map_openL, len_openI, eS, forall_const, true_and, and_true, reduceCtorEq, not_false_eq_true, implies_true, false_implies, List.length_singleton]
  refine ⟨by omega, by omega, by omega, by omega, by omega, by omega, by omega, ⟨0, rfl⟩, fun x hx0 => ?_, fun x hx => ?_⟩
  ·subst hx0
   refine ⟨by unfold LIM; omega, fun hlt => ⟨hlt, by omega, by decide, by decide, by decide, 1, ⟨by decide, by omega⟩, by omega, rfl, by first | rfl | exact ⟨rfl, rfl⟩, ?_⟩, fun hge k _ => open_none o _ (by omega)⟩
   rw [show Int.toNat 0 = 0 from rfl, hel 0 (by omega)]; rfl
  ·refine ⟨by unfold LIM; omega, fun hlt => ⟨by omega, hlt, by omega, by decide, by omega, by omega, by omega, x + 1, ⟨by omega, by omega⟩, by omega, by omega, rfl, ?_⟩, fun hge => ⟨hx.1, by omega, by omega, intL_map _, hx.1, by omega, by omega, by rw [sort_openL]; exact intL_map _, fun k hk => ?_⟩⟩
   ·rw [hel x (by omega), openL_succ]; rfl
   ·have := open_end o (2 * (1 + a.tmod 11) + b.tmod 3) x hx.1 (by omega) k hk
    first | exact this | exact ⟨this.1, rfl, this.2⟩
 ·have eA : mA sh a = 1 + a.tmod 8 := by unfold mA mSh; rw [if_neg h1, if_neg h2, if_pos h3]
  have eB : mB sh a b = 1 + b.tmod 8 := by unfold mB mSh; rw [if_neg h1, if_neg h2, if_pos h3]
  have eN : mN sh a b = 1 + a.tmod 8 + 2 * (1 + b.tmod 8) := by unfold mN mSh; rw [if_neg h1, if_neg h2, if_pos h3, eA, eB]
  have eS : (1 + sh.tmod 4 = mSh sh) = True := eq_true rfl
  rw [eA, eB, eN]
  simp only [hq, hsl, take_openL, drop_openL, drop_sort, List.append_nil, take_sort, len_sort, len_open, sret, cret1, cret2, map_sort, newlen1, newlen2, len_srt, map_openL, len_openI, eS, forall_const, true_and, and_true, reduceCtorEq, not_false_eq_true, implies_true, false_implies, List.length_singleton]
  refine ⟨by omega, by omega, by omega, by omega, by omega, by omega, by omega, by omega, ⟨0, rfl⟩, fun x hx0 => ?_, fun x hx => ?_⟩
  ·subst hx0
   refine ⟨by unfold LIM; omega, fun hlt => ⟨hlt, by omega, by decide, by decide, by decide, 1, ⟨by decide, by omega⟩, by omega, rfl, by first | rfl | exact ⟨rfl, rfl⟩, ?_⟩, fun hge k _ => open_none o _ (by omega)⟩
   rw [show Int.toNat 0 = 0 from rfl, hel 0 (by omega)]; rfl
  ·refine ⟨by unfold LIM; omega, fun hlt => ⟨by omega, hlt, by omega, by decide, by omega, by omega, by omega, x + 1, ⟨by omega, by omega⟩, by omega, by omega, rfl, ?_⟩, fun hge => ⟨hx.1, by omega, by omega, intL_map _, hx.1, by omega, by omega, by rw [sort_openL]; exact intL_map _, fun k hk => ?_⟩⟩
   ·rw [hel x (by omega), openL_succ]; rfl
   ·have := open_end o (1 + a.tmod 8 + 2 * (1 + b.tmod 8)) x hx.1 (by omega) k hk
    first | exact this | exact ⟨this.1, rfl, this.2⟩
 ·have eA : mA sh a = 1 + a.tmod 24 := by unfold mA mSh; rw [if_neg h1, if_neg h2, if_neg h3]
  have eB : mB sh a b = b.tmod (1 + a.tmod 24 + 1) := by unfold mB mSh; rw [if_neg h1, if_neg h2, if_neg h3]
  have eN : mN sh a b = 1 + a.tmod 24 := by unfold mN mSh; rw [if_neg h1, if_neg h2, if_neg h3, eA]
  have eS : (1 + sh.tmod 4 = mSh sh) = True := eq_true rfl
  rw [eA, eB, eN]
  simp only [hq, hsl, take_openL, drop_openL, drop_sort, List.append_nil, take_sort, len_sort, len_open, sret, cret1, cret2, map_sort, newlen1, newlen2, len_srt, map_openL, len_openI, eS, forall_const, true_and, and_true, reduceCtorEq, not_false_eq_true, implies_true, false_implies, List.length_singleton]
  refine ⟨by omega, by omega, by omega, by omega, by omega, by omega, ⟨0, rfl⟩, fun x hx0 => ?_, fun x hx => ?_⟩
  ·subst hx0
   refine ⟨by unfold LIM; omega, fun hlt => ⟨hlt, by omega, by decide, by decide, by decide, 1, ⟨by decide, by omega⟩, by omega, rfl, by first | rfl | exact ⟨rfl, rfl⟩, ?_⟩, fun hge k _ => open_none o _ (by omega)⟩
   rw [show Int.toNat 0 = 0 from rfl, hel 0 (by omega)]; rfl
  ·refine ⟨by unfold LIM; omega, fun hlt => ⟨by omega, hlt, by omega, by decide, by omega, by omega, by omega, x + 1, ⟨by omega, by omega⟩, by omega, by omega, rfl, ?_⟩, fun hge => ⟨hx.1, by omega, by omega, intL_map _, hx.1, by omega, by omega, by rw [sort_openL]; exact intL_map _, fun k hk => ?_⟩⟩
   ·rw [hel x (by omega), openL_succ]; rfl
   ·have := open_end o (1 + a.tmod 24) x hx.1 (by omega) k hk
    first | exact this | exact ⟨this.1, rfl, this.2⟩
end Go.Ev
