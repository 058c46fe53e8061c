/-
  Part of the engine that the claim is proved with: it states nothing of the document by itself.
-/
import Derived.Test.YtpcokmpipjcndaaGreatDoorCoreG23

section
open Go.Proofs
namespace Go.Ev
set_option maxRecDepth 100000
set_option maxHeartbeats 4000000
theorem vc87 : ∀ (s : List UInt8), symFun (ctx (fun _ => none) hpAnn) (3 : Nat) (87 : FuncId) [V.str s] (V.prop (nameP s)) = ((((↑s.length : Int) < (1 : Int) → False) → ((12 : Int) < (↑s.length : Int)
 → (false = true ↔ nameP s)) ∧ (((12 : Int) < (↑s.length : Int) → False) → (∃ (x : Nat), (x ≤ s.length ∧ ∀ (i : Nat), i < x → (97 : Int) ≤ byteAt s i ∧ byteAt s i ≤ (122 : Int)) ∧ ((0 : Int) = (↑x :
 Int) ∧ True) ∧ True) ∧ ∀ (x : Nat), (x ≤ s.length ∧ ∀ (i : Nat), i < x → (97 : Int) ≤ byteAt s i ∧ byteAt s i ≤ (122 : Int)) → s.length - x < LIM ∧ ((↑x : Int) < (↑s.length : Int) → (0 : Int) ≤ (↑x :
 Int) ∧ (↑x : Int) < (↑s.length : Int) ∧ ((byteAt s x < (97 : Int) → False) → (0 : Int) ≤ (↑x : Int) ∧ (↑x : Int) < (↑s.length : Int) ∧ ((122 : Int) < byteAt s x → (false = true ↔ nameP s)) ∧ (((122 :
 Int) < byteAt s x → False) → ((-9223372036854775808 : Int) ≤ (↑x : Int) + (1 : Int) ∧ (↑x : Int) + (1 : Int) < (9223372036854775808 : Int)) ∧ ∃ (y : Nat), (y ≤ s.length ∧ ∀ (i : Nat), i < y → (97 :
 Int) ≤ byteAt s i ∧ byteAt s i ≤ (122 : Int)) ∧ s.length - y < s.length - x ∧ ((↑x : Int) + (1 : Int) = (↑y : Int) ∧ True) ∧ True)) ∧ (byteAt s x < (97 : Int) → (false = true ↔ nameP s))) ∧ (((↑x :
 Int) < (↑s.length : Int) → False) → (true = true ↔ nameP s)))) ∧ ((↑s.length : Int) < (1 : Int) → (false = true ↔ nameP s))) := by intros; kernel_rfl
theorem vc80 : ∀ (s : List UInt8), symFun (ctx (fun _ => none) hpAnn) (3 : Nat) (80 : FuncId) [V.str s] (V.prop (nameP s)) = ((((↑s.length : Int) = (0 : Int) → False) → ((12 : Int) < (↑s.length : Int)
 → (false = true ↔ nameP s)) ∧ (((12 : Int) < (↑s.length : Int) → False) → (∃ (x : Nat), (x ≤ s.length ∧ ∀ (i : Nat), i < x → (97 : Int) ≤ byteAt s i ∧ byteAt s i ≤ (122 : Int)) ∧ ((0 : Int) = (↑x :
 Int) ∧ True) ∧ True) ∧ ∀ (x : Nat), (x ≤ s.length ∧ ∀ (i : Nat), i < x → (97 : Int) ≤ byteAt s i ∧ byteAt s i ≤ (122 : Int)) → s.length - x < LIM ∧ ((↑x : Int) < (↑s.length : Int) → (0 : Int) ≤ (↑x :
 Int) ∧ (↑x : Int) < (↑s.length : Int) ∧ ((byteAt s x < (97 : Int) → False) → (0 : Int) ≤ (↑x : Int) ∧ (↑x : Int) < (↑s.length : Int) ∧ ((122 : Int) < byteAt s x → (false = true ↔ nameP s)) ∧ (((122 :
 Int) < byteAt s x → False) → ((-9223372036854775808 : Int) ≤ (↑x : Int) + (1 : Int) ∧ (↑x : Int) + (1 : Int) < (9223372036854775808 : Int)) ∧ ∃ (y : Nat), (y ≤ s.length ∧ ∀ (i : Nat), i < y → (97 :
 Int) ≤ byteAt s i ∧ byteAt s i ≤ (122 : Int)) ∧ s.length - y < s.length - x ∧ ((↑x : Int) + (1 : Int) = (↑y : Int) ∧ True) ∧ True)) ∧ (byteAt s x < (97 : Int) → (false = true ↔ nameP s))) ∧ (((↑x :
 Int) < (↑s.length : Int) → False) → (true = true ↔ nameP s)))) ∧ ((↑s.length : Int) = (0 : Int) → (false = true ↔ nameP s))) := by intros; kernel_rfl
theorem vc88 : ∀ (o : D) (n : Int), symFun (ctx (fun _ => none) hpAnn) (3 : Nat) (88 : FuncId) [V.dat (37 : TypeId) o, V.int IntKind.i64 n] (V.prop (risingP o n)) = ((∃ (x : Nat), (x ≤ o.len ∧ ∀ (i :
 Nat), i < x → (0 : Int) ≤ atI o i ∧ atI o i < n ∧ ((0 : Nat) < i → atI o (i - (1 : Nat)) < atI o i)) ∧ ((0 : Int) = (↑x : Int) ∧ (-1 : Int) = lastZ o x ∧ True) ∧ True) ∧ ∀ (x : Nat), (x ≤ o.len ∧ ∀ (i
 : Nat), i < x → (0 : Int) ≤ atI o i ∧ atI o i < n ∧ ((0 : Nat) < i → atI o (i - (1 : Nat)) < atI o i)) → o.len - x < LIM ∧ ((↑x : Int) < (↑o.len : Int) → (0 : Int) ≤ (↑x : Int) ∧ (↑x : Int) < (↑o.len
 : Int) ∧ (((el o x).asInt ≤ lastZ o x → False) → (n ≤ (el o x).asInt → (false = true ↔ risingP o n)) ∧ ((n ≤ (el o x).asInt → False) → ((-9223372036854775808 : Int) ≤ (↑x : Int) + (1 : Int) ∧ (↑x :
 Int) + (1 : Int) < (9223372036854775808 : Int)) ∧ ∃ (y : Nat), (y ≤ o.len ∧ ∀ (i : Nat), i < y → (0 : Int) ≤ atI o i ∧ atI o i < n ∧ ((0 : Nat) < i → atI o (i - (1 : Nat)) < atI o i)) ∧ o.len - y <
 o.len - x ∧ ((↑x : Int) + (1 : Int) = (↑y : Int) ∧ (el o x).asInt = lastZ o y ∧ True) ∧ True)) ∧ ((el o x).asInt ≤ lastZ o x → (false = true ↔ risingP o n))) ∧ (((↑x : Int) < (↑o.len : Int) → False) →
 (true = true ↔ risingP o n))) := by intros; kernel_rfl
theorem vc79 : ∀ (nm : List UInt8) (sh a b : Int) (o : D) (x y : Int), symFun (ctx (fun _ => none) hpAnn) (3 : Nat) (79 : FuncId) [V.agg [V.str nm, V.int IntKind.u8 sh, V.int IntKind.i64 a, V.int
 IntKind.i64 b, V.dat (37 : TypeId) o, V.int IntKind.i64 x, V.int IntKind.i64 y]] (V.int IntKind.i64 (sizeZ sh a b)) = ((sh = (1 : Int) → ((1 : Int) ≤ a → (a ≤ (24 : Int) → (b = (0 : Int) → a = sizeZ
 sh a b) ∧ ((b = (0 : Int) → False) → (0 : Int) = sizeZ sh a b)) ∧ ((a ≤ (24 : Int) → False) → (0 : Int) = sizeZ sh a b)) ∧ (((1 : Int) ≤ a → False) → (0 : Int) = sizeZ sh a b)) ∧ ((sh = (1 : Int) →
 False) → (sh = (2 : Int) → ((1 : Int) ≤ a → (a ≤ (11 : Int) → ((0 : Int) ≤ b → (b ≤ (2 : Int) → ((-9223372036854775808 : Int) ≤ (2 : Int) * a ∧ (2 : Int) * a < (9223372036854775808 : Int)) ∧
 ((-9223372036854775808 : Int) ≤ (2 : Int) * a + b ∧ (2 : Int) * a + b < (9223372036854775808 : Int)) ∧ (2 : Int) * a + b = sizeZ sh a b) ∧ ((b ≤ (2 : Int) → False) → (0 : Int) = sizeZ sh a b)) ∧ (((0
 : Int) ≤ b → False) → (0 : Int) = sizeZ sh a b)) ∧ ((a ≤ (11 : Int) → False) → (0 : Int) = sizeZ sh a b)) ∧ (((1 : Int) ≤ a → False) → (0 : Int) = sizeZ sh a b)) ∧ ((sh = (2 : Int) → False) → (sh = (3
 : Int) → ((1 : Int) ≤ a → (a ≤ (8 : Int) → ((1 : Int) ≤ b → (b ≤ (8 : Int) → ((-9223372036854775808 : Int) ≤ (2 : Int) * b ∧ (2 : Int) * b < (9223372036854775808 : Int)) ∧ ((-9223372036854775808 :
 Int) ≤ a + (2 : Int) * b ∧ a + (2 : Int) * b < (9223372036854775808 : Int)) ∧ a + (2 : Int) * b = sizeZ sh a b) ∧ ((b ≤ (8 : Int) → False) → (0 : Int) = sizeZ sh a b)) ∧ (((1 : Int) ≤ b → False) → (0
 : Int) = sizeZ sh a b)) ∧ ((a ≤ (8 : Int) → False) → (0 : Int) = sizeZ sh a b)) ∧ (((1 : Int) ≤ a → False) → (0 : Int) = sizeZ sh a b)) ∧ ((sh = (3 : Int) → False) → (sh = (4 : Int) → ((1 : Int) ≤ a →
 (a ≤ (24 : Int) → ((0 : Int) ≤ b → (b ≤ a → a = sizeZ sh a b) ∧ ((b ≤ a → False) → (0 : Int) = sizeZ sh a b)) ∧ (((0 : Int) ≤ b → False) → (0 : Int) = sizeZ sh a b)) ∧ ((a ≤ (24 : Int) → False) → (0 :
 Int) = sizeZ sh a b)) ∧ (((1 : Int) ≤ a → False) → (0 : Int) = sizeZ sh a b)) ∧ ((sh = (4 : Int) → False) → (0 : Int) = sizeZ sh a b))))) := by intros; kernel_rfl
theorem vc74 : ∀ (l : D) (s : List UInt8), symFun (ctx (fun _ => none) hpAnn) (3 : Nat) (74 : FuncId) [V.dat (25 : TypeId) l, V.str s] (V.int IntKind.i64 (idxZ l s l.len (0 : Nat))) = ((∃ (x : Nat),
 (x ≤ l.len ∧ idxZ l s (l.len - x) x = idxZ l s l.len (0 : Nat)) ∧ ((0 : Int) = (↑x : Int) ∧ True) ∧ True) ∧ ∀ (x : Nat), x ≤ l.len ∧ idxZ l s (l.len - x) x = idxZ l s l.len (0 : Nat) → l.len - x < LIM
 ∧ ((↑x : Int) < (↑l.len : Int) → (0 : Int) ≤ (↑x : Int) ∧ (↑x : Int) < (↑l.len : Int) ∧ (tName (el l x) = s → (↑x : Int) = idxZ l s l.len (0 : Nat)) ∧ ((tName (el l x) = s → False) →
 ((-9223372036854775808 : Int) ≤ (↑x : Int) + (1 : Int) ∧ (↑x : Int) + (1 : Int) < (9223372036854775808 : Int)) ∧ ∃ (y : Nat), (y ≤ l.len ∧ idxZ l s (l.len - y) y = idxZ l s l.len (0 : Nat)) ∧ l.len -
 y < l.len - x ∧ ((↑x : Int) + (1 : Int) = (↑y : Int) ∧ True) ∧ True)) ∧ (((↑x : Int) < (↑l.len : Int) → False) → (-1 : Int) = idxZ l s l.len (0 : Nat))) := by intros; kernel_rfl
theorem vc57 : ∀ (nm : List UInt8) (sh a b : Int) (o : D) (x y : Int), symFun (ctx hp1 hpAnn) (4 : Nat) (57 : FuncId) [V.agg [V.str nm, V.int IntKind.u8 sh, V.int IntKind.i64 a, V.int IntKind.i64 b,
 V.dat (37 : TypeId) o, V.int IntKind.i64 x, V.int IntKind.i64 y]] (V.int IntKind.i64 (errZ nm sh a b o x y)) = ((sh = (1 : Int) → True ∧ ((nameP nm → False) → (4 : Int) = errZ nm sh a b o x y) ∧
 (((nameP nm → False) → False) → ((1 : Int) ≤ a → (a ≤ (24 : Int) → ((b = (0 : Int) → False) → (10 : Int) = errZ nm sh a b o x y) ∧ (((b = (0 : Int) → False) → False) → o.len ≤ (100000 : Nat) ∧
 ((risingP o a → False) → (11 : Int) = errZ nm sh a b o x y) ∧ (((risingP o a → False) → False) → ((0 : Int) ≤ x → (((x ≤ (1000 : Int) → False) → False) → ((0 : Int) ≤ y → ((y ≤ (1000 : Int) → False) →
 (2 : Int) = errZ nm sh a b o x y) ∧ (((y ≤ (1000 : Int) → False) → False) → (0 : Int) = errZ nm sh a b o x y)) ∧ (((0 : Int) ≤ y → False) → (2 : Int) = errZ nm sh a b o x y)) ∧ ((x ≤ (1000 : Int) →
 False) → (2 : Int) = errZ nm sh a b o x y)) ∧ (((0 : Int) ≤ x → False) → (2 : Int) = errZ nm sh a b o x y)))) ∧ ((a ≤ (24 : Int) → False) → (10 : Int) = errZ nm sh a b o x y)) ∧ (((1 : Int) ≤ a →
 False) → (10 : Int) = errZ nm sh a b o x y))) ∧ ((sh = (1 : Int) → False) → (sh = (2 : Int) → True ∧ ((nameP nm → False) → (4 : Int) = errZ nm sh a b o x y) ∧ (((nameP nm → False) → False) → ((1 :
 Int) ≤ a → (a ≤ (11 : Int) → ((0 : Int) ≤ b → ((b ≤ (2 : Int) → False) → (10 : Int) = errZ nm sh a b o x y) ∧ (((b ≤ (2 : Int) → False) → False) → ((-9223372036854775808 : Int) ≤ (2 : Int) * a ∧ (2 :
 Int) * a < (9223372036854775808 : Int)) ∧ ((-9223372036854775808 : Int) ≤ (2 : Int) * a + b ∧ (2 : Int) * a + b < (9223372036854775808 : Int)) ∧ o.len ≤ (100000 : Nat) ∧ ((risingP o ((2 : Int) * a +
 b) → False) → (11 : Int) = errZ nm sh a b o x y) ∧ (((risingP o ((2 : Int) * a + b) → False) → False) → ((0 : Int) ≤ x → (((x ≤ (1000 : Int) → False) → False) → ((0 : Int) ≤ y → ((y ≤ (1000 : Int) →
 False) → (2 : Int) = errZ nm sh a b o x y) ∧ (((y ≤ (1000 : Int) → False) → False) → (0 : Int) = errZ nm sh a b o x y)) ∧ (((0 : Int) ≤ y → False) → (2 : Int) = errZ nm sh a b o x y)) ∧ ((x ≤ (1000 :
 Int) → False) → (2 : Int) = errZ nm sh a b o x y)) ∧ (((0 : Int) ≤ x → False) → (2 : Int) = errZ nm sh a b o x y)))) ∧ (((0 : Int) ≤ b → False) → (10 : Int) = errZ nm sh a b o x y)) ∧ ((a ≤ (11 : Int)
 → False) → (10 : Int) = errZ nm sh a b o x y)) ∧ (((1 : Int) ≤ a → False) → (10 : Int) = errZ nm sh a b o x y))) ∧ ((sh = (2 : Int) → False) → (sh = (3 : Int) → True ∧ ((nameP nm → False) → (4 : Int)
 = errZ nm sh a b o x y) ∧ (((nameP nm → False) → False) → ((1 : Int) ≤ a → (a ≤ (8 : Int) → ((1 : Int) ≤ b → ((b ≤ (8 : Int) → False) → (10 : Int) = errZ nm sh a b o x y) ∧ (((b ≤ (8 : Int) → False) →
 False) → ((-9223372036854775808 : Int) ≤ (2 : Int) * b ∧ (2 : Int) * b < (9223372036854775808 : Int)) ∧ ((-9223372036854775808 : Int) ≤ a + (2 : Int) * b ∧ a + (2 : Int) * b < (9223372036854775808 :
 Int)) ∧ o.len ≤ (100000 : Nat) ∧ ((risingP o (a + (2 : Int) * b) → False) → (11 : Int) = errZ nm sh a b o x y) ∧ (((risingP o (a + (2 : Int) * b) → False) → False) → ((0 : Int) ≤ x → (((x ≤ (1000 :
 Int) → False) → False) → ((0 : Int) ≤ y → ((y ≤ (1000 : Int) → False) → (2 : Int) = errZ nm sh a b o x y) ∧ (((y ≤ (1000 : Int) → False) → False) → (0 : Int) = errZ nm sh a b o x y)) ∧ (((0 : Int) ≤ y
 → False) → (2 : Int) = errZ nm sh a b o x y)) ∧ ((x ≤ (1000 : Int) → False) → (2 : Int) = errZ nm sh a b o x y)) ∧ (((0 : Int) ≤ x → False) → (2 : Int) = errZ nm sh a b o x y)))) ∧ (((1 : Int) ≤ b →
 False) → (10 : Int) = errZ nm sh a b o x y)) ∧ ((a ≤ (8 : Int) → False) → (10 : Int) = errZ nm sh a b o x y)) ∧ (((1 : Int) ≤ a → False) → (10 : Int) = errZ nm sh a b o x y))) ∧ ((sh = (3 : Int) →
 False) → (sh = (4 : Int) → True ∧ ((nameP nm → False) → (4 : Int) = errZ nm sh a b o x y) ∧ (((nameP nm → False) → False) → ((1 : Int) ≤ a → (a ≤ (24 : Int) → ((0 : Int) ≤ b → ((b ≤ a → False) → (10 :
 Int) = errZ nm sh a b o x y) ∧ (((b ≤ a → False) → False) → o.len ≤ (100000 : Nat) ∧ ((risingP o a → False) → (11 : Int) = errZ nm sh a b o x y) ∧ (((risingP o a → False) → False) → ((0 : Int) ≤ x →
 (((x ≤ (1000 : Int) → False) → False) → ((0 : Int) ≤ y → ((y ≤ (1000 : Int) → False) → (2 : Int) = errZ nm sh a b o x y) ∧ (((y ≤ (1000 : Int) → False) → False) → (0 : Int) = errZ nm sh a b o x y)) ∧
 (((0 : Int) ≤ y → False) → (2 : Int) = errZ nm sh a b o x y)) ∧ ((x ≤ (1000 : Int) → False) → (2 : Int) = errZ nm sh a b o x y)) ∧ (((0 : Int) ≤ x → False) → (2 : Int) = errZ nm sh a b o x y)))) ∧
 (((0 : Int) ≤ b → False) → (10 : Int) = errZ nm sh a b o x y)) ∧ ((a ≤ (24 : Int) → False) → (10 : Int) = errZ nm sh a b o x y)) ∧ (((1 : Int) ≤ a → False) → (10 : Int) = errZ nm sh a b o x y))) ∧
 ((sh = (4 : Int) → False) → True ∧ ((nameP nm → False) → (4 : Int) = errZ nm sh a b o x y) ∧ (((nameP nm → False) → False) → (10 : Int) = errZ nm sh a b o x y)))))) := by intros; kernel_rfl
theorem vc41 : ∀ (nm : List UInt8) (sh a b : Int) (o : D) (x y : Int), symFun (ctx hp1 (hp41 o (sizeZ sh a b))) (4 : Nat) (41 : FuncId) [V.agg [V.str nm, V.int IntKind.u8 sh, V.int IntKind.i64 a,
 V.int IntKind.i64 b, V.dat (37 : TypeId) o, V.int IntKind.i64 x, V.int IntKind.i64 y]] (V.int IntKind.i64 (errZ nm sh a b o x y)) = (True ∧ True ∧ ((nameP nm → False) → (4 : Int) = errZ nm sh a b o x
 y) ∧ (((nameP nm → False) → False) → (sizeZ sh a b = (0 : Int) → (10 : Int) = errZ nm sh a b o x y) ∧ ((sizeZ sh a b = (0 : Int) → False) → (∃ (x : Nat), (x ≤ o.len ∧ ∀ (i : Nat), i < x → (0 : Int) ≤
 atI o i ∧ atI o i < sizeZ sh a b ∧ ((0 : Nat) < i → atI o (i - (1 : Nat)) < atI o i)) ∧ ((0 : Int) = (↑x : Int) ∧ True) ∧ True) ∧ ∀ (x_1 : Nat), (x_1 ≤ o.len ∧ ∀ (i : Nat), i < x_1 → (0 : Int) ≤ atI o
 i ∧ atI o i < sizeZ sh a b ∧ ((0 : Nat) < i → atI o (i - (1 : Nat)) < atI o i)) → o.len - x_1 < LIM ∧ ((↑x_1 : Int) < (↑o.len : Int) → (0 : Int) ≤ (↑x_1 : Int) ∧ (↑x_1 : Int) < (↑o.len : Int) ∧
 ((-9223372036854775808 : Int) ≤ sizeZ sh a b - (1 : Int) ∧ sizeZ sh a b - (1 : Int) < (9223372036854775808 : Int)) ∧ ((0 : Int) ≤ (el o x_1).asInt → ((((el o x_1).asInt ≤ sizeZ sh a b - (1 : Int) →
 False) → False) → ((0 : Int) < (↑x_1 : Int) → (0 : Int) ≤ (↑x_1 : Int) ∧ (↑x_1 : Int) < (↑o.len : Int) ∧ ((-9223372036854775808 : Int) ≤ (↑x_1 : Int) - (1 : Int) ∧ (↑x_1 : Int) - (1 : Int) <
 (9223372036854775808 : Int)) ∧ (0 : Int) ≤ (↑x_1 : Int) - (1 : Int) ∧ (↑x_1 : Int) - (1 : Int) < (↑o.len : Int) ∧ ((el o x_1).asInt ≤ (el o ((↑x_1 : Int) - (1 : Int)).toNat).asInt → (11 : Int) = errZ
 nm sh a b o x y) ∧ (((el o x_1).asInt ≤ (el o ((↑x_1 : Int) - (1 : Int)).toNat).asInt → False) → ((-9223372036854775808 : Int) ≤ (↑x_1 : Int) + (1 : Int) ∧ (↑x_1 : Int) + (1 : Int) <
 (9223372036854775808 : Int)) ∧ ∃ (y : Nat), (y ≤ o.len ∧ ∀ (i : Nat), i < y → (0 : Int) ≤ atI o i ∧ atI o i < sizeZ sh a b ∧ ((0 : Nat) < i → atI o (i - (1 : Nat)) < atI o i)) ∧ o.len - y < o.len -
 x_1 ∧ ((↑x_1 : Int) + (1 : Int) = (↑y : Int) ∧ True) ∧ True)) ∧ (((0 : Int) < (↑x_1 : Int) → False) → ((-9223372036854775808 : Int) ≤ (↑x_1 : Int) + (1 : Int) ∧ (↑x_1 : Int) + (1 : Int) <
 (9223372036854775808 : Int)) ∧ ∃ (y : Nat), (y ≤ o.len ∧ ∀ (i : Nat), i < y → (0 : Int) ≤ atI o i ∧ atI o i < sizeZ sh a b ∧ ((0 : Nat) < i → atI o (i - (1 : Nat)) < atI o i)) ∧ o.len - y < o.len -
 x_1 ∧ ((↑x_1 : Int) + (1 : Int) = (↑y : Int) ∧ True) ∧ True)) ∧ (((el o x_1).asInt ≤ sizeZ sh a b - (1 : Int) → False) → (11 : Int) = errZ nm sh a b o x y)) ∧ (((0 : Int) ≤ (el o x_1).asInt → False) →
 (11 : Int) = errZ nm sh a b o x y)) ∧ (((↑x_1 : Int) < (↑o.len : Int) → False) → ((0 : Int) ≤ x → (((x ≤ (1000 : Int) → False) → False) → ((0 : Int) ≤ y → ((y ≤ (1000 : Int) → False) → (2 : Int) =
 errZ nm sh a b o x y) ∧ (((y ≤ (1000 : Int) → False) → False) → (0 : Int) = errZ nm sh a b o x y)) ∧ (((0 : Int) ≤ y → False) → (2 : Int) = errZ nm sh a b o x y)) ∧ ((x ≤ (1000 : Int) → False) → (2 :
 Int) = errZ nm sh a b o x y)) ∧ (((0 : Int) ≤ x → False) → (2 : Int) = errZ nm sh a b o x y))))) := by intros; kernel_rfl
theorem vc35 : ∀ (n1 : List UInt8) (s1 a1 b1 : Int) (o1 : D) (x1 y1 : Int) (n2 : List UInt8) (s2 a2 b2 : Int) (o2 : D) (x2 y2 : Int), symFun (ctx hp1 hpAnn) (4 : Nat) (35 : FuncId) [V.agg [V.str n1,
 V.int IntKind.u8 s1, V.int IntKind.i64 a1, V.int IntKind.i64 b1, V.dat (37 : TypeId) o1, V.int IntKind.i64 x1, V.int IntKind.i64 y1], V.agg [V.str n2, V.int IntKind.u8 s2, V.int IntKind.i64 a2, V.int
 IntKind.i64 b2, V.dat (37 : TypeId) o2, V.int IntKind.i64 x2, V.int IntKind.i64 y2]] (V.prop (n1 = n2 ∧ s1 = s2 ∧ a1 = a2 ∧ b1 = b2 ∧ x1 = x2 ∧ y1 = y2 ∧ eqD o1 o2)) = ((n1 = n2 → (s1 = s2 → (a1 = a2
 → (b1 = b2 → (x1 = x2 → (y1 = y2 → o1.len ≤ (100000 : Nat) ∧ ((o1.len = o2.len ∧ ∀ (i : Nat), i < o1.len → atI o1 i = atI o2 i) ↔ n1 = n2 ∧ s1 = s2 ∧ a1 = a2 ∧ b1 = b2 ∧ x1 = x2 ∧ y1 = y2 ∧ o1.len =
 o2.len ∧ ∀ (i : Nat), i < o1.len → atI o1 i = atI o2 i)) ∧ ((y1 = y2 → False) → (false = true ↔ n1 = n2 ∧ s1 = s2 ∧ a1 = a2 ∧ b1 = b2 ∧ x1 = x2 ∧ y1 = y2 ∧ o1.len = o2.len ∧ ∀ (i : Nat), i < o1.len →
 atI o1 i = atI o2 i))) ∧ ((x1 = x2 → False) → (false = true ↔ n1 = n2 ∧ s1 = s2 ∧ a1 = a2 ∧ b1 = b2 ∧ x1 = x2 ∧ y1 = y2 ∧ o1.len = o2.len ∧ ∀ (i : Nat), i < o1.len → atI o1 i = atI o2 i))) ∧ ((b1 = b2
 → False) → (false = true ↔ n1 = n2 ∧ s1 = s2 ∧ a1 = a2 ∧ b1 = b2 ∧ x1 = x2 ∧ y1 = y2 ∧ o1.len = o2.len ∧ ∀ (i : Nat), i < o1.len → atI o1 i = atI o2 i))) ∧ ((a1 = a2 → False) → (false = true ↔ n1 = n2
 ∧ s1 = s2 ∧ a1 = a2 ∧ b1 = b2 ∧ x1 = x2 ∧ y1 = y2 ∧ o1.len = o2.len ∧ ∀ (i : Nat), i < o1.len → atI o1 i = atI o2 i))) ∧ ((s1 = s2 → False) → (false = true ↔ n1 = n2 ∧ s1 = s2 ∧ a1 = a2 ∧ b1 = b2 ∧ x1
 = x2 ∧ y1 = y2 ∧ o1.len = o2.len ∧ ∀ (i : Nat), i < o1.len → atI o1 i = atI o2 i))) ∧ ((n1 = n2 → False) → (false = true ↔ n1 = n2 ∧ s1 = s2 ∧ a1 = a2 ∧ b1 = b2 ∧ x1 = x2 ∧ y1 = y2 ∧ o1.len = o2.len ∧
 ∀ (i : Nat), i < o1.len → atI o1 i = atI o2 i))) := by intros; kernel_rfl
theorem vc10 : ∀ (a b : D), symFun (ctx hp2 hpAnn) (5 : Nat) (10 : FuncId) [V.dat (25 : TypeId) a, V.dat (25 : TypeId) b] (V.prop (sameAll a b)) = ((((↑a.len : Int) = (↑b.len : Int) → False) → (false
 = true ↔ sameAll a b)) ∧ ((((↑a.len : Int) = (↑b.len : Int) → False) → False) → (∃ (x : Nat), (x ≤ a.len ∧ ∀ (i : Nat), i < x → sameT (el a i) (el b i)) ∧ ((0 : Int) = (↑x : Int) ∧ True) ∧ True) ∧ ∀
 (x : Nat), (x ≤ a.len ∧ ∀ (i : Nat), i < x → sameT (el a i) (el b i)) → a.len - x < LIM ∧ ((↑x : Int) < (↑a.len : Int) → (0 : Int) ≤ (↑x : Int) ∧ (↑x : Int) < (↑a.len : Int) ∧ (0 : Int) ≤ (↑x : Int) ∧
 (↑x : Int) < (↑b.len : Int) ∧ (tOpen (el a x)).len ≤ (100000 : Nat) ∧ (((tName (el a x) = tName (el b x) ∧ tShape (el a x) = tShape (el b x) ∧ tA (el a x) = tA (el b x) ∧ tB (el a x) = tB (el b x) ∧
 tX (el a x) = tX (el b x) ∧ tY (el a x) = tY (el b x) ∧ (tOpen (el a x)).len = (tOpen (el b x)).len ∧ ∀ (i : Nat), i < (tOpen (el a x)).len → atI (tOpen (el a x)) i = atI (tOpen (el b x)) i) → False)
 → (false = true ↔ sameAll a b)) ∧ ((((tName (el a x) = tName (el b x) ∧ tShape (el a x) = tShape (el b x) ∧ tA (el a x) = tA (el b x) ∧ tB (el a x) = tB (el b x) ∧ tX (el a x) = tX (el b x) ∧ tY (el a
 x) = tY (el b x) ∧ (tOpen (el a x)).len = (tOpen (el b x)).len ∧ ∀ (i : Nat), i < (tOpen (el a x)).len → atI (tOpen (el a x)) i = atI (tOpen (el b x)) i) → False) → False) → ((-9223372036854775808 :
 Int) ≤ (↑x : Int) + (1 : Int) ∧ (↑x : Int) + (1 : Int) < (9223372036854775808 : Int)) ∧ ∃ (y : Nat), (y ≤ a.len ∧ ∀ (i : Nat), i < y → sameT (el a i) (el b i)) ∧ a.len - y < a.len - x ∧ ((↑x : Int) +
 (1 : Int) = (↑y : Int) ∧ True) ∧ True)) ∧ (((↑x : Int) < (↑a.len : Int) → False) → (true = true ↔ sameAll a b)))) := by intros; kernel_rfl
theorem vc21 : ∀ (p q : D), symFun (ctx (fun _ => none) hpAnn) (3 : Nat) (21 : FuncId) [V.dat (37 : TypeId) p, V.dat (37 : TypeId) q] (V.prop (eqD p q)) = ((((↑p.len : Int) = (↑q.len : Int) → False) →
 (false = true ↔ p.len = q.len ∧ ∀ (i : Nat), i < p.len → atI p i = atI q i)) ∧ ((((↑p.len : Int) = (↑q.len : Int) → False) → False) → (∃ (x : Nat), (x ≤ p.len ∧ ∀ (i : Nat), i < x → atI p i = atI q i)
 ∧ ((0 : Int) = (↑x : Int) ∧ True) ∧ True) ∧ ∀ (x : Nat), (x ≤ p.len ∧ ∀ (i : Nat), i < x → atI p i = atI q i) → p.len - x < LIM ∧ ((↑x : Int) < (↑p.len : Int) → (0 : Int) ≤ (↑x : Int) ∧ (↑x : Int) <
 (↑p.len : Int) ∧ (0 : Int) ≤ (↑x : Int) ∧ (↑x : Int) < (↑q.len : Int) ∧ (((el p x).asInt = (el q x).asInt → False) → (false = true ↔ p.len = q.len ∧ ∀ (i : Nat), i < p.len → atI p i = atI q i)) ∧
 ((((el p x).asInt = (el q x).asInt → False) → False) → ((-9223372036854775808 : Int) ≤ (↑x : Int) + (1 : Int) ∧ (↑x : Int) + (1 : Int) < (9223372036854775808 : Int)) ∧ ∃ (y : Nat), (y ≤ p.len ∧ ∀ (i :
 Nat), i < y → atI p i = atI q i) ∧ p.len - y < p.len - x ∧ ((↑x : Int) + (1 : Int) = (↑y : Int) ∧ True) ∧ True)) ∧ (((↑x : Int) < (↑p.len : Int) → False) → (true = true ↔ p.len = q.len ∧ ∀ (i : Nat),
 i < p.len → atI p i = atI q i)))) := by intros; kernel_rfl
theorem s87 (s : List UInt8) : symFun (ctx (fun _ => none) hpAnn) 3 87 [.str s] (.prop (nameP s)) := by
 rw [vc87]
 simp only [imp_false, Classical.not_not, true_and, and_true]
 have no : ∀ x, x < s.length → ¬ (97 ≤ byteAt s x ∧ byteAt s x ≤ 122) → (false = true ↔ nameP s) := fun x hx hn => ⟨fun h => by simp at h, fun h => absurd (h.out.2.2 x hx) hn⟩
 have bad : ¬ (1 ≤ s.length ∧ s.length ≤ 12) → (false = true ↔ nameP s) := fun hn => ⟨fun h => by simp at h, fun h => absurd ⟨h.out.1, h.out.2.1⟩ hn⟩
 refine ⟨fun h1 => ⟨fun h2 => bad (by omega), fun h2 => ⟨⟨0, ⟨by omega, fun i hi => by omega⟩, rfl⟩, fun x ⟨hx, hinv⟩ => ⟨by unfold LIM; omega, fun hlt => ⟨by omega, by omega, fun h3 => ⟨by omega, by omega, fun h4 => no x (by omega) (by omega), fun h4 => ⟨by omega, x + 1, ⟨by omega, fun i hi => ?_⟩, by omega, by omega⟩⟩, fun h3 => no x (by omega) (by omega)⟩, fun hge => ⟨fun _ => ⟨⟨by omega, by omega, fun i hi => hinv i (by omega)⟩⟩, fun _ => by first | rfl | trivial⟩⟩⟩⟩, fun h1 => bad (by omega)⟩
 by_cases e : i = x
 ·subst e; exact ⟨by omega, by omega⟩
 ·exact hinv i (by omega)
theorem s80 (s : List UInt8) : symFun (ctx (fun _ => none) hpAnn) 3 80 [.str s] (.prop (nameP s)) := by
 rw [vc80]
 simp only [imp_false, Classical.not_not, true_and, and_true]
 have no : ∀ x, x < s.length → ¬ (97 ≤ byteAt s x ∧ byteAt s x ≤ 122) → (false = true ↔ nameP s) := fun x hx hn => ⟨fun h => by simp at h, fun h => absurd (h.out.2.2 x hx) hn⟩
 have bad : ¬ (1 ≤ s.length ∧ s.length ≤ 12) → (false = true ↔ nameP s) := fun hn => ⟨fun h => by simp at h, fun h => absurd ⟨h.out.1, h.out.2.1⟩ hn⟩
 refine ⟨fun h1 => ⟨fun h2 => bad (by omega), fun h2 => ⟨⟨0, ⟨by omega, fun i hi => by omega⟩, rfl⟩, fun x ⟨hx, hinv⟩ => ⟨by unfold LIM; omega, fun hlt => ⟨by omega, by omega, fun h3 => ⟨by omega, by omega, fun h4 => no x (by omega) (by omega), fun h4 => ⟨by omega, x + 1, ⟨by omega, fun i hi => ?_⟩, by omega, by omega⟩⟩, fun h3 => no x (by omega) (by omega)⟩, fun hge => ⟨fun _ => ⟨⟨by omega, by omega, fun i hi => hinv i (by omega)⟩⟩, fun _ => by first | rfl | trivial⟩⟩⟩⟩, fun h1 => bad (by omega)⟩
 by_cases e : i = x
 ·subst e; exact ⟨by omega, by omega⟩
 ·exact hinv i (by omega)
theorem s88 (o : D) (n : Int) (h : o.len ≤ 100000) : symFun (ctx (fun _ => none) hpAnn) 3 88 [.dat 37 o, .int .i64 n] (.prop (risingP o n)) := by
 rw [vc88]
 have e : ∀ i, (el o i).asInt = atI o i := fun _ => rfl
 simp only [imp_false, Classical.not_not, true_and, and_true, e]
 have no : ∀ x, x < o.len → ¬ (0 ≤ atI o x ∧ atI o x < n ∧ (0 < x → atI o (x - 1) < atI o x)) → (false = true ↔ risingP o n) := fun x hx hn => ⟨fun h => by simp at h, fun h => absurd (h.out x hx) hn⟩
 have last : ∀ x, x < o.len → (∀ i, i < x → 0 ≤ atI o i ∧ atI o i < n ∧ (0 < i → atI o (i - 1) < atI o i)) → ((lastZ o x < atI o x) ↔ (0 ≤ atI o x ∧ (0 < x → atI o (x - 1) < atI o x))) := fun x hx hinv => by
  cases x with
  | zero => simp [lastZ]; omega
  | succ x =>
   have := hinv x (by omega)
   simp only [lastZ, Nat.add_sub_cancel]
   constructor
   ·intro h; exact ⟨by omega, fun _ => h⟩
   ·intro h; exact h.2 (by omega)
 refine ⟨⟨0, ⟨by omega, fun i hi => by omega⟩, rfl, rfl⟩, fun x ⟨hx, hinv⟩ => ⟨by unfold LIM; omega, fun hlt => ?_, fun hge => ⟨fun _ => ⟨fun i hi => hinv i (by omega)⟩, fun _ => by first | rfl | trivial⟩⟩⟩
 have hl := last x (by omega) hinv
 refine ⟨by omega, hlt, fun h1 => ⟨fun h2 => no x (by omega) (by omega), fun h2 => ⟨by omega, x + 1, ⟨by omega, fun i hi => ?_⟩, by omega, by omega, rfl⟩⟩, fun h1 => no x (by omega) fun hh => by have := hl.2 ⟨hh.1, hh.2.2⟩; omega⟩
 by_cases e : i = x
 ·subst e; have := hl.1 (by omega); exact ⟨this.1, by omega, this.2⟩
 ·exact hinv i (by omega)
theorem s79 (nm : List UInt8) (sh a b : Int) (o : D) (x y : Int) : symFun (ctx (fun _ => none) hpAnn) 3 79 [.agg [.str nm, .int .u8 sh, .int .i64 a, .int .i64 b, .dat 37 o, .int .i64 x, .int .i64 y]] (.int .i64 (sizeZ sh a b)) := by
 rw [vc79]
 simp only [imp_false, Classical.not_not, true_and, and_true]
 repeat' (first | refine And.intro ?_ ?_ | intro _)
 all_goals (first | omega | ((unfold sizeZ; repeat' split) <;> omega))
theorem idx_step (l : D) (s : List UInt8) (x : Nat) (hx : x < l.len) : idxZ l s (l.len - x) x = if tName (el l x) = s then (x : Int) else idxZ l s (l.len - (x + 1)) (x + 1) := by
 have : l.len - x = (l.len - (x + 1)) + 1 := by omega
 rw [this]; rfl
theorem s74 (l : D) (s : List UInt8) (h : l.len ≤ 100) : symFun (ctx (fun _ => none) hpAnn) 3 74 [.dat 25 l, .str s] (.int .i64 (idxZ l s l.len 0)) := by
 rw [vc74]
 simp only [imp_false, Classical.not_not, true_and, and_true]
 refine ⟨⟨0, ⟨by omega, rfl⟩, rfl⟩, fun x ⟨hx, hinv⟩ => ⟨by unfold LIM; omega, fun hlt => ?_, fun hge => ?_⟩⟩
 ·have hs := idx_step l s x (by omega)
  rw [hinv] at hs
  refine ⟨by omega, hlt, fun h1 => by rw [hs, if_pos h1], fun h1 => ⟨by omega, x + 1, ⟨by omega, ?_⟩, by omega, by omega⟩⟩
  rw [hs, if_neg h1]
 ·have : l.len - x = 0 := by omega
  rw [← hinv, this]; rfl
section
variable {nm : List UInt8} {sh a b : Int} {o : D} {x y : Int}
theorem err_name (h : ¬ nameP nm) : errZ nm sh a b o x y = 4 := by unfold errZ; rw [if_pos h]
theorem err_shape (h : nameP nm) (hs : sizeZ sh a b = 0) : errZ nm sh a b o x y = 10 := by unfold errZ; rw [if_neg (fun hn => hn h), if_pos hs]
theorem err_open {n : Int} (hr : ¬ risingP o n) (h : nameP nm) (hs : sizeZ sh a b = n) (hn : n ≠ 0) : errZ nm sh a b o x y = 11 := by
 subst hs; unfold errZ; rw [if_neg (fun hn => hn h), if_neg hn, if_pos hr]
theorem err_arg {n : Int} (hr : risingP o n) (h : nameP nm) (hs : sizeZ sh a b = n) (hn : n ≠ 0) (hp : ¬ ((0 ≤ x ∧ x ≤ 1000) ∧ 0 ≤ y ∧ y ≤ 1000)) : errZ nm sh a b o x y = 2 := by
 subst hs; unfold errZ placeP; rw [if_neg (fun hn => hn h), if_neg hn, if_neg (fun hn => hn hr), if_pos hp]
theorem err_ok {n : Int} (hr : risingP o n) (h : nameP nm) (hs : sizeZ sh a b = n) (hn : n ≠ 0) (hp : (0 ≤ x ∧ x ≤ 1000) ∧ 0 ≤ y ∧ y ≤ 1000) : errZ nm sh a b o x y = 0 := by
 subst hs; unfold errZ placeP; rw [if_neg (fun hn => hn h), if_neg hn, if_neg (fun hn => hn hr), if_neg (fun hn => hn hp)]
end
theorem s57 (nm : List UInt8) (sh a b : Int) (o : D) (x y : Int) (h : o.len ≤ 100000) : symFun (ctx hp1 hpAnn) 4 57 [.agg [.str nm, .int .u8 sh, .int .i64 a, .int .i64 b, .dat 37 o, .int .i64 x, .int .i64 y]] (.int .i64 (errZ nm sh a b o x y)) := by
 rw [vc57]
 simp only [imp_false, Classical.not_not, true_and, and_true]
 repeat' (first | refine And.intro ?_ ?_ | intro _)
 all_goals (first
  | omega
  | exact (err_name (by assumption)).symm
  | exact (err_shape (by assumption) (by (unfold sizeZ; repeat' split) <;> omega)).symm
  | exact (err_open (by assumption) (by assumption) (by (unfold sizeZ; repeat' split) <;> omega) (by omega)).symm
  | exact (err_ok (by assumption) (by assumption) (by (unfold sizeZ; repeat' split) <;> omega) (by omega) (by omega)).symm
  | exact (err_arg (by assumption) (by assumption) (by (unfold sizeZ; repeat' split) <;> omega) (by omega) (by omega)).symm)
theorem size_lim (sh a b : Int) : 0 ≤ sizeZ sh a b ∧ sizeZ sh a b ≤ 24 := by
 unfold sizeZ
 repeat' split
 all_goals omega
theorem s41 (nm : List UInt8) (sh a b : Int) (o : D) (x y : Int) (h : o.len ≤ 100000) : symFun (ctx hp1 (hp41 o (sizeZ sh a b))) 4 41 [.agg [.str nm, .int .u8 sh, .int .i64 a, .int .i64 b, .dat 37 o, .int .i64 x, .int .i64 y]] (.int .i64 (errZ nm sh a b o x y)) := by
 rw [vc41]
 have hsz := size_lim sh a b
 have e : ∀ i, (el o i).asInt = atI o i := fun _ => rfl
 simp only [imp_false, Classical.not_not, true_and, and_true, e]
 refine ⟨fun hn => (err_name hn).symm, fun hn => ⟨fun hs => (err_shape hn hs).symm, fun hs => ⟨⟨0, ⟨by omega, fun i hi => by omega⟩, rfl⟩, fun k ⟨hk, hinv⟩ => ⟨by unfold LIM; omega, fun hlt => ?_, fun hge => ?_⟩⟩⟩⟩
 ·have no : ¬ (0 ≤ atI o k ∧ atI o k < sizeZ sh a b ∧ (0 < k → atI o (k - 1) < atI o k)) → 11 = errZ nm sh a b o x y := fun hh => (err_open (n := sizeZ sh a b) (fun hr => hh (hr.out k (by omega))) hn rfl hs).symm
  have e2 : ((k : Int) - 1).toNat = k - 1 := by omega
  refine ⟨by omega, hlt, by omega, fun h1 => ⟨fun h2 => ⟨fun h3 => ⟨by omega, by omega, by omega, by omega, by omega, fun h4 => no ?_, fun h4 => ⟨by omega, k + 1, ⟨by omega, fun i hi => ?_⟩, by omega, by omega⟩⟩, fun h3 => ⟨by omega, k + 1, ⟨by omega, fun i hi => ?_⟩, by omega, by omega⟩⟩, fun h2 => no (by omega)⟩, fun h1 => no (by omega)⟩
  ·rw [e2] at h4
   intro hh
   have := hh.2.2 (by omega)
   omega
  ·rw [e2] at h4
   by_cases e : i = k
   ·subst e; exact ⟨h1, by omega, fun _ => by omega⟩
   ·exact hinv i (by omega)
  ·by_cases e : i = k
   ·subst e; exact ⟨h1, by omega, fun _ => by omega⟩
   ·exact hinv i (by omega)
 ·have hr : risingP o (sizeZ sh a b) := ⟨fun i hi => hinv i (by omega)⟩
  repeat' (first | refine And.intro ?_ ?_ | intro _)
  all_goals (first | exact (err_ok hr hn rfl hs (by omega)).symm | exact (err_arg hr hn rfl hs (by omega)).symm)
theorem s35 (n1 : List UInt8) (s1 a1 b1 : Int) (o1 : D) (x1 y1 : Int) (n2 : List UInt8) (s2 a2 b2 : Int) (o2 : D) (x2 y2 : Int) (h : o1.len ≤ 100000) : symFun (ctx hp1 hpAnn) 4 35 [.agg [.str n1, .int .u8 s1, .int .i64 a1, .int .i64 b1, .dat 37 o1, .int .i64 x1, .int .i64 y1], .agg [.str n2, .int .u8 s2, .int .i64 a2, .int .i64 b2, .dat 37 o2, .int .i64 x2, .int .i64 y2]] (.prop (n1 = n2 ∧ s1 = s2 ∧ a1 = a2 ∧ b1 = b2 ∧ x1 = x2 ∧ y1 = y2 ∧ eqD o1 o2)) := by
 rw [vc35]
 repeat' (first | refine And.intro ?_ ?_ | intro _)
 all_goals simp_all
theorem s10 (a b : D) (h : smallD a) : symFun (ctx hp2 hpAnn) 5 10 [.dat 25 a, .dat 25 b] (.prop (sameAll a b)) := by
 have hlen := h.out.1
 rw [vc10]
 simp only [imp_false, Classical.not_not, true_and, and_true]
 refine ⟨fun hne => ⟨fun h => by simp at h, fun h => absurd (by rw [h.out.1]) hne⟩, fun heq => ⟨⟨0, ⟨by omega, fun i hi => by omega⟩, rfl⟩, fun x ⟨hx, hinv⟩ => ⟨by unfold LIM; omega, fun hlt => ⟨by omega, hlt, by omega, by omega, h.out.2 x (by omega), fun hn => ⟨fun h => by simp at h, fun h => absurd (h.out.2 x (by omega)).out hn⟩, fun hs => ⟨by omega, x + 1, ⟨by omega, fun i hi => ?_⟩, by omega, by omega⟩⟩, fun hge => ⟨fun _ => ⟨by omega, fun i hi => hinv i (by omega)⟩, fun _ => by first | rfl | trivial⟩⟩⟩⟩
 by_cases e : i = x
 ·subst e; exact ⟨hs⟩
 ·exact hinv i (by omega)
theorem s21 (p q : D) (h : p.len ≤ 100000) : symFun (ctx (fun _ => none) hpAnn) 3 21 [.dat 37 p, .dat 37 q] (.prop (eqD p q)) := by
 rw [vc21]
 have e : ∀ (d : D) i, (el d i).asInt = atI d i := fun _ _ => rfl
 simp only [imp_false, Classical.not_not, true_and, and_true, e]
 refine ⟨fun hne => ⟨fun h => by simp at h, fun h => absurd (by rw [h.1]) hne⟩, fun heq => ⟨⟨0, ⟨by omega, fun i hi => by omega⟩, rfl⟩, fun x ⟨hx, hinv⟩ => ⟨by unfold LIM; omega, fun hlt => ⟨by omega, hlt, by omega, by omega, fun hn => ⟨fun h => by simp at h, fun h => absurd (h.2 x (by omega)) hn⟩, fun hs => ⟨by omega, x + 1, ⟨by omega, fun i hi => ?_⟩, by omega, by omega⟩⟩, fun hge => ⟨fun _ => ⟨by omega, fun i hi => hinv i (by omega)⟩, fun _ => by first | rfl | trivial⟩⟩⟩⟩
 by_cases e : i = x
 ·subst e; exact hs
 ·exact hinv i (by omega)
end Go.Ev

end

section
open Go.Proofs
namespace Go.Ev
set_option maxRecDepth 100000
set_option maxHeartbeats 4000000
theorem vc31 : ∀ (s : List UInt8), symFun (ctx (fun _ => none) hpAnn) (8 : Nat) (31 : FuncId) [V.str s, V.val (Value.string (ByteArray.mk #[(10 : UInt8)]))] (V.tup [V.str (cutA s), V.str (cutB s),
 V.prop ((0 : Int) ≤ cutI s (10 : UInt8))]) = (([(10 : UInt8)] = s → (0 : Int) ≤ (0 : Int) ∧ (0 : Int) ≤ (0 : Int) ∧ (0 : Int) ≤ (↑s.length : Int) ∧ (0 : Int) ≤ Int.ofNat (1 : Nat) ∧ Int.ofNat (1 :
 Nat) ≤ (↑s.length : Int) ∧ (↑s.length : Int) ≤ (↑s.length : Int) ∧ List.take (Int.toNat (0 : Int) - (0 : Nat)) (List.drop (0 : Nat) s) = cutA s ∧ List.take (s.length - (Int.ofNat (1 : Nat)).toNat)
 (List.drop (Int.ofNat (1 : Nat)).toNat s) = cutB s ∧ (true = true ↔ (0 : Int) ≤ cutI s (10 : UInt8)) ∧ True) ∧ (([(10 : UInt8)] = s → False) → (0 : Int) ≤ (0 : Int) ∧ (0 : Int) < (↑[(10 :
 UInt8)].length : Int) ∧ (0 : Int) ≤ byteAt [(10 : UInt8)] (Int.toNat (0 : Int)) ∧ ((0 : Int) ≤ Lib.indexByte s (UInt8.ofNat (byteAt [(10 : UInt8)] (Int.toNat (0 : Int))).toNat) → (0 : Int) ≤ (0 : Int)
 ∧ (0 : Int) ≤ Lib.indexByte s (UInt8.ofNat (byteAt [(10 : UInt8)] (Int.toNat (0 : Int))).toNat) ∧ Lib.indexByte s (UInt8.ofNat (byteAt [(10 : UInt8)] (Int.toNat (0 : Int))).toNat) ≤ (↑s.length : Int)
 ∧ ((-9223372036854775808 : Int) ≤ Lib.indexByte s (UInt8.ofNat (byteAt [(10 : UInt8)] (Int.toNat (0 : Int))).toNat) + (↑(ByteArray.mk #[(10 : UInt8)]).size : Int) ∧ Lib.indexByte s (UInt8.ofNat
 (byteAt [(10 : UInt8)] (Int.toNat (0 : Int))).toNat) + (↑(ByteArray.mk #[(10 : UInt8)]).size : Int) < (9223372036854775808 : Int)) ∧ (0 : Int) ≤ Lib.indexByte s (UInt8.ofNat (byteAt [(10 : UInt8)]
 (Int.toNat (0 : Int))).toNat) + (↑(ByteArray.mk #[(10 : UInt8)]).size : Int) ∧ Lib.indexByte s (UInt8.ofNat (byteAt [(10 : UInt8)] (Int.toNat (0 : Int))).toNat) + (↑(ByteArray.mk #[(10 : UInt8)]).size
 : Int) ≤ (↑s.length : Int) ∧ (↑s.length : Int) ≤ (↑s.length : Int) ∧ List.take (Lib.indexByte s (UInt8.ofNat (byteAt [(10 : UInt8)] (Int.toNat (0 : Int))).toNat)).toNat (List.drop (0 : Nat) s) = cutA
 s ∧ List.take (s.length - (Lib.indexByte s (UInt8.ofNat (byteAt [(10 : UInt8)] (Int.toNat (0 : Int))).toNat) + (↑(ByteArray.mk #[(10 : UInt8)]).size : Int)).toNat) (List.drop (Lib.indexByte s
 (UInt8.ofNat (byteAt [(10 : UInt8)] (Int.toNat (0 : Int))).toNat) + (↑(ByteArray.mk #[(10 : UInt8)]).size : Int)).toNat s) = cutB s ∧ (true = true ↔ (0 : Int) ≤ cutI s (10 : UInt8)) ∧ True) ∧ (((0 :
 Int) ≤ Lib.indexByte s (UInt8.ofNat (byteAt [(10 : UInt8)] (Int.toNat (0 : Int))).toNat) → False) → s = cutA s ∧ [] = cutB s ∧ (false = true ↔ (0 : Int) ≤ cutI s (10 : UInt8)) ∧ True))) := by intros; kernel_rfl
theorem vc73 : ∀ (s : List UInt8), symFun (ctx (fun _ => none) hpAnn) (8 : Nat) (73 : FuncId) [V.str s] (V.str s) = (((↑s.length : Int) = (0 : Int) → [] = s) ∧ (((↑s.length : Int) = (0 : Int) → False)
 → (0 : Int) ≤ (↑s.length : Int) ∧ (↑s.length : Int) ≤ (↑s.length : Int) ∧ (↑s.length : Int) ≤ (16777216 : Int) ∧ (ctx (fun _ => none) hpAnn).P.types[(5 : Nat)].bytes * s.length ≤ (281474976710656 :
 Nat) ∧ (0 : Nat) + s.length ≤ (List.replicate s.length (D.int (0 : Int))).length ∧ s.length ≤ s.length ∧ (0 : Nat) < s.length ∧ (0 : Int) ≤ (0 : Int) ∧ (0 : Int) < (↑s.length : Int) ∧ (0 : Int) ≤
 (↑s.length : Int) ∧ (0 : Nat) < s.length ∧ s.length ≤ (16777216 : Nat) ∧ (0 : Nat) + Int.toNat (0 : Int) + s.length ≤ (List.take (0 : Nat) (List.replicate s.length (D.int (0 : Int))) ++ strD s ++
 List.drop ((0 : Nat) + s.length) (List.replicate s.length (D.int (0 : Int)))).length ∧ byteL (List.take s.length (List.drop ((0 : Nat) + Int.toNat (0 : Int)) (List.take (0 : Nat) (List.replicate
 s.length (D.int (0 : Int))) ++ strD s ++ List.drop ((0 : Nat) + s.length) (List.replicate s.length (D.int (0 : Int)))))) ∧ bytesD (List.take s.length (List.drop ((0 : Nat) + Int.toNat (0 : Int))
 (List.take (0 : Nat) (List.replicate s.length (D.int (0 : Int))) ++ strD s ++ List.drop ((0 : Nat) + s.length) (List.replicate s.length (D.int (0 : Int)))))) = s)) := by intros; kernel_rfl
theorem vc100 : ∀ (s : List UInt8), symFun (ctx (fun _ => none) hpAnn) (3 : Nat) (100 : FuncId) [V.str s] (V.tup [V.int IntKind.i64 (pI (numP s) (numZ s)), V.prop (numP s)]) = ((((↑s.length : Int) <
 (1 : Int) → False) → (((9 : Int) < (↑s.length : Int) → False) → (0 : Int) ≤ (0 : Int) ∧ (0 : Int) < (↑s.length : Int) ∧ (byteAt s (Int.toNat (0 : Int)) = (48 : Int) → ((1 : Int) < (↑s.length : Int) →
 (0 : Int) = pI (numP s) (numZ s) ∧ (false = true ↔ numP s) ∧ True) ∧ (((1 : Int) < (↑s.length : Int) → False) → (∃ (x : Nat), (x ≤ s.length ∧ ∀ (i : Nat), i < x → (48 : Int) ≤ byteAt s i ∧ byteAt s i
 ≤ (57 : Int)) ∧ ((0 : Int) = (↑x : Int) ∧ (0 : Int) = numV s x ∧ True) ∧ True) ∧ ∀ (x : Nat), (x ≤ s.length ∧ ∀ (i : Nat), i < x → (48 : Int) ≤ byteAt s i ∧ byteAt s i ≤ (57 : Int)) → s.length - x <
 LIM ∧ ((↑x : Int) < (↑s.length : Int) → (0 : Int) ≤ (↑x : Int) ∧ (↑x : Int) < (↑s.length : Int) ∧ ((byteAt s x < (48 : Int) → False) → (0 : Int) ≤ (↑x : Int) ∧ (↑x : Int) < (↑s.length : Int) ∧ ((57 :
 Int) < byteAt s x → (0 : Int) = pI (numP s) (numZ s) ∧ (false = true ↔ numP s) ∧ True) ∧ (((57 : Int) < byteAt s x → False) → ((-9223372036854775808 : Int) ≤ (10 : Int) * numV s x ∧ (10 : Int) * numV
 s x < (9223372036854775808 : Int)) ∧ (0 : Int) ≤ (↑x : Int) ∧ (↑x : Int) < (↑s.length : Int) ∧ ((0 : Int) ≤ byteAt s x - (48 : Int) ∧ byteAt s x - (48 : Int) < (256 : Int)) ∧ ((-9223372036854775808 :
 Int) ≤ (10 : Int) * numV s x + IntKind.i64.wrap (byteAt s x - (48 : Int)) ∧ (10 : Int) * numV s x + IntKind.i64.wrap (byteAt s x - (48 : Int)) < (9223372036854775808 : Int)) ∧ ((-9223372036854775808 :
 Int) ≤ (↑x : Int) + (1 : Int) ∧ (↑x : Int) + (1 : Int) < (9223372036854775808 : Int)) ∧ ∃ (y : Nat), (y ≤ s.length ∧ ∀ (i : Nat), i < y → (48 : Int) ≤ byteAt s i ∧ byteAt s i ≤ (57 : Int)) ∧ s.length
 - y < s.length - x ∧ ((↑x : Int) + (1 : Int) = (↑y : Int) ∧ (10 : Int) * numV s x + IntKind.i64.wrap (byteAt s x - (48 : Int)) = numV s y ∧ True) ∧ True)) ∧ (byteAt s x < (48 : Int) → (0 : Int) = pI
 (numP s) (numZ s) ∧ (false = true ↔ numP s) ∧ True)) ∧ (((↑x : Int) < (↑s.length : Int) → False) → numV s x = pI (numP s) (numZ s) ∧ (true = true ↔ numP s) ∧ True))) ∧ ((byteAt s (Int.toNat (0 : Int))
 = (48 : Int) → False) → (∃ (x : Nat), (x ≤ s.length ∧ ∀ (i : Nat), i < x → (48 : Int) ≤ byteAt s i ∧ byteAt s i ≤ (57 : Int)) ∧ ((0 : Int) = (↑x : Int) ∧ (0 : Int) = numV s x ∧ True) ∧ True) ∧ ∀ (x :
 Nat), (x ≤ s.length ∧ ∀ (i : Nat), i < x → (48 : Int) ≤ byteAt s i ∧ byteAt s i ≤ (57 : Int)) → s.length - x < LIM ∧ ((↑x : Int) < (↑s.length : Int) → (0 : Int) ≤ (↑x : Int) ∧ (↑x : Int) < (↑s.length
 : Int) ∧ ((byteAt s x < (48 : Int) → False) → (0 : Int) ≤ (↑x : Int) ∧ (↑x : Int) < (↑s.length : Int) ∧ ((57 : Int) < byteAt s x → (0 : Int) = pI (numP s) (numZ s) ∧ (false = true ↔ numP s) ∧ True) ∧
 (((57 : Int) < byteAt s x → False) → ((-9223372036854775808 : Int) ≤ (10 : Int) * numV s x ∧ (10 : Int) * numV s x < (9223372036854775808 : Int)) ∧ (0 : Int) ≤ (↑x : Int) ∧ (↑x : Int) < (↑s.length :
 Int) ∧ ((0 : Int) ≤ byteAt s x - (48 : Int) ∧ byteAt s x - (48 : Int) < (256 : Int)) ∧ ((-9223372036854775808 : Int) ≤ (10 : Int) * numV s x + IntKind.i64.wrap (byteAt s x - (48 : Int)) ∧ (10 : Int) *
 numV s x + IntKind.i64.wrap (byteAt s x - (48 : Int)) < (9223372036854775808 : Int)) ∧ ((-9223372036854775808 : Int) ≤ (↑x : Int) + (1 : Int) ∧ (↑x : Int) + (1 : Int) < (9223372036854775808 : Int)) ∧
 ∃ (y : Nat), (y ≤ s.length ∧ ∀ (i : Nat), i < y → (48 : Int) ≤ byteAt s i ∧ byteAt s i ≤ (57 : Int)) ∧ s.length - y < s.length - x ∧ ((↑x : Int) + (1 : Int) = (↑y : Int) ∧ (10 : Int) * numV s x +
 IntKind.i64.wrap (byteAt s x - (48 : Int)) = numV s y ∧ True) ∧ True)) ∧ (byteAt s x < (48 : Int) → (0 : Int) = pI (numP s) (numZ s) ∧ (false = true ↔ numP s) ∧ True)) ∧ (((↑x : Int) < (↑s.length :
 Int) → False) → numV s x = pI (numP s) (numZ s) ∧ (true = true ↔ numP s) ∧ True))) ∧ ((9 : Int) < (↑s.length : Int) → (0 : Int) = pI (numP s) (numZ s) ∧ (false = true ↔ numP s) ∧ True)) ∧ ((↑s.length
 : Int) < (1 : Int) → (0 : Int) = pI (numP s) (numZ s) ∧ (false = true ↔ numP s) ∧ True)) := by intros; kernel_rfl
theorem vc78 : ∀ (s : List UInt8), symFun (ctx (fun _ => none) hpAnn) (3 : Nat) (78 : FuncId) [V.str s] (V.tup [V.int IntKind.i64 (numZ s), V.prop (numP s)]) = ((((↑s.length : Int) < (1 : Int) →
 False) → ((9 : Int) < (↑s.length : Int) → (0 : Int) = numZ s ∧ (false = true ↔ numP s) ∧ True) ∧ (((9 : Int) < (↑s.length : Int) → False) → (∃ (x : Nat), (x ≤ s.length ∧ ∀ (i : Nat), i < x → (48 :
 Int) ≤ byteAt s i ∧ byteAt s i ≤ (57 : Int)) ∧ ((0 : Int) = (↑x : Int) ∧ (0 : Int) = numV s x ∧ True) ∧ True) ∧ ∀ (x : Nat), (x ≤ s.length ∧ ∀ (i : Nat), i < x → (48 : Int) ≤ byteAt s i ∧ byteAt s i ≤
 (57 : Int)) → s.length - x < LIM ∧ ((↑x : Int) < (↑s.length : Int) → (0 : Int) ≤ (↑x : Int) ∧ (↑x : Int) < (↑s.length : Int) ∧ ((byteAt s x < (48 : Int) → False) → (0 : Int) ≤ (↑x : Int) ∧ (↑x : Int)
 < (↑s.length : Int) ∧ ((57 : Int) < byteAt s x → (0 : Int) = numZ s ∧ (false = true ↔ numP s) ∧ True) ∧ (((57 : Int) < byteAt s x → False) → ((-9223372036854775808 : Int) ≤ numV s x * (10 : Int) ∧
 numV s x * (10 : Int) < (9223372036854775808 : Int)) ∧ (0 : Int) ≤ (↑x : Int) ∧ (↑x : Int) < (↑s.length : Int) ∧ ((-9223372036854775808 : Int) ≤ numV s x * (10 : Int) + IntKind.i64.wrap (byteAt s x) ∧
 numV s x * (10 : Int) + IntKind.i64.wrap (byteAt s x) < (9223372036854775808 : Int)) ∧ ((-9223372036854775808 : Int) ≤ numV s x * (10 : Int) + IntKind.i64.wrap (byteAt s x) - (48 : Int) ∧ numV s x *
 (10 : Int) + IntKind.i64.wrap (byteAt s x) - (48 : Int) < (9223372036854775808 : Int)) ∧ ((-9223372036854775808 : Int) ≤ (↑x : Int) + (1 : Int) ∧ (↑x : Int) + (1 : Int) < (9223372036854775808 : Int))
 ∧ ∃ (y : Nat), (y ≤ s.length ∧ ∀ (i : Nat), i < y → (48 : Int) ≤ byteAt s i ∧ byteAt s i ≤ (57 : Int)) ∧ s.length - y < s.length - x ∧ ((↑x : Int) + (1 : Int) = (↑y : Int) ∧ numV s x * (10 : Int) +
 IntKind.i64.wrap (byteAt s x) - (48 : Int) = numV s y ∧ True) ∧ True)) ∧ (byteAt s x < (48 : Int) → (0 : Int) = numZ s ∧ (false = true ↔ numP s) ∧ True)) ∧ (((↑x : Int) < (↑s.length : Int) → False) →
 (((↑s.length : Int) = (1 : Int) → False) → (0 : Int) ≤ (0 : Int) ∧ (0 : Int) < (↑s.length : Int) ∧ numV s x = numZ s ∧ (byteAt s (Int.toNat (0 : Int)) = (48 : Int) → False ↔ numP s) ∧ True) ∧
 ((↑s.length : Int) = (1 : Int) → numV s x = numZ s ∧ (true = true ↔ numP s) ∧ True)))) ∧ ((↑s.length : Int) < (1 : Int) → (0 : Int) = numZ s ∧ (false = true ↔ numP s) ∧ True)) := by intros; kernel_rfl
theorem vc77 : ∀ (k : Int), symFun (ctx (fun _ => none) hpAnn) (3 : Nat) (77 : FuncId) [V.int IntKind.u8 k] (V.str (shapeW k)) = ((k = (1 : Int) → [(114 : UInt8), (111 : UInt8), (117 : UInt8), (110 :
 UInt8), (100 : UInt8)] = shapeW k) ∧ ((k = (1 : Int) → False) → (k = (2 : Int) → [(108 : UInt8), (111 : UInt8), (110 : UInt8), (103 : UInt8)] = shapeW k) ∧ ((k = (2 : Int) → False) → (k = (3 : Int) →
 [(104 : UInt8), (111 : UInt8), (114 : UInt8), (115 : UInt8), (101 : UInt8), (115 : UInt8), (104 : UInt8), (111 : UInt8), (101 : UInt8)] = shapeW k) ∧ ((k = (3 : Int) → False) → [(114 : UInt8), (111 :
 UInt8), (119 : UInt8)] = shapeW k)))) := by intros; kernel_rfl
theorem vc71 : ∀ (w : List UInt8), symFun (ctx (fun _ => none) hpAnn) (5 : Nat) (71 : FuncId) [V.str w] (V.tup [V.int IntKind.u8 (shapeZ w), V.prop (shapeZ w ≠ (0 : Int))]) = (([(114 : UInt8), (111 :
 UInt8), (117 : UInt8), (110 : UInt8), (100 : UInt8)] = w → (1 : Int) = shapeZ w ∧ (true = true ↔ shapeZ w = (0 : Int) → False) ∧ True) ∧ (([(114 : UInt8), (111 : UInt8), (117 : UInt8), (110 : UInt8),
 (100 : UInt8)] = w → False) → ([(108 : UInt8), (111 : UInt8), (110 : UInt8), (103 : UInt8)] = w → Int.ofNat (2 : Nat) = shapeZ w ∧ (true = true ↔ shapeZ w = (0 : Int) → False) ∧ True) ∧ (([(108 :
 UInt8), (111 : UInt8), (110 : UInt8), (103 : UInt8)] = w → False) → ([(104 : UInt8), (111 : UInt8), (114 : UInt8), (115 : UInt8), (101 : UInt8), (115 : UInt8), (104 : UInt8), (111 : UInt8), (101 :
 UInt8)] = w → Int.ofNat (3 : Nat) = shapeZ w ∧ (true = true ↔ shapeZ w = (0 : Int) → False) ∧ True) ∧ (([(104 : UInt8), (111 : UInt8), (114 : UInt8), (115 : UInt8), (101 : UInt8), (115 : UInt8), (104
 : UInt8), (111 : UInt8), (101 : UInt8)] = w → False) → ([(114 : UInt8), (111 : UInt8), (119 : UInt8)] = w → Int.ofNat (4 : Nat) = shapeZ w ∧ (true = true ↔ shapeZ w = (0 : Int) → False) ∧ True) ∧
 (([(114 : UInt8), (111 : UInt8), (119 : UInt8)] = w → False) → (0 : Int) = shapeZ w ∧ (false = true ↔ shapeZ w = (0 : Int) → False) ∧ True))))) := by intros; kernel_rfl
theorem vc72 : ∀ (l : D), symFun (ctx hp1 hpAnn) (4 : Nat) (72 : FuncId) [V.dat (82 : TypeId) l] (V.tup [V.dat (37 : TypeId) (pD (numsP l) (D.list (List.map (fun (d : D) => D.int (numZ d.asStr))
 l.asList))), V.prop (numsP l)]) = ((0 : Int) ≤ (↑l.len : Int) ∧ (↑l.len : Int) ≤ (↑l.len : Int) ∧ (↑l.len : Int) ≤ (16777216 : Int) ∧ (ctx hp1 hpAnn).P.types[(3 : Nat)].bytes * l.len ≤
 (281474976710656 : Nat) ∧ (∃ (x : Nat), (x ≤ l.len ∧ ∀ (i : Nat), i < x → numP (sAt l i)) ∧ ((0 : Int) = (↑x : Int) ∧ True) ∧ List.replicate l.len (D.int (0 : Int)) = List.map (fun (d : D) => D.int
 (numZ d.asStr)) (List.take x l.asList) ++ List.replicate (l.len - x) (D.int (0 : Int)) ∧ True) ∧ ∀ (x : Nat), (x ≤ l.len ∧ ∀ (i : Nat), i < x → numP (sAt l i)) → l.len - x < LIM ∧ ((↑x : Int) <
 (↑l.len : Int) → (0 : Int) ≤ (↑x : Int) ∧ (↑x : Int) < (↑l.len : Int) ∧ True ∧ ((numP (el l x).asStr → False) → D.nil = pD (numsP l) (D.list (List.map (fun (d : D) => D.int (numZ d.asStr)) l.asList))
 ∧ (false = true ↔ numsP l) ∧ True) ∧ (((numP (el l x).asStr → False) → False) → (0 : Int) ≤ (↑x : Int) ∧ (↑x : Int) < (↑l.len : Int) ∧ x < (List.map (fun (d : D) => D.int (numZ d.asStr)) (List.take x
 l.asList) ++ List.replicate (l.len - x) (D.int (0 : Int))).length ∧ ((-9223372036854775808 : Int) ≤ (↑x : Int) + (1 : Int) ∧ (↑x : Int) + (1 : Int) < (9223372036854775808 : Int)) ∧ ∃ (y : Nat), (y ≤
 l.len ∧ ∀ (i : Nat), i < y → numP (sAt l i)) ∧ l.len - y < l.len - x ∧ ((↑x : Int) + (1 : Int) = (↑y : Int) ∧ True) ∧ (List.map (fun (d : D) => D.int (numZ d.asStr)) (List.take x l.asList) ++
 List.replicate (l.len - x) (D.int (0 : Int))).set x (D.int (pI (numP (el l x).asStr) (numZ (el l x).asStr))) = List.map (fun (d : D) => D.int (numZ d.asStr)) (List.take y l.asList) ++ List.replicate
 (l.len - y) (D.int (0 : Int)) ∧ True)) ∧ (((↑x : Int) < (↑l.len : Int) → False) → ((0 : Nat) + l.len ≤ (List.map (fun (d : D) => D.int (numZ d.asStr)) (List.take x l.asList) ++ List.replicate (l.len -
 x) (D.int (0 : Int))).length ∧ D.list (List.take l.len (List.map (fun (d : D) => D.int (numZ d.asStr)) (List.take x l.asList) ++ List.replicate (l.len - x) (D.int (0 : Int)))) = pD (numsP l) (D.list
 (List.map (fun (d : D) => D.int (numZ d.asStr)) l.asList))) ∧ (true = true ↔ numsP l) ∧ True)) := by intros; kernel_rfl
theorem bz10 : UInt8.ofNat (byteAt [(10 : UInt8)] (Int.toNat (0 : Int))).toNat = 10 := by decide
theorem bz32 : UInt8.ofNat (byteAt [(32 : UInt8)] (Int.toNat (0 : Int))).toNat = 32 := by decide
theorem fcut (s : List UInt8) (c : UInt8) : Lib.indexByte s c = cutI s c := rfl
theorem take_all {α : Type} (l : List α) (n : Nat) (h : l.length ≤ n) : l.take n = l := List.take_of_length_le h
theorem s31 (s : List UInt8) (hs : s.length ≤ 100000) : symFun (ctx (fun _ => none) hpAnn) 8 31 [.str s, .val (.string ⟨#[10]⟩)] (.tup [.str (cutA s), .str (cutB s), .prop (0 ≤ cutI s 10)]) := by
 rw [vc31]
 have ez : (({ data := #[(10 : UInt8)] } : ByteArray).size : Int) = 1 := rfl
 simp only [imp_false, bz10, ez, fcut]
 have hc := cut_cases s 10
 refine ⟨fun h => ?_, fun _ => ⟨by omega, by decide, by decide, fun h0 => ?_, fun h0 => ?_⟩⟩
 ·subst h; exact ⟨by decide, by decide, by decide, by decide, by decide, by decide, by decide, by decide, ⟨fun _ => by decide, fun _ => by first | rfl | trivial⟩, trivial⟩
 ·refine ⟨by omega, h0, by omega, ⟨by omega, by omega⟩, by omega, by omega, by omega, ?_, ?_, ⟨fun _ => h0, fun _ => by first | rfl | trivial⟩, trivial⟩
  ·unfold cutA; rw [if_pos h0]; rfl
  ·unfold cutB; rw [if_pos h0, show (cutI s 10 + 1).toNat = (cutI s 10).toNat + 1 by omega]; exact take_all _ _ (by rw [List.length_drop]; omega)
 ·refine ⟨?_, ?_, ⟨fun h => by simp at h, fun h => absurd h h0⟩, trivial⟩
  ·unfold cutA; rw [if_neg h0]
  ·unfold cutB; rw [if_neg h0]
theorem strD_len (a : List UInt8) : (strD a).length = a.length := List.length_map _
theorem bytesD_strD : ∀ s : List UInt8, bytesD (strD s) = s
 | [] => rfl
 | b :: s => by
  have := bytesD_strD s
  unfold bytesD strD at this ⊢
  rw [List.map_cons, List.map_cons, this]
  congr 1
  show UInt8.ofNat (Int.toNat (b.toNat : Int)) = b
  rw [Int.toNat_natCast, UInt8.ofNat_toNat]
theorem byteL_strD (s : List UInt8) : byteL (strD s) := ⟨fun d hd => by
 obtain ⟨b, _, rfl⟩ := List.mem_map.1 hd
 exact ⟨b.toNat, b.toNat_lt, rfl⟩⟩
theorem s73 (s : List UInt8) (hs : s.length ≤ 100000) : symFun (ctx (fun _ => none) hpAnn) 8 73 [.str s] (.str s) := by
 rw [vc73]
 have e1 : (ctx (fun _ => none) hpAnn).P.types[(5 : Nat)].bytes = 1 := rfl
 have e2 : List.take (0 : Nat) (List.replicate s.length (D.int 0)) ++ strD s ++ List.drop (0 + s.length) (List.replicate s.length (D.int 0)) = strD s := by
  rw [List.drop_of_length_le (by rw [List.length_replicate]; omega), List.append_nil]; rfl
 have e3 : List.take s.length (List.drop (0 + Int.toNat 0) (strD s)) = strD s := take_all _ _ (by rw [show (0 + Int.toNat 0) = 0 from rfl, List.drop_zero, strD_len]; omega)
 rw [e1, e2, e3]
 refine ⟨fun h => (List.eq_nil_of_length_eq_zero (by omega)).symm, fun h => ?_⟩
 have h : ¬ (s.length : Int) = 0 := h
 refine ⟨by omega, by omega, by omega, by omega, by rw [List.length_replicate]; omega, by omega, by omega, by omega, by omega, by omega, by omega, by omega, ?_, byteL_strD s, bytesD_strD s⟩
 rw [strD_len, show Int.toNat 0 = 0 from rfl]; omega
theorem byte_lt (s : List UInt8) (i : Nat) : 0 ≤ byteAt s i ∧ byteAt s i < 256 := by
 unfold byteAt
 have := ((s[i]?).getD 0).toNat_lt
 omega
theorem numV_lt (s : List UInt8) : ∀ n, (∀ i, i < n → 48 ≤ byteAt s i ∧ byteAt s i ≤ 57) → 0 ≤ numV s n ∧ numV s n < ((10 ^ n : Nat) : Int)
 | 0, _ => by unfold numV; omega
 | n + 1, h => by
  have ih := numV_lt s n fun i hi => h i (by omega)
  have hb := h n (by omega)
  unfold numV
  rw [Nat.pow_succ]; omega
theorem numV_b (s : List UInt8) (n : Nat) (h9 : n ≤ 9) (h : ∀ i, i < n → 48 ≤ byteAt s i ∧ byteAt s i ≤ 57) : 0 ≤ numV s n ∧ numV s n < 1000000000 := by
 have h1 := numV_lt s n h
 have h2 : 10 ^ n ≤ 10 ^ 9 := Nat.pow_le_pow_right (by omega) h9
 have h3 : (10 : Nat) ^ 9 = 1000000000 := by decide
 omega
theorem wrapB (s : List UInt8) (i : Nat) : IntKind.i64.wrap (byteAt s i) = byteAt s i := IntWalk.i64_in _ ⟨by have := byte_lt s i; omega, by have := byte_lt s i; omega⟩
theorem digs_of {s : List UInt8} (h1 : 1 ≤ s.length) (h2 : s.length ≤ 9) {x : Nat} (hx : ¬ (x : Int) < s.length) (h : ∀ i, i < x → 48 ≤ byteAt s i ∧ byteAt s i ≤ 57) : digsP s := ⟨h1, h2, fun i hi => h i (by omega)⟩
theorem numZ_yes {s : List UInt8} (h : digsP s) : numZ s = numV s s.length := by unfold numZ; rw [if_pos h]
theorem numZ_no {s : List UInt8} (h : ¬ digsP s) : 0 = numZ s := by unfold numZ; rw [if_neg h]
theorem num_digs {s : List UInt8} (h : numP s) : digsP s := ⟨h.out.1, h.out.2.1, h.out.2.2.2⟩
theorem pI_no {p : Prop} (n : Int) (h : ¬ p) : 0 = pI p n := by unfold pI; rw [if_neg h]
theorem pI_yes {p : Prop} (n : Int) (h : p) : pI p n = n := by unfold pI; rw [if_pos h]
theorem pD_yes {p : Prop} (d : D) (h : p) : pD p d = d := by unfold pD; rw [if_pos h]
theorem pD_no {p : Prop} (d : D) (h : ¬ p) : D.nil = pD p d := by unfold pD; rw [if_neg h]
theorem s78 (s : List UInt8) : symFun (ctx (fun _ => none) hpAnn) 3 78 [.str s] (.tup [.int .i64 (numZ s), .prop (numP s)]) := by
 rw [vc78]
 simp only [imp_false, Classical.not_not, true_and, and_true, wrapB]
 have no : ¬ digsP s → 0 = numZ s ∧ (false = true ↔ numP s) := fun hn => ⟨numZ_no hn, fun h => by simp at h, fun h => absurd (num_digs h) hn⟩
 refine ⟨fun h1 => ⟨fun h2 => no fun h => by have := h.out.2.1; omega, fun h2 => ⟨⟨0, ⟨by omega, fun i hi => by omega⟩, rfl, rfl⟩, fun x ⟨hx, hinv⟩ => ⟨by unfold LIM; omega, fun hlt => ⟨by omega, hlt, fun h3 => ⟨by omega, hlt, fun h4 => no fun h => by have := h.out.2.2 x (by omega); omega, fun h4 => ?_⟩, fun h3 => no fun h => by have := h.out.2.2 x (by omega); omega⟩, fun hge => ?_⟩⟩⟩, fun h1 => no fun h => by have := h.out.1; omega⟩
 ·have hb := numV_b s x (by omega) hinv
  have hz := byte_lt s x
  refine ⟨⟨by omega, by omega⟩, by omega, hlt, ⟨by omega, by omega⟩, ⟨by omega, by omega⟩, ⟨by omega, by omega⟩, x + 1, ⟨by omega, fun i hi => ?_⟩, by omega, by omega, ?_⟩
  ·by_cases e : i = x
   ·subst e; exact ⟨by omega, by omega⟩
   ·exact hinv i (by omega)
  ·show _ = 10 * numV s x + (byteAt s x - 48); omega
 ·have hd := digs_of (by omega) (by omega) hge hinv
  have ex : x = s.length := by omega
  rw [ex, numZ_yes hd]
  refine ⟨fun hl => ⟨by omega, by omega, rfl, fun hb => ⟨hd.out.1, hd.out.2.1, fun _ => hb, hd.out.2.2⟩, fun h => h.out.2.2.1 (by omega)⟩, fun hl => ⟨rfl, fun _ => ⟨hd.out.1, hd.out.2.1, fun h => by omega, hd.out.2.2⟩, fun _ => trivial⟩⟩
theorem s100_in (s : List UInt8) (hl : 1 ≤ s.length ∧ s.length ≤ 9) (hz : 1 < s.length → byteAt s 0 ≠ 48) :
  (∃ (x : Nat), (x ≤ s.length ∧ ∀ (i : Nat), i < x → 48 ≤ byteAt s i ∧ byteAt s i ≤ 57) ∧ (0 : Int) = x ∧ 0 = numV s x) ∧
  ∀ (x : Nat), (x ≤ s.length ∧ ∀ (i : Nat), i < x → 48 ≤ byteAt s i ∧ byteAt s i ≤ 57) → s.length - x < LIM ∧
   ((x : Int) < s.length → (0 : Int) ≤ x ∧ (x : Int) < s.length ∧ (¬ byteAt s x < 48 → (0 : Int) ≤ x ∧ (x : Int) < s.length ∧
    (57 < byteAt s x → 0 = pI (numP s) (numZ s) ∧ (false = true ↔ numP s)) ∧
    (¬ 57 < byteAt s x → (-9223372036854775808 ≤ 10 * numV s x ∧ 10 * numV s x < 9223372036854775808) ∧ (0 : Int) ≤ x ∧ (x : Int) < s.length ∧ (0 ≤ byteAt s x - 48 ∧ byteAt s x - 48 < 256) ∧
     (-9223372036854775808 ≤ 10 * numV s x + IntKind.i64.wrap (byteAt s x - 48) ∧ 10 * numV s x + IntKind.i64.wrap (byteAt s x - 48) < 9223372036854775808) ∧ (-9223372036854775808 ≤ (x : Int) + 1 ∧ (x : Int) + 1 < 9223372036854775808) ∧
     ∃ (y : Nat), (y ≤ s.length ∧ ∀ (i : Nat), i < y → 48 ≤ byteAt s i ∧ byteAt s i ≤ 57) ∧ s.length - y < s.length - x ∧ (x : Int) + 1 = y ∧ 10 * numV s x + IntKind.i64.wrap (byteAt s x - 48) = numV s y)) ∧
    (byteAt s x < 48 → 0 = pI (numP s) (numZ s) ∧ (false = true ↔ numP s))) ∧
   (¬ (x : Int) < s.length → numV s x = pI (numP s) (numZ s) ∧ (True ↔ numP s)) := by
 have no : ¬ digsP s → 0 = pI (numP s) (numZ s) ∧ (false = true ↔ numP s) := fun hn => ⟨pI_no _ fun h => hn (num_digs h), fun h => by simp at h, fun h => absurd (num_digs h) hn⟩
 refine ⟨⟨0, ⟨by omega, fun i hi => by omega⟩, rfl, rfl⟩, fun x ⟨hx, hinv⟩ => ⟨by unfold LIM; omega, fun hlt => ⟨by omega, hlt, fun h3 => ⟨by omega, hlt, fun h4 => no fun h => by have := h.out.2.2 x (by omega); omega, fun h4 => ?_⟩, fun h3 => no fun h => by have := h.out.2.2 x (by omega); omega⟩, fun hge => ?_⟩⟩
 ·have hb := numV_b s x (by omega) hinv
  have hw : IntKind.i64.wrap (byteAt s x - 48) = byteAt s x - 48 := IntWalk.i64_in _ ⟨by omega, by omega⟩
  rw [hw]
  refine ⟨⟨by omega, by omega⟩, by omega, hlt, ⟨by omega, by omega⟩, ⟨by omega, by omega⟩, ⟨by omega, by omega⟩, x + 1, ⟨by omega, fun i hi => ?_⟩, by omega, by omega, rfl⟩
  by_cases e : i = x
  ·subst e; exact ⟨by omega, by omega⟩
  ·exact hinv i (by omega)
 ·have hd := digs_of (by omega) (by omega) hge hinv
  have ex : x = s.length := by omega
  have hp : numP s := ⟨hd.out.1, hd.out.2.1, hz, hd.out.2.2⟩
  rw [ex, pI_yes _ hp, numZ_yes hd]
  exact ⟨rfl, fun _ => hp, fun _ => trivial⟩
theorem s100 (s : List UInt8) : symFun (ctx (fun _ => none) hpAnn) 3 100 [.str s] (.tup [.int .i64 (pI (numP s) (numZ s)), .prop (numP s)]) := by
 rw [vc100]
 simp only [imp_false, Classical.not_not, true_and, and_true]
 have no : ¬ numP s → 0 = pI (numP s) (numZ s) ∧ (false = true ↔ numP s) := fun hn => ⟨pI_no _ hn, fun h => by simp at h, fun h => absurd h hn⟩
 have e0 : byteAt s (Int.toNat 0) = byteAt s 0 := rfl
 rw [e0]
 refine ⟨fun h1 => ⟨fun h2 => ⟨by omega, by omega, fun h3 => ⟨fun h4 => no fun h => h.out.2.2.1 (by omega) h3, fun h4 => s100_in s (by omega) (fun h => by omega)⟩, fun h3 => s100_in s (by omega) fun _ => h3⟩, fun h2 => no fun h => by have := h.out.2.1; omega⟩, fun h1 => no fun h => by have := h.out.1; omega⟩
theorem s77 (k : Int) : symFun (ctx (fun _ => none) hpAnn) 3 77 [.int .u8 k] (.str (shapeW k)) := by
 rw [vc77]
 simp only [imp_false]
 unfold shapeW
 refine ⟨fun h => by rw [if_pos h]; rfl, fun h => ⟨fun h2 => by rw [if_neg h, if_pos h2]; rfl, fun h2 => ⟨fun h3 => by rw [if_neg h, if_neg h2, if_pos h3]; rfl, fun h3 => by rw [if_neg h, if_neg h2, if_neg h3]; rfl⟩⟩⟩
theorem s71 (w : List UInt8) : symFun (ctx (fun _ => none) hpAnn) 5 71 [.str w] (.tup [.int .u8 (shapeZ w), .prop (shapeZ w ≠ 0)]) := by
 rw [vc71]
 simp only [imp_false]
 have q : ∀ l : List UInt8, (¬ l = w) → ¬ w = l := fun l h e => h e.symm
 refine ⟨fun h => ?_, fun h1 => ⟨fun h => ?_, fun h2 => ⟨fun h => ?_, fun h3 => ⟨fun h => ?_, fun h4 => ?_⟩⟩⟩⟩
 ·subst h; exact ⟨by decide, ⟨fun _ => by decide, fun _ => by first | rfl | trivial⟩, trivial⟩
 ·subst h; exact ⟨by decide, ⟨fun _ => by decide, fun _ => by first | rfl | trivial⟩, trivial⟩
 ·subst h; exact ⟨by decide, ⟨fun _ => by decide, fun _ => by first | rfl | trivial⟩, trivial⟩
 ·subst h; exact ⟨by decide, ⟨fun _ => by decide, fun _ => by first | rfl | trivial⟩, trivial⟩
 ·have e : shapeZ w = 0 := by unfold shapeZ; rw [if_neg (q w1B h1), if_neg (q w2B h2), if_neg (q w3B h3), if_neg (q w4B h4)]
  rw [e]; exact ⟨rfl, ⟨fun h => by simp at h, fun h => absurd rfl h⟩, trivial⟩
theorem numsP_z (l : D) (x : Nat) : (el l x).asStr = sAt l x := rfl
theorem map_set {α : Type} (f : D → α) (l : List D) (x : Nat) (hx : x < l.length) (z w : α) (hw : w = f (nthD l x)) : ((l.take x).map f ++ List.replicate (l.length - x) z).set x w = (l.take (x + 1)).map f ++ List.replicate (l.length - (x + 1)) z := by
 have e1 : ((l.take x).map f).length = x := by rw [List.length_map, List.length_take]; omega
 rw [List.set_append_right _ _ (by omega), e1, Nat.sub_self, show l.length - x = (l.length - (x + 1)) + 1 by omega, List.replicate_succ, List.set_cons_zero, List.take_succ_eq_append_getElem hx, List.map_append, List.append_assoc]
 congr 1
 rw [hw]
 show f (nthD l x) :: _ = f l[x] :: _
 congr 2
 unfold nthD
 simp [hx]
theorem s72 (l : D) (hl : l.len ≤ 100000) : symFun (ctx hp1 hpAnn) 4 72 [.dat 82 l] (.tup [.dat 37 (pD (numsP l) (.list (l.asList.map fun d => .int (numZ d.asStr)))), .prop (numsP l)]) := by
 rw [vc72]
 have e1 : (ctx hp1 hpAnn).P.types[(3 : Nat)].bytes = 8 := rfl
 have el' : l.asList.length = l.len := rfl
 simp only [imp_false, Classical.not_not, true_and, and_true, e1, numsP_z]
 refine ⟨by omega, by omega, by omega, by omega, ⟨0, ⟨by omega, fun i hi => by omega⟩, rfl, by rw [List.take_zero]; rfl⟩, fun x ⟨hx, hinv⟩ => ⟨by unfold LIM; omega, fun hlt => ⟨by omega, hlt, fun hn => ⟨pD_no _ fun h => hn (h.out x (by omega)), fun h => by simp at h, fun h => absurd (h.out x (by omega)) hn⟩, fun hp => ⟨by omega, hlt, ?_, ⟨by omega, by omega⟩, x + 1, ⟨by omega, fun i hi => ?_⟩, by omega, by omega, ?_⟩⟩, fun hge => ?_⟩⟩
 ·rw [List.length_append, List.length_map, List.length_take, List.length_replicate]; omega
 ·by_cases e : i = x
  ·subst e; exact hp
  ·exact hinv i (by omega)
 ·rw [← el']; exact map_set (fun d : D => D.int (numZ d.asStr)) l.asList x (by omega) _ _ (by rw [pI_yes _ hp]; rfl)
 ·have ex : x = l.len := by omega
  have hp : numsP l := ⟨fun i hi => hinv i (by omega)⟩
  rw [pD_yes _ hp, ex, Nat.sub_self, ← el', List.take_length, List.replicate_zero, List.append_nil]
  refine ⟨⟨by rw [List.length_map]; omega, by rw [take_all _ _ (by rw [List.length_map]; omega)]⟩, fun _ => hp, fun _ => trivial⟩
end Go.Ev

end
