/-
  Part of the engine that the claim is proved with: it states nothing of the document by itself.
-/
import Derived.Test.YtfplgbngodmbiaaGreatDoorCoreG24

open Go.Proofs
namespace Go.Ev
set_option maxRecDepth 100000
theorem vc126 : ∀ (s : List UInt8),
 symFun (ctx (fun (x : FuncId) => none) chkAnn) (3 : Nat) (126 : FuncId) [V.str s] (V.prop (nameP s)) =
 ((((↑s.length : Int) < (1 : Int) → False) →
 ((12 : Int) < (↑s.length : Int) → (false = true ↔ nameP s)) ∧
 (((12 : Int) < (↑s.length : Int) → False) →
 (∃ (x : Nat), (x ≤ s.length ∧ ∀ (i : Nat), i < x → (97 : Int) ≤ byteAt s i ∧ byteAt s i ≤ (122 : Int)) ∧ ((0 : Int) = (↑x : Int) ∧ True) ∧ True) ∧
 ∀ (x : Nat),
 (x ≤ s.length ∧ ∀ (i : Nat), i < x → (97 : Int) ≤ byteAt s i ∧ byteAt s i ≤ (122 : Int)) →
 s.length - x < LIM ∧
 ((↑x : Int) < (↑s.length : Int) →
 (0 : Int) ≤ (↑x : Int) ∧
 (↑x : Int) < (↑s.length : Int) ∧
 ((byteAt s x < (97 : Int) → False) →
 (0 : Int) ≤ (↑x : Int) ∧
 (↑x : Int) < (↑s.length : Int) ∧
 ((122 : Int) < byteAt s x → (false = true ↔ nameP s)) ∧
 (((122 : Int) < byteAt s x → False) →
 ((-9223372036854775808 : Int) ≤ (↑x : Int) + (1 : Int) ∧ (↑x : Int) + (1 : Int) < (9223372036854775808 : Int)) ∧
 ∃ (y : Nat),
 (y ≤ s.length ∧ ∀ (i : Nat), i < y → (97 : Int) ≤ byteAt s i ∧ byteAt s i ≤ (122 : Int)) ∧
 s.length - y < s.length - x ∧ ((↑x : Int) + (1 : Int) = (↑y : Int) ∧ True) ∧ True)) ∧
 (byteAt s x < (97 : Int) → (false = true ↔ nameP s))) ∧
 (((↑x : Int) < (↑s.length : Int) → False) → (true = true ↔ nameP s)))) ∧
 ((↑s.length : Int) < (1 : Int) → (false = true ↔ nameP s))) := by intros; kernel_rfl
theorem vc130 : ∀ (s : List UInt8),
 symFun (ctx (fun (x : FuncId) => none) chkAnn) (3 : Nat) (130 : FuncId) [V.str s] (V.prop (nameP s)) =
 ((((↑s.length : Int) = (0 : Int) → False) →
 ((12 : Int) < (↑s.length : Int) → (false = true ↔ nameP s)) ∧
 (((12 : Int) < (↑s.length : Int) → False) →
 (∃ (x : Nat), (x ≤ s.length ∧ ∀ (i : Nat), i < x → (97 : Int) ≤ byteAt s i ∧ byteAt s i ≤ (122 : Int)) ∧ ((0 : Int) = (↑x : Int) ∧ True) ∧ True) ∧
 ∀ (x : Nat),
 (x ≤ s.length ∧ ∀ (i : Nat), i < x → (97 : Int) ≤ byteAt s i ∧ byteAt s i ≤ (122 : Int)) →
 s.length - x < LIM ∧
 ((↑x : Int) < (↑s.length : Int) →
 (0 : Int) ≤ (↑x : Int) ∧
 (↑x : Int) < (↑s.length : Int) ∧
 ((byteAt s x < (97 : Int) → False) →
 (0 : Int) ≤ (↑x : Int) ∧
 (↑x : Int) < (↑s.length : Int) ∧
 ((122 : Int) < byteAt s x → (false = true ↔ nameP s)) ∧
 (((122 : Int) < byteAt s x → False) →
 ((-9223372036854775808 : Int) ≤ (↑x : Int) + (1 : Int) ∧ (↑x : Int) + (1 : Int) < (9223372036854775808 : Int)) ∧
 ∃ (y : Nat),
 (y ≤ s.length ∧ ∀ (i : Nat), i < y → (97 : Int) ≤ byteAt s i ∧ byteAt s i ≤ (122 : Int)) ∧
 s.length - y < s.length - x ∧ ((↑x : Int) + (1 : Int) = (↑y : Int) ∧ True) ∧ True)) ∧
 (byteAt s x < (97 : Int) → (false = true ↔ nameP s))) ∧
 (((↑x : Int) < (↑s.length : Int) → False) → (true = true ↔ nameP s)))) ∧
 ((↑s.length : Int) = (0 : Int) → (false = true ↔ nameP s))) := by intros; kernel_rfl
theorem vc127 : ∀ (o : D) (n : Int),
 symFun (ctx (fun (x : FuncId) => none) chkAnn) (3 : Nat) (127 : FuncId) [V.dat (29 : TypeId) o, V.int IntKind.i64 n] (V.prop (risingP o n)) =
 ((∃ (x : Nat),
 (x ≤ o.len ∧ ∀ (i : Nat), i < x → (0 : Int) ≤ atI o i ∧ atI o i < n ∧ ((0 : Nat) < i → atI o (i - (1 : Nat)) < atI o i)) ∧
 ((0 : Int) = (↑x : Int) ∧ (-1 : Int) = lastZ o x ∧ True) ∧ True) ∧
 ∀ (x : Nat),
 (x ≤ o.len ∧ ∀ (i : Nat), i < x → (0 : Int) ≤ atI o i ∧ atI o i < n ∧ ((0 : Nat) < i → atI o (i - (1 : Nat)) < atI o i)) →
 o.len - x < LIM ∧
 ((↑x : Int) < (↑o.len : Int) →
 (0 : Int) ≤ (↑x : Int) ∧
 (↑x : Int) < (↑o.len : Int) ∧
 (((el o x).asInt ≤ lastZ o x → False) →
 (n ≤ (el o x).asInt → (false = true ↔ risingP o n)) ∧
 ((n ≤ (el o x).asInt → False) →
 ((-9223372036854775808 : Int) ≤ (↑x : Int) + (1 : Int) ∧ (↑x : Int) + (1 : Int) < (9223372036854775808 : Int)) ∧
 ∃ (y : Nat),
 (y ≤ o.len ∧ ∀ (i : Nat), i < y → (0 : Int) ≤ atI o i ∧ atI o i < n ∧ ((0 : Nat) < i → atI o (i - (1 : Nat)) < atI o i)) ∧
 o.len - y < o.len - x ∧ ((↑x : Int) + (1 : Int) = (↑y : Int) ∧ (el o x).asInt = lastZ o y ∧ True) ∧ True)) ∧
 ((el o x).asInt ≤ lastZ o x → (false = true ↔ risingP o n))) ∧
 (((↑x : Int) < (↑o.len : Int) → False) → (true = true ↔ risingP o n))) := by intros; kernel_rfl
theorem vc28 : ∀ (nm : List UInt8) (sh a b : Int) (o : D) (x y : Int),
 symFun (ctx (fun (x : FuncId) => none) chkAnn) (3 : Nat) (28 : FuncId)
 [V.agg [V.str nm, V.int IntKind.u8 sh, V.int IntKind.i64 a, V.int IntKind.i64 b, V.dat (29 : TypeId) o, V.int IntKind.i64 x, V.int IntKind.i64 y]]
 (V.int IntKind.i64 (sizeZ sh a b)) =
 ((sh = (1 : Int) →
 ((1 : Int) ≤ a →
 (a ≤ (24 : Int) → (b = (0 : Int) → a = sizeZ sh a b) ∧ ((b = (0 : Int) → False) → (0 : Int) = sizeZ sh a b)) ∧
 ((a ≤ (24 : Int) → False) → (0 : Int) = sizeZ sh a b)) ∧
 (((1 : Int) ≤ a → False) → (0 : Int) = sizeZ sh a b)) ∧
 ((sh = (1 : Int) → False) →
 (sh = (2 : Int) →
 ((1 : Int) ≤ a →
 (a ≤ (11 : Int) →
 ((0 : Int) ≤ b →
 (b ≤ (2 : Int) →
 ((-9223372036854775808 : Int) ≤ (2 : Int) * a ∧ (2 : Int) * a < (9223372036854775808 : Int)) ∧
 ((-9223372036854775808 : Int) ≤ (2 : Int) * a + b ∧ (2 : Int) * a + b < (9223372036854775808 : Int)) ∧
 (2 : Int) * a + b = sizeZ sh a b) ∧
 ((b ≤ (2 : Int) → False) → (0 : Int) = sizeZ sh a b)) ∧
 (((0 : Int) ≤ b → False) → (0 : Int) = sizeZ sh a b)) ∧
 ((a ≤ (11 : Int) → False) → (0 : Int) = sizeZ sh a b)) ∧
 (((1 : Int) ≤ a → False) → (0 : Int) = sizeZ sh a b)) ∧
 ((sh = (2 : Int) → False) →
 (sh = (3 : Int) →
 ((1 : Int) ≤ a →
 (a ≤ (8 : Int) →
 ((1 : Int) ≤ b →
 (b ≤ (8 : Int) →
 ((-9223372036854775808 : Int) ≤ (2 : Int) * b ∧ (2 : Int) * b < (9223372036854775808 : Int)) ∧
 ((-9223372036854775808 : Int) ≤ a + (2 : Int) * b ∧ a + (2 : Int) * b < (9223372036854775808 : Int)) ∧
 a + (2 : Int) * b = sizeZ sh a b) ∧
 ((b ≤ (8 : Int) → False) → (0 : Int) = sizeZ sh a b)) ∧
 (((1 : Int) ≤ b → False) → (0 : Int) = sizeZ sh a b)) ∧
 ((a ≤ (8 : Int) → False) → (0 : Int) = sizeZ sh a b)) ∧
 (((1 : Int) ≤ a → False) → (0 : Int) = sizeZ sh a b)) ∧
 ((sh = (3 : Int) → False) →
 (sh = (4 : Int) →
 ((1 : Int) ≤ a →
 (a ≤ (24 : Int) →
 ((0 : Int) ≤ b → (b ≤ a → a = sizeZ sh a b) ∧ ((b ≤ a → False) → (0 : Int) = sizeZ sh a b)) ∧
 (((0 : Int) ≤ b → False) → (0 : Int) = sizeZ sh a b)) ∧
 ((a ≤ (24 : Int) → False) → (0 : Int) = sizeZ sh a b)) ∧
 (((1 : Int) ≤ a → False) → (0 : Int) = sizeZ sh a b)) ∧
 ((sh = (4 : Int) → False) → (0 : Int) = sizeZ sh a b))))) := by intros; kernel_rfl
theorem vc114 : ∀ (l : D) (s : List UInt8),
 symFun (ctx (fun (x : FuncId) => none) chkAnn) (3 : Nat) (114 : FuncId) [V.dat (22 : TypeId) l, V.str s] (V.int IntKind.i64 (idxZ l s l.len (0 : Nat))) =
 ((∃ (x : Nat), (x ≤ l.len ∧ idxZ l s (l.len - x) x = idxZ l s l.len (0 : Nat)) ∧ ((0 : Int) = (↑x : Int) ∧ True) ∧ True) ∧
 ∀ (x : Nat),
 x ≤ l.len ∧ idxZ l s (l.len - x) x = idxZ l s l.len (0 : Nat) →
 l.len - x < LIM ∧
 ((↑x : Int) < (↑l.len : Int) →
 (0 : Int) ≤ (↑x : Int) ∧
 (↑x : Int) < (↑l.len : Int) ∧
 (tName (el l x) = s → (↑x : Int) = idxZ l s l.len (0 : Nat)) ∧
 ((tName (el l x) = s → False) →
 ((-9223372036854775808 : Int) ≤ (↑x : Int) + (1 : Int) ∧ (↑x : Int) + (1 : Int) < (9223372036854775808 : Int)) ∧
 ∃ (y : Nat),
 (y ≤ l.len ∧ idxZ l s (l.len - y) y = idxZ l s l.len (0 : Nat)) ∧
 l.len - y < l.len - x ∧ ((↑x : Int) + (1 : Int) = (↑y : Int) ∧ True) ∧ True)) ∧
 (((↑x : Int) < (↑l.len : Int) → False) → (-1 : Int) = idxZ l s l.len (0 : Nat))) := by intros; kernel_rfl
theorem vc93 : ∀ (nm : List UInt8) (sh a b : Int) (o : D) (x y : Int),
 symFun (ctx chk1 chkAnn) (5 : Nat) (93 : FuncId)
 [V.agg [V.str nm, V.int IntKind.u8 sh, V.int IntKind.i64 a, V.int IntKind.i64 b, V.dat (29 : TypeId) o, V.int IntKind.i64 x, V.int IntKind.i64 y]]
 (V.int IntKind.i64 (sizeZ sh a b)) =
 ((sh = (1 : Int) → a = sizeZ sh a b) ∧
 ((sh = (1 : Int) → False) →
 (sh = (2 : Int) →
 ((-9223372036854775808 : Int) ≤ (2 : Int) * a ∧ (2 : Int) * a < (9223372036854775808 : Int)) ∧
 ((-9223372036854775808 : Int) ≤ (2 : Int) * a + b ∧ (2 : Int) * a + b < (9223372036854775808 : Int)) ∧ (2 : Int) * a + b = sizeZ sh a b) ∧
 ((sh = (2 : Int) → False) →
 (sh = (3 : Int) →
 ((-9223372036854775808 : Int) ≤ (2 : Int) * b ∧ (2 : Int) * b < (9223372036854775808 : Int)) ∧
 ((-9223372036854775808 : Int) ≤ a + (2 : Int) * b ∧ a + (2 : Int) * b < (9223372036854775808 : Int)) ∧ a + (2 : Int) * b = sizeZ sh a b) ∧
 ((sh = (3 : Int) → False) → (sh = (4 : Int) → a = sizeZ sh a b) ∧ ((sh = (4 : Int) → False) → False))))) := by intros; kernel_rfl
theorem s126 (s : List UInt8) : symFun (ctx (fun _ => none) chkAnn) 3 126 [.str s] (.prop (nameP s)) := by
  rw [vc126]
  simp only [imp_false, Classical.not_not, true_and, and_true]
  have no : ∀ x, x < s.length → ¬ (97 ≤ byteAt s x ∧ byteAt s x ≤ 122) → (false = true ↔ nameP s) := fun x hx hn => ⟨fun h => by simp at h, fun h => absurd (h.out.2.2 x hx) hn⟩
  have bad : ¬ (1 ≤ s.length ∧ s.length ≤ 12) → (false = true ↔ nameP s) := fun hn => ⟨fun h => by simp at h, fun h => absurd ⟨h.out.1, h.out.2.1⟩ hn⟩
  refine ⟨fun h1 => ⟨fun h2 => bad (by omega), fun h2 => ⟨⟨0, ⟨by omega, fun i hi => by omega⟩, rfl⟩, fun x ⟨hx, hinv⟩ => ⟨by unfold LIM; omega, fun hlt => ⟨by omega, by omega, fun h3 => ⟨by omega, by omega, fun h4 => no x (by omega) (by omega), fun h4 => ⟨by omega, x + 1, ⟨by omega, fun i hi => ?_⟩, by omega, by omega⟩⟩, fun h3 => no x (by omega) (by omega)⟩, fun hge => ⟨fun _ => ⟨⟨by omega, by omega, fun i hi => hinv i (by omega)⟩⟩, fun _ => by first | rfl | trivial⟩⟩⟩⟩, fun h1 => bad (by omega)⟩
  by_cases e : i = x
  · subst e; exact ⟨by omega, by omega⟩
  · exact hinv i (by omega)
theorem s130 (s : List UInt8) : symFun (ctx (fun _ => none) chkAnn) 3 130 [.str s] (.prop (nameP s)) := by
  rw [vc130]
  simp only [imp_false, Classical.not_not, true_and, and_true]
  have no : ∀ x, x < s.length → ¬ (97 ≤ byteAt s x ∧ byteAt s x ≤ 122) → (false = true ↔ nameP s) := fun x hx hn => ⟨fun h => by simp at h, fun h => absurd (h.out.2.2 x hx) hn⟩
  have bad : ¬ (1 ≤ s.length ∧ s.length ≤ 12) → (false = true ↔ nameP s) := fun hn => ⟨fun h => by simp at h, fun h => absurd ⟨h.out.1, h.out.2.1⟩ hn⟩
  refine ⟨fun h1 => ⟨fun h2 => bad (by omega), fun h2 => ⟨⟨0, ⟨by omega, fun i hi => by omega⟩, rfl⟩, fun x ⟨hx, hinv⟩ => ⟨by unfold LIM; omega, fun hlt => ⟨by omega, by omega, fun h3 => ⟨by omega, by omega, fun h4 => no x (by omega) (by omega), fun h4 => ⟨by omega, x + 1, ⟨by omega, fun i hi => ?_⟩, by omega, by omega⟩⟩, fun h3 => no x (by omega) (by omega)⟩, fun hge => ⟨fun _ => ⟨⟨by omega, by omega, fun i hi => hinv i (by omega)⟩⟩, fun _ => by first | rfl | trivial⟩⟩⟩⟩, fun h1 => bad (by omega)⟩
  by_cases e : i = x
  · subst e; exact ⟨by omega, by omega⟩
  · exact hinv i (by omega)
theorem s127 (o : D) (n : Int) (h : o.len ≤ 100) : symFun (ctx (fun _ => none) chkAnn) 3 127 [.dat 29 o, .int .i64 n] (.prop (risingP o n)) := by
  rw [vc127]
  have e : ∀ i, (el o i).asInt = atI o i := fun _ => rfl
  simp only [imp_false, Classical.not_not, true_and, and_true, e]
  have no : ∀ x, x < o.len → ¬ (0 ≤ atI o x ∧ atI o x < n ∧ (0 < x → atI o (x - 1) < atI o x)) → (false = true ↔ risingP o n) := fun x hx hn => ⟨fun h => by simp at h, fun h => absurd (h.out x hx) hn⟩
  have last : ∀ x, x < o.len → (∀ i, i < x → 0 ≤ atI o i ∧ atI o i < n ∧ (0 < i → atI o (i - 1) < atI o i)) → ((lastZ o x < atI o x) ↔ (0 ≤ atI o x ∧ (0 < x → atI o (x - 1) < atI o x))) := fun x hx hinv => by
    cases x with
    | zero => simp [lastZ]; omega
    | succ x =>
      have := hinv x (by omega)
      simp only [lastZ, Nat.add_sub_cancel]
      constructor
      · intro h; exact ⟨by omega, fun _ => h⟩
      · intro h; exact h.2 (by omega)
  refine ⟨⟨0, ⟨by omega, fun i hi => by omega⟩, rfl, rfl⟩, fun x ⟨hx, hinv⟩ => ⟨by unfold LIM; omega, fun hlt => ?_, fun hge => ⟨fun _ => ⟨fun i hi => hinv i (by omega)⟩, fun _ => by first | rfl | trivial⟩⟩⟩
  have hl := last x (by omega) hinv
  refine ⟨by omega, hlt, fun h1 => ⟨fun h2 => no x (by omega) (by omega), fun h2 => ⟨by omega, x + 1, ⟨by omega, fun i hi => ?_⟩, by omega, by omega, rfl⟩⟩, fun h1 => no x (by omega) fun hh => by have := hl.2 ⟨hh.1, hh.2.2⟩; omega⟩
  by_cases e : i = x
  · subst e; have := hl.1 (by omega); exact ⟨this.1, by omega, this.2⟩
  · exact hinv i (by omega)
theorem s28 (nm : List UInt8) (sh a b : Int) (o : D) (x y : Int) : symFun (ctx (fun _ => none) chkAnn) 3 28 [.agg [.str nm, .int .u8 sh, .int .i64 a, .int .i64 b, .dat 29 o, .int .i64 x, .int .i64 y]] (.int .i64 (sizeZ sh a b)) := by
  rw [vc28]
  simp only [imp_false, Classical.not_not, true_and, and_true]
  repeat' (first | refine And.intro ?_ ?_ | intro _)
  all_goals (first | omega | ((unfold sizeZ; repeat' split) <;> omega))
theorem s93 (nm : List UInt8) (sh a b : Int) (o : D) (x y : Int) (h : sizeZ sh a b ≠ 0) : symFun (ctx chk1 chkAnn) 5 93 [.agg [.str nm, .int .u8 sh, .int .i64 a, .int .i64 b, .dat 29 o, .int .i64 x, .int .i64 y]] (.int .i64 (sizeZ sh a b)) := by
  rw [vc93]
  have key : (sh = 1 ∧ (1 ≤ a ∧ a ≤ 24) ∧ b = 0 ∧ sizeZ sh a b = a) ∨ (sh = 2 ∧ (1 ≤ a ∧ a ≤ 11) ∧ (0 ≤ b ∧ b ≤ 2) ∧ sizeZ sh a b = 2 * a + b) ∨ (sh = 3 ∧ (1 ≤ a ∧ a ≤ 8) ∧ (1 ≤ b ∧ b ≤ 8) ∧ sizeZ sh a b = a + 2 * b) ∨ (sh = 4 ∧ (1 ≤ a ∧ a ≤ 24) ∧ sizeZ sh a b = a) := by
    revert h
    unfold sizeZ
    repeat' split
    all_goals intro h
    all_goals omega
  simp only [imp_false, Classical.not_not, true_and, and_true]
  repeat' (first | refine And.intro ?_ ?_ | intro _)
  all_goals omega
theorem idx_step (l : D) (s : List UInt8) (x : Nat) (hx : x < l.len) : idxZ l s (l.len - x) x = if tName (el l x) = s then (x : Int) else idxZ l s (l.len - (x + 1)) (x + 1) := by
  have : l.len - x = (l.len - (x + 1)) + 1 := by omega
  rw [this]; rfl
theorem s114 (l : D) (s : List UInt8) (h : l.len ≤ 100) : symFun (ctx (fun _ => none) chkAnn) 3 114 [.dat 22 l, .str s] (.int .i64 (idxZ l s l.len 0)) := by
  rw [vc114]
  simp only [imp_false, Classical.not_not, true_and, and_true]
  refine ⟨⟨0, ⟨by omega, rfl⟩, rfl⟩, fun x ⟨hx, hinv⟩ => ⟨by unfold LIM; omega, fun hlt => ?_, fun hge => ?_⟩⟩
  · have hs := idx_step l s x (by omega)
    rw [hinv] at hs
    refine ⟨by omega, hlt, fun h1 => by rw [hs, if_pos h1], fun h1 => ⟨by omega, x + 1, ⟨by omega, ?_⟩, by omega, by omega⟩⟩
    rw [hs, if_neg h1]
  · have : l.len - x = 0 := by omega
    rw [← hinv, this]; rfl
end Go.Ev
open Go.Proofs
namespace Go.Ev
set_option maxRecDepth 100000
theorem vc63 : ∀ (nm : List UInt8) (sh a b : Int) (o : D) (x y : Int),
 symFun (ctx chk1 chkAnn) (4 : Nat) (63 : FuncId)
 [V.agg [V.str nm, V.int IntKind.u8 sh, V.int IntKind.i64 a, V.int IntKind.i64 b, V.dat (29 : TypeId) o, V.int IntKind.i64 x, V.int IntKind.i64 y]]
 (V.int IntKind.i64 (errZ nm sh a b o x y)) =
 ((sh = (1 : Int) →
 True ∧
 ((nameP nm → False) → (4 : Int) = errZ nm sh a b o x y) ∧
 (((nameP nm → False) → False) →
 ((1 : Int) ≤ a →
 (a ≤ (24 : Int) →
 ((b = (0 : Int) → False) → (10 : Int) = errZ nm sh a b o x y) ∧
 (((b = (0 : Int) → False) → False) →
 o.len ≤ (100 : Nat) ∧
 ((risingP o a → False) → (11 : Int) = errZ nm sh a b o x y) ∧
 (((risingP o a → False) → False) →
 ((0 : Int) ≤ x →
 (((x ≤ (1000 : Int) → False) → False) →
 ((0 : Int) ≤ y →
 ((y ≤ (1000 : Int) → False) → (2 : Int) = errZ nm sh a b o x y) ∧
 (((y ≤ (1000 : Int) → False) → False) → (0 : Int) = errZ nm sh a b o x y)) ∧
 (((0 : Int) ≤ y → False) → (2 : Int) = errZ nm sh a b o x y)) ∧
 ((x ≤ (1000 : Int) → False) → (2 : Int) = errZ nm sh a b o x y)) ∧
 (((0 : Int) ≤ x → False) → (2 : Int) = errZ nm sh a b o x y)))) ∧
 ((a ≤ (24 : Int) → False) → (10 : Int) = errZ nm sh a b o x y)) ∧
 (((1 : Int) ≤ a → False) → (10 : Int) = errZ nm sh a b o x y))) ∧
 ((sh = (1 : Int) → False) →
 (sh = (2 : Int) →
 True ∧
 ((nameP nm → False) → (4 : Int) = errZ nm sh a b o x y) ∧
 (((nameP nm → False) → False) →
 ((1 : Int) ≤ a →
 (a ≤ (11 : Int) →
 ((0 : Int) ≤ b →
 ((b ≤ (2 : Int) → False) → (10 : Int) = errZ nm sh a b o x y) ∧
 (((b ≤ (2 : Int) → False) → False) →
 ((-9223372036854775808 : Int) ≤ (2 : Int) * a ∧ (2 : Int) * a < (9223372036854775808 : Int)) ∧
 ((-9223372036854775808 : Int) ≤ (2 : Int) * a + b ∧ (2 : Int) * a + b < (9223372036854775808 : Int)) ∧
 o.len ≤ (100 : Nat) ∧
 ((risingP o ((2 : Int) * a + b) → False) → (11 : Int) = errZ nm sh a b o x y) ∧
 (((risingP o ((2 : Int) * a + b) → False) → False) →
 ((0 : Int) ≤ x →
 (((x ≤ (1000 : Int) → False) → False) →
 ((0 : Int) ≤ y →
 ((y ≤ (1000 : Int) → False) → (2 : Int) = errZ nm sh a b o x y) ∧
 (((y ≤ (1000 : Int) → False) → False) → (0 : Int) = errZ nm sh a b o x y)) ∧
 (((0 : Int) ≤ y → False) → (2 : Int) = errZ nm sh a b o x y)) ∧
 ((x ≤ (1000 : Int) → False) → (2 : Int) = errZ nm sh a b o x y)) ∧
 (((0 : Int) ≤ x → False) → (2 : Int) = errZ nm sh a b o x y)))) ∧
 (((0 : Int) ≤ b → False) → (10 : Int) = errZ nm sh a b o x y)) ∧
 ((a ≤ (11 : Int) → False) → (10 : Int) = errZ nm sh a b o x y)) ∧
 (((1 : Int) ≤ a → False) → (10 : Int) = errZ nm sh a b o x y))) ∧
 ((sh = (2 : Int) → False) →
 (sh = (3 : Int) →
 True ∧
 ((nameP nm → False) → (4 : Int) = errZ nm sh a b o x y) ∧
 (((nameP nm → False) → False) →
 ((1 : Int) ≤ a →
 (a ≤ (8 : Int) →
 ((1 : Int) ≤ b →
 ((b ≤ (8 : Int) → False) → (10 : Int) = errZ nm sh a b o x y) ∧
 (((b ≤ (8 : Int) → False) → False) →
 ((-9223372036854775808 : Int) ≤ (2 : Int) * b ∧ (2 : Int) * b < (9223372036854775808 : Int)) ∧
 ((-9223372036854775808 : Int) ≤ a + (2 : Int) * b ∧ a + (2 : Int) * b < (9223372036854775808 : Int)) ∧
 o.len ≤ (100 : Nat) ∧
 ((risingP o (a + (2 : Int) * b) → False) → (11 : Int) = errZ nm sh a b o x y) ∧
 (((risingP o (a + (2 : Int) * b) → False) → False) →
 ((0 : Int) ≤ x →
 (((x ≤ (1000 : Int) → False) → False) →
 ((0 : Int) ≤ y →
 ((y ≤ (1000 : Int) → False) → (2 : Int) = errZ nm sh a b o x y) ∧
 (((y ≤ (1000 : Int) → False) → False) → (0 : Int) = errZ nm sh a b o x y)) ∧
 (((0 : Int) ≤ y → False) → (2 : Int) = errZ nm sh a b o x y)) ∧
 ((x ≤ (1000 : Int) → False) → (2 : Int) = errZ nm sh a b o x y)) ∧
 (((0 : Int) ≤ x → False) → (2 : Int) = errZ nm sh a b o x y)))) ∧
 (((1 : Int) ≤ b → False) → (10 : Int) = errZ nm sh a b o x y)) ∧
 ((a ≤ (8 : Int) → False) → (10 : Int) = errZ nm sh a b o x y)) ∧
 (((1 : Int) ≤ a → False) → (10 : Int) = errZ nm sh a b o x y))) ∧
 ((sh = (3 : Int) → False) →
 (sh = (4 : Int) →
 True ∧
 ((nameP nm → False) → (4 : Int) = errZ nm sh a b o x y) ∧
 (((nameP nm → False) → False) →
 ((1 : Int) ≤ a →
 (a ≤ (24 : Int) →
 ((0 : Int) ≤ b →
 ((b ≤ a → False) → (10 : Int) = errZ nm sh a b o x y) ∧
 (((b ≤ a → False) → False) →
 o.len ≤ (100 : Nat) ∧
 ((risingP o a → False) → (11 : Int) = errZ nm sh a b o x y) ∧
 (((risingP o a → False) → False) →
 ((0 : Int) ≤ x →
 (((x ≤ (1000 : Int) → False) → False) →
 ((0 : Int) ≤ y →
 ((y ≤ (1000 : Int) → False) → (2 : Int) = errZ nm sh a b o x y) ∧
 (((y ≤ (1000 : Int) → False) → False) → (0 : Int) = errZ nm sh a b o x y)) ∧
 (((0 : Int) ≤ y → False) → (2 : Int) = errZ nm sh a b o x y)) ∧
 ((x ≤ (1000 : Int) → False) → (2 : Int) = errZ nm sh a b o x y)) ∧
 (((0 : Int) ≤ x → False) → (2 : Int) = errZ nm sh a b o x y)))) ∧
 (((0 : Int) ≤ b → False) → (10 : Int) = errZ nm sh a b o x y)) ∧
 ((a ≤ (24 : Int) → False) → (10 : Int) = errZ nm sh a b o x y)) ∧
 (((1 : Int) ≤ a → False) → (10 : Int) = errZ nm sh a b o x y))) ∧
 ((sh = (4 : Int) → False) →
 True ∧ ((nameP nm → False) → (4 : Int) = errZ nm sh a b o x y) ∧ (((nameP nm → False) → False) → (10 : Int) = errZ nm sh a b o x y)))))) := by intros; kernel_rfl
theorem vc68 : ∀ (nm : List UInt8) (sh a b : Int) (o : D) (x y : Int),
 symFun (ctx chk1 (chk68 o (sizeZ sh a b))) (4 : Nat) (68 : FuncId)
 [V.agg [V.str nm, V.int IntKind.u8 sh, V.int IntKind.i64 a, V.int IntKind.i64 b, V.dat (29 : TypeId) o, V.int IntKind.i64 x, V.int IntKind.i64 y]]
 (V.int IntKind.i64 (errZ nm sh a b o x y)) =
 (True ∧
 True ∧
 ((nameP nm → False) → (4 : Int) = errZ nm sh a b o x y) ∧
 (((nameP nm → False) → False) →
 (sizeZ sh a b = (0 : Int) → (10 : Int) = errZ nm sh a b o x y) ∧
 ((sizeZ sh a b = (0 : Int) → False) →
 (∃ (x : Nat),
 (x ≤ o.len ∧ ∀ (i : Nat), i < x → (0 : Int) ≤ atI o i ∧ atI o i < sizeZ sh a b ∧ ((0 : Nat) < i → atI o (i - (1 : Nat)) < atI o i)) ∧
 ((0 : Int) = (↑x : Int) ∧ True) ∧ True) ∧
 ∀ (x_1 : Nat),
 (x_1 ≤ o.len ∧ ∀ (i : Nat), i < x_1 → (0 : Int) ≤ atI o i ∧ atI o i < sizeZ sh a b ∧ ((0 : Nat) < i → atI o (i - (1 : Nat)) < atI o i)) →
 o.len - x_1 < LIM ∧
 ((↑x_1 : Int) < (↑o.len : Int) →
 (0 : Int) ≤ (↑x_1 : Int) ∧
 (↑x_1 : Int) < (↑o.len : Int) ∧
 ((-9223372036854775808 : Int) ≤ sizeZ sh a b - (1 : Int) ∧ sizeZ sh a b - (1 : Int) < (9223372036854775808 : Int)) ∧
 ((0 : Int) ≤ (el o x_1).asInt →
 ((((el o x_1).asInt ≤ sizeZ sh a b - (1 : Int) → False) → False) →
 ((0 : Int) < (↑x_1 : Int) →
 (0 : Int) ≤ (↑x_1 : Int) ∧
 (↑x_1 : Int) < (↑o.len : Int) ∧
 ((-9223372036854775808 : Int) ≤ (↑x_1 : Int) - (1 : Int) ∧
 (↑x_1 : Int) - (1 : Int) < (9223372036854775808 : Int)) ∧
 (0 : Int) ≤ (↑x_1 : Int) - (1 : Int) ∧
 (↑x_1 : Int) - (1 : Int) < (↑o.len : Int) ∧
 ((el o x_1).asInt ≤ (el o ((↑x_1 : Int) - (1 : Int)).toNat).asInt → (11 : Int) = errZ nm sh a b o x y) ∧
 (((el o x_1).asInt ≤ (el o ((↑x_1 : Int) - (1 : Int)).toNat).asInt → False) →
 ((-9223372036854775808 : Int) ≤ (↑x_1 : Int) + (1 : Int) ∧
 (↑x_1 : Int) + (1 : Int) < (9223372036854775808 : Int)) ∧
 ∃ (y : Nat),
 (y ≤ o.len ∧
 ∀ (i : Nat),
 i < y →
 (0 : Int) ≤ atI o i ∧
 atI o i < sizeZ sh a b ∧ ((0 : Nat) < i → atI o (i - (1 : Nat)) < atI o i)) ∧
 o.len - y < o.len - x_1 ∧ ((↑x_1 : Int) + (1 : Int) = (↑y : Int) ∧ True) ∧ True)) ∧
 (((0 : Int) < (↑x_1 : Int) → False) →
 ((-9223372036854775808 : Int) ≤ (↑x_1 : Int) + (1 : Int) ∧
 (↑x_1 : Int) + (1 : Int) < (9223372036854775808 : Int)) ∧
 ∃ (y : Nat),
 (y ≤ o.len ∧
 ∀ (i : Nat),
 i < y →
 (0 : Int) ≤ atI o i ∧ atI o i < sizeZ sh a b ∧ ((0 : Nat) < i → atI o (i - (1 : Nat)) < atI o i)) ∧
 o.len - y < o.len - x_1 ∧ ((↑x_1 : Int) + (1 : Int) = (↑y : Int) ∧ True) ∧ True)) ∧
 (((el o x_1).asInt ≤ sizeZ sh a b - (1 : Int) → False) → (11 : Int) = errZ nm sh a b o x y)) ∧
 (((0 : Int) ≤ (el o x_1).asInt → False) → (11 : Int) = errZ nm sh a b o x y)) ∧
 (((↑x_1 : Int) < (↑o.len : Int) → False) →
 ((0 : Int) ≤ x →
 (((x ≤ (1000 : Int) → False) → False) →
 ((0 : Int) ≤ y →
 ((y ≤ (1000 : Int) → False) → (2 : Int) = errZ nm sh a b o x y) ∧
 (((y ≤ (1000 : Int) → False) → False) → (0 : Int) = errZ nm sh a b o x y)) ∧
 (((0 : Int) ≤ y → False) → (2 : Int) = errZ nm sh a b o x y)) ∧
 ((x ≤ (1000 : Int) → False) → (2 : Int) = errZ nm sh a b o x y)) ∧
 (((0 : Int) ≤ x → False) → (2 : Int) = errZ nm sh a b o x y))))) := by intros; kernel_rfl
theorem vc79 : ∀ (n1 : List UInt8) (s1 a1 b1 : Int) (o1 : D) (x1 y1 : Int) (n2 : List UInt8) (s2 a2 b2 : Int) (o2 : D) (x2 y2 : Int),
 symFun (ctx chk1 chkAnn) (4 : Nat) (79 : FuncId)
 [V.agg [V.str n1, V.int IntKind.u8 s1, V.int IntKind.i64 a1, V.int IntKind.i64 b1, V.dat (29 : TypeId) o1, V.int IntKind.i64 x1, V.int IntKind.i64 y1],
 V.agg [V.str n2, V.int IntKind.u8 s2, V.int IntKind.i64 a2, V.int IntKind.i64 b2, V.dat (29 : TypeId) o2, V.int IntKind.i64 x2, V.int IntKind.i64 y2]]
 (V.prop (n1 = n2 ∧ s1 = s2 ∧ a1 = a2 ∧ b1 = b2 ∧ x1 = x2 ∧ y1 = y2 ∧ eqD o1 o2)) =
 ((n1 = n2 →
 (s1 = s2 →
 (a1 = a2 →
 (b1 = b2 →
 (x1 = x2 →
 (y1 = y2 →
 o1.len ≤ (100 : Nat) ∧
 ((o1.len = o2.len ∧ ∀ (i : Nat), i < o1.len → atI o1 i = atI o2 i) ↔
 n1 = n2 ∧ s1 = s2 ∧ a1 = a2 ∧ b1 = b2 ∧ x1 = x2 ∧ y1 = y2 ∧ o1.len = o2.len ∧ ∀ (i : Nat), i < o1.len → atI o1 i = atI o2 i)) ∧
 ((y1 = y2 → False) →
 (false = true ↔
 n1 = n2 ∧ s1 = s2 ∧ a1 = a2 ∧ b1 = b2 ∧ x1 = x2 ∧ y1 = y2 ∧ o1.len = o2.len ∧ ∀ (i : Nat), i < o1.len → atI o1 i = atI o2 i))) ∧
 ((x1 = x2 → False) →
 (false = true ↔
 n1 = n2 ∧ s1 = s2 ∧ a1 = a2 ∧ b1 = b2 ∧ x1 = x2 ∧ y1 = y2 ∧ o1.len = o2.len ∧ ∀ (i : Nat), i < o1.len → atI o1 i = atI o2 i))) ∧
 ((b1 = b2 → False) →
 (false = true ↔
 n1 = n2 ∧ s1 = s2 ∧ a1 = a2 ∧ b1 = b2 ∧ x1 = x2 ∧ y1 = y2 ∧ o1.len = o2.len ∧ ∀ (i : Nat), i < o1.len → atI o1 i = atI o2 i))) ∧
 ((a1 = a2 → False) →
 (false = true ↔ n1 = n2 ∧ s1 = s2 ∧ a1 = a2 ∧ b1 = b2 ∧ x1 = x2 ∧ y1 = y2 ∧ o1.len = o2.len ∧ ∀ (i : Nat), i < o1.len → atI o1 i = atI o2 i))) ∧
 ((s1 = s2 → False) →
 (false = true ↔ n1 = n2 ∧ s1 = s2 ∧ a1 = a2 ∧ b1 = b2 ∧ x1 = x2 ∧ y1 = y2 ∧ o1.len = o2.len ∧ ∀ (i : Nat), i < o1.len → atI o1 i = atI o2 i))) ∧
 ((n1 = n2 → False) →
 (false = true ↔ n1 = n2 ∧ s1 = s2 ∧ a1 = a2 ∧ b1 = b2 ∧ x1 = x2 ∧ y1 = y2 ∧ o1.len = o2.len ∧ ∀ (i : Nat), i < o1.len → atI o1 i = atI o2 i))) := by intros; kernel_rfl
section
variable {nm : List UInt8} {sh a b : Int} {o : D} {x y : Int}
theorem err_name (h : ¬ nameP nm) : errZ nm sh a b o x y = 4 := by unfold errZ; rw [if_pos h]
theorem err_shape (h : nameP nm) (hs : sizeZ sh a b = 0) : errZ nm sh a b o x y = 10 := by unfold errZ; rw [if_neg (fun hn => hn h), if_pos hs]
theorem err_open {n : Int} (hr : ¬ risingP o n) (h : nameP nm) (hs : sizeZ sh a b = n) (hn : n ≠ 0) : errZ nm sh a b o x y = 11 := by
  subst hs; unfold errZ; rw [if_neg (fun hn => hn h), if_neg hn, if_pos hr]
theorem err_arg {n : Int} (hr : risingP o n) (h : nameP nm) (hs : sizeZ sh a b = n) (hn : n ≠ 0) (hp : ¬ ((0 ≤ x ∧ x ≤ 1000) ∧ 0 ≤ y ∧ y ≤ 1000)) : errZ nm sh a b o x y = 2 := by
  subst hs; unfold errZ placeP; rw [if_neg (fun hn => hn h), if_neg hn, if_neg (fun hn => hn hr), if_pos hp]
theorem err_ok {n : Int} (hr : risingP o n) (h : nameP nm) (hs : sizeZ sh a b = n) (hn : n ≠ 0) (hp : (0 ≤ x ∧ x ≤ 1000) ∧ 0 ≤ y ∧ y ≤ 1000) : errZ nm sh a b o x y = 0 := by
  subst hs; unfold errZ placeP; rw [if_neg (fun hn => hn h), if_neg hn, if_neg (fun hn => hn hr), if_neg (fun hn => hn hp)]
end
theorem s63 (nm : List UInt8) (sh a b : Int) (o : D) (x y : Int) (h : o.len ≤ 100) : symFun (ctx chk1 chkAnn) 4 63 [.agg [.str nm, .int .u8 sh, .int .i64 a, .int .i64 b, .dat 29 o, .int .i64 x, .int .i64 y]] (.int .i64 (errZ nm sh a b o x y)) := by
  rw [vc63]
  simp only [imp_false, Classical.not_not, true_and, and_true]
  repeat' (first | refine And.intro ?_ ?_ | intro _)
  all_goals (first
    | omega
    | exact (err_name (by assumption)).symm
    | exact (err_shape (by assumption) (by (unfold sizeZ; repeat' split) <;> omega)).symm
    | exact (err_open (by assumption) (by assumption) (by (unfold sizeZ; repeat' split) <;> omega) (by omega)).symm
    | exact (err_ok (by assumption) (by assumption) (by (unfold sizeZ; repeat' split) <;> omega) (by omega) (by omega)).symm
    | exact (err_arg (by assumption) (by assumption) (by (unfold sizeZ; repeat' split) <;> omega) (by omega) (by omega)).symm)
theorem size_lim (sh a b : Int) : 0 ≤ sizeZ sh a b ∧ sizeZ sh a b ≤ 24 := by
  unfold sizeZ
  repeat' split
  all_goals omega
theorem s68 (nm : List UInt8) (sh a b : Int) (o : D) (x y : Int) (h : o.len ≤ 100) : symFun (ctx chk1 (chk68 o (sizeZ sh a b))) 4 68 [.agg [.str nm, .int .u8 sh, .int .i64 a, .int .i64 b, .dat 29 o, .int .i64 x, .int .i64 y]] (.int .i64 (errZ nm sh a b o x y)) := by
  rw [vc68]
  have hsz := size_lim sh a b
  have e : ∀ i, (el o i).asInt = atI o i := fun _ => rfl
  simp only [imp_false, Classical.not_not, true_and, and_true, e]
  refine ⟨fun hn => (err_name hn).symm, fun hn => ⟨fun hs => (err_shape hn hs).symm, fun hs => ⟨⟨0, ⟨by omega, fun i hi => by omega⟩, rfl⟩, fun k ⟨hk, hinv⟩ => ⟨by unfold LIM; omega, fun hlt => ?_, fun hge => ?_⟩⟩⟩⟩
  · have no : ¬ (0 ≤ atI o k ∧ atI o k < sizeZ sh a b ∧ (0 < k → atI o (k - 1) < atI o k)) → 11 = errZ nm sh a b o x y := fun hh => (err_open (n := sizeZ sh a b) (fun hr => hh (hr.out k (by omega))) hn rfl hs).symm
    have e2 : ((k : Int) - 1).toNat = k - 1 := by omega
    refine ⟨by omega, hlt, by omega, fun h1 => ⟨fun h2 => ⟨fun h3 => ⟨by omega, by omega, by omega, by omega, by omega, fun h4 => no ?_, fun h4 => ⟨by omega, k + 1, ⟨by omega, fun i hi => ?_⟩, by omega, by omega⟩⟩, fun h3 => ⟨by omega, k + 1, ⟨by omega, fun i hi => ?_⟩, by omega, by omega⟩⟩, fun h2 => no (by omega)⟩, fun h1 => no (by omega)⟩
    · rw [e2] at h4
      intro hh
      have := hh.2.2 (by omega)
      omega
    · rw [e2] at h4
      by_cases e : i = k
      · subst e; exact ⟨h1, by omega, fun _ => by omega⟩
      · exact hinv i (by omega)
    · by_cases e : i = k
      · subst e; exact ⟨h1, by omega, fun _ => by omega⟩
      · exact hinv i (by omega)
  · have hr : risingP o (sizeZ sh a b) := ⟨fun i hi => hinv i (by omega)⟩
    repeat' (first | refine And.intro ?_ ?_ | intro _)
    all_goals (first | exact (err_ok hr hn rfl hs (by omega)).symm | exact (err_arg hr hn rfl hs (by omega)).symm)
theorem s79 (n1 : List UInt8) (s1 a1 b1 : Int) (o1 : D) (x1 y1 : Int) (n2 : List UInt8) (s2 a2 b2 : Int) (o2 : D) (x2 y2 : Int) (h : o1.len ≤ 100) : symFun (ctx chk1 chkAnn) 4 79 [.agg [.str n1, .int .u8 s1, .int .i64 a1, .int .i64 b1, .dat 29 o1, .int .i64 x1, .int .i64 y1], .agg [.str n2, .int .u8 s2, .int .i64 a2, .int .i64 b2, .dat 29 o2, .int .i64 x2, .int .i64 y2]] (.prop (n1 = n2 ∧ s1 = s2 ∧ a1 = a2 ∧ b1 = b2 ∧ x1 = x2 ∧ y1 = y2 ∧ eqD o1 o2)) := by
  rw [vc79]
  repeat' (first | refine And.intro ?_ ?_ | intro _)
  all_goals simp_all
end Go.Ev
open Go.Proofs
namespace Go.Ev
set_option maxRecDepth 100000
theorem vc62 : ∀ (l : D),
 symFun (ctx chk2 chkAnn) (5 : Nat) (62 : FuncId) [V.dat (22 : TypeId) l] (V.tup [V.int IntKind.i64 (badZ l).fst, V.int IntKind.i64 (badZ l).snd]) =
 (((16 : Int) < (↑l.len : Int) → (0 : Int) = (badZ l).fst ∧ (7 : Int) = (badZ l).snd ∧ True) ∧
 (((16 : Int) < (↑l.len : Int) → False) →
 (∃ (x : Nat), (x ≤ l.len ∧ scanZ l (l.len - x) x = scanZ l l.len (0 : Nat)) ∧ ((0 : Int) = (↑x : Int) ∧ True) ∧ True) ∧
 ∀ (x : Nat),
 x ≤ l.len ∧ scanZ l (l.len - x) x = scanZ l l.len (0 : Nat) →
 l.len - x < LIM ∧
 ((↑x : Int) < (↑l.len : Int) →
 (0 : Int) ≤ (↑x : Int) ∧
 (↑x : Int) < (↑l.len : Int) ∧
 (0 : Int) ≤ (0 : Int) ∧
 (0 : Int) ≤ (↑x : Int) ∧
 (↑x : Int) ≤ (↑l.len : Int) ∧
 (tOpen (el l x)).len ≤ (100 : Nat) ∧
 ((errT (el l x) = (0 : Int) → False) →
 ((errT (el l x) = (0 : Int) → False) → (↑x : Int) = (badZ l).fst ∧ errT (el l x) = (badZ l).snd ∧ True) ∧
 (((errT (el l x) = (0 : Int) → False) → False) →
 ((-9223372036854775808 : Int) ≤ (↑x : Int) + (1 : Int) ∧ (↑x : Int) + (1 : Int) < (9223372036854775808 : Int)) ∧
 ∃ (y : Nat),
 (y ≤ l.len ∧ scanZ l (l.len - y) y = scanZ l l.len (0 : Nat)) ∧
 l.len - y < l.len - x ∧ ((↑x : Int) + (1 : Int) = (↑y : Int) ∧ True) ∧ True)) ∧
 (((errT (el l x) = (0 : Int) → False) → False) →
 (l.sub (0 : Nat) x).len ≤ (100 : Nat) ∧
 ((0 : Int) ≤ idxZ (l.sub (0 : Nat) x) (tName (el l x)) (l.sub (0 : Nat) x).len (0 : Nat) →
 (↑x : Int) = (badZ l).fst ∧ (5 : Int) = (badZ l).snd ∧ True) ∧
 (((0 : Int) ≤ idxZ (l.sub (0 : Nat) x) (tName (el l x)) (l.sub (0 : Nat) x).len (0 : Nat) → False) →
 ((-9223372036854775808 : Int) ≤ (↑x : Int) + (1 : Int) ∧ (↑x : Int) + (1 : Int) < (9223372036854775808 : Int)) ∧
 ∃ (y : Nat),
 (y ≤ l.len ∧ scanZ l (l.len - y) y = scanZ l l.len (0 : Nat)) ∧
 l.len - y < l.len - x ∧ ((↑x : Int) + (1 : Int) = (↑y : Int) ∧ True) ∧ True))) ∧
 (((↑x : Int) < (↑l.len : Int) → False) → (0 : Int) = (badZ l).fst ∧ (0 : Int) = (badZ l).snd ∧ True))) := by intros; kernel_rfl
theorem vc67 : ∀ (l : D),
 symFun (ctx chk2 chkAnn) (5 : Nat) (67 : FuncId) [V.dat (22 : TypeId) l] (V.tup [V.int IntKind.i64 (badZ l).fst, V.int IntKind.i64 (badZ l).snd]) =
 (((16 : Int) < (↑l.len : Int) → (0 : Int) = (badZ l).fst ∧ (7 : Int) = (badZ l).snd ∧ True) ∧
 (((16 : Int) < (↑l.len : Int) → False) →
 (∃ (x : Nat), (x ≤ l.len ∧ scanZ l (l.len - x) x = scanZ l l.len (0 : Nat)) ∧ ((0 : Int) = (↑x : Int) ∧ True) ∧ True) ∧
 ∀ (x : Nat),
 x ≤ l.len ∧ scanZ l (l.len - x) x = scanZ l l.len (0 : Nat) →
 l.len - x < LIM ∧
 ((↑x : Int) < (↑l.len : Int) →
 (0 : Int) ≤ (↑x : Int) ∧
 (↑x : Int) < (↑l.len : Int) ∧
 (tOpen (el l x)).len ≤ (100 : Nat) ∧
 ((errT (el l x) = (0 : Int) → False) → (↑x : Int) = (badZ l).fst ∧ errT (el l x) = (badZ l).snd ∧ True) ∧
 (((errT (el l x) = (0 : Int) → False) → False) →
 (∃ (x_1 : Nat),
 (x_1 ≤ x ∧ ∀ (k : Nat), k < x_1 → tName (el l k) = tName (el l x) → False) ∧ ((0 : Int) = (↑x_1 : Int) ∧ True) ∧ True) ∧
 ∀ (x_1 : Nat),
 (x_1 ≤ x ∧ ∀ (k : Nat), k < x_1 → tName (el l k) = tName (el l x) → False) →
 x - x_1 < LIM ∧
 ((↑x_1 : Int) < (↑x : Int) →
 (0 : Int) ≤ (↑x_1 : Int) ∧
 (↑x_1 : Int) < (↑l.len : Int) ∧
 (0 : Int) ≤ (↑x : Int) ∧
 (↑x : Int) < (↑l.len : Int) ∧
 (tName (el l x_1) = tName (el l x) → (↑x : Int) = (badZ l).fst ∧ (5 : Int) = (badZ l).snd ∧ True) ∧
 ((tName (el l x_1) = tName (el l x) → False) →
 ((-9223372036854775808 : Int) ≤ (↑x_1 : Int) + (1 : Int) ∧
 (↑x_1 : Int) + (1 : Int) < (9223372036854775808 : Int)) ∧
 ∃ (y : Nat),
 (y ≤ x ∧ ∀ (k : Nat), k < y → tName (el l k) = tName (el l x) → False) ∧
 x - y < x - x_1 ∧ ((↑x_1 : Int) + (1 : Int) = (↑y : Int) ∧ True) ∧ True)) ∧
 (((↑x_1 : Int) < (↑x : Int) → False) →
 ((-9223372036854775808 : Int) ≤ (↑x : Int) + (1 : Int) ∧ (↑x : Int) + (1 : Int) < (9223372036854775808 : Int)) ∧
 ∃ (y : Nat),
 (y ≤ l.len ∧ scanZ l (l.len - y) y = scanZ l l.len (0 : Nat)) ∧
 l.len - y < l.len - x ∧ ((↑x : Int) + (1 : Int) = (↑y : Int) ∧ True) ∧ True))) ∧
 (((↑x : Int) < (↑l.len : Int) → False) → (0 : Int) = (badZ l).fst ∧ (0 : Int) = (badZ l).snd ∧ True))) := by intros; kernel_rfl
theorem vc92 : ∀ (l : D) (n : Int),
 symFun (ctx chk2 chkAnn) (5 : Nat) (92 : FuncId) [V.dat (22 : TypeId) l, V.int IntKind.i64 n] (V.int IntKind.i64 (sumZ l n.toNat)) =
 ((0 : Int) ≤ (0 : Int) ∧
 (0 : Int) ≤ n ∧
 n ≤ (↑l.len : Int) ∧
 (∃ (x : Nat), x.le n.toNat ∧ ((0 : Int) = (↑x : Int) ∧ (0 : Int) = sumZ l x ∧ True) ∧ True) ∧
 ∀ (x : Nat),
 x.le n.toNat →
 n.toNat - x < LIM ∧
 ((↑x : Int) < (↑(l.sub (0 : Nat) n.toNat).len : Int) →
 (0 : Int) ≤ (↑x : Int) ∧
 (↑x : Int) < (↑(l.sub (0 : Nat) n.toNat).len : Int) ∧
 (sizeT' (el (l.sub (0 : Nat) n.toNat) x) = (0 : Int) → False) ∧
 ((-9223372036854775808 : Int) ≤ sumZ l x + sizeT' (el (l.sub (0 : Nat) n.toNat) x) ∧
 sumZ l x + sizeT' (el (l.sub (0 : Nat) n.toNat) x) < (9223372036854775808 : Int)) ∧
 ((-9223372036854775808 : Int) ≤ (↑x : Int) + (1 : Int) ∧ (↑x : Int) + (1 : Int) < (9223372036854775808 : Int)) ∧
 ∃ (y : Nat),
 y.le n.toNat ∧
 n.toNat - y < n.toNat - x ∧
 ((↑x : Int) + (1 : Int) = (↑y : Int) ∧ sumZ l x + sizeT' (el (l.sub (0 : Nat) n.toNat) x) = sumZ l y ∧ True) ∧ True) ∧
 (((↑x : Int) < (↑(l.sub (0 : Nat) n.toNat).len : Int) → False) → sumZ l x = sumZ l n.toNat)) := by intros; kernel_rfl
theorem vc70 : ∀ (l : D) (n : Int),
 symFun (ctx chk2 chkAnn) (5 : Nat) (70 : FuncId) [V.dat (22 : TypeId) l, V.int IntKind.i64 n] (V.int IntKind.i64 (sumZ l n.toNat)) =
 ((∃ (x : Nat), x.le n.toNat ∧ ((0 : Int) = (↑x : Int) ∧ (0 : Int) = sumZ l x ∧ True) ∧ True) ∧
 ∀ (x : Nat),
 x.le n.toNat →
 n.toNat - x < LIM ∧
 ((↑x : Int) < n →
 (0 : Int) ≤ (↑x : Int) ∧
 (↑x : Int) < (↑l.len : Int) ∧
 True ∧
 ((-9223372036854775808 : Int) ≤ sumZ l x + sizeT' (el l x) ∧ sumZ l x + sizeT' (el l x) < (9223372036854775808 : Int)) ∧
 ((-9223372036854775808 : Int) ≤ (↑x : Int) + (1 : Int) ∧ (↑x : Int) + (1 : Int) < (9223372036854775808 : Int)) ∧
 ∃ (y : Nat),
 y.le n.toNat ∧
 n.toNat - y < n.toNat - x ∧ ((↑x : Int) + (1 : Int) = (↑y : Int) ∧ sumZ l x + sizeT' (el l x) = sumZ l y ∧ True) ∧ True) ∧
 (((↑x : Int) < n → False) → sumZ l x = sumZ l n.toNat)) := by intros; kernel_rfl
theorem scan_step (l : D) (x : Nat) (hx : x < l.len) : scanZ l (l.len - x) x = if err1 l x ≠ 0 then ((x : Int), err1 l x) else scanZ l (l.len - (x + 1)) (x + 1) := by
  have : l.len - x = (l.len - (x + 1)) + 1 := by omega
  rw [this]; rfl
theorem err1_own {l : D} {x : Nat} (h : errT (el l x) ≠ 0) : err1 l x = errT (el l x) := by unfold err1; rw [if_pos h]
theorem err1_twice {l : D} {x : Nat} (h : errT (el l x) = 0) (ht : twiceP l x) : err1 l x = 5 := by unfold err1; rw [if_neg (fun hn => hn h), if_pos ht]
theorem err1_ok {l : D} {x : Nat} (h : errT (el l x) = 0) (ht : ¬ twiceP l x) : err1 l x = 0 := by unfold err1; rw [if_neg (fun hn => hn h), if_neg ht]
theorem scan_stop {l : D} {x : Nat} (hl : ¬ (16 : Int) < l.len) (hx : x < l.len) (hinv : scanZ l (l.len - x) x = scanZ l l.len 0) {e : Int} (he : err1 l x = e) (hn : e ≠ 0) : (badZ l).1 = x ∧ (badZ l).2 = e := by
  have hs := scan_step l x hx
  rw [hinv, if_pos (by rw [he]; exact hn), he] at hs
  have : badZ l = ((x : Int), e) := by unfold badZ; rw [if_neg (by omega), hs]
  rw [this]; exact ⟨rfl, rfl⟩
theorem scan_go {l : D} {x : Nat} (hx : x < l.len) (hinv : scanZ l (l.len - x) x = scanZ l l.len 0) (he : err1 l x = 0) : scanZ l (l.len - (x + 1)) (x + 1) = scanZ l l.len 0 := by
  have hs := scan_step l x hx
  rw [hinv, if_neg (fun h => h he)] at hs
  exact hs.symm
theorem scan_end {l : D} {x : Nat} (hl : ¬ (16 : Int) < l.len) (hx : l.len ≤ x) (hinv : scanZ l (l.len - x) x = scanZ l l.len 0) : (badZ l).1 = 0 ∧ (badZ l).2 = 0 := by
  have : l.len - x = 0 := by omega
  rw [this] at hinv
  have : badZ l = (0, 0) := by unfold badZ; rw [if_neg (by omega), ← hinv]; rfl
  rw [this]; exact ⟨rfl, rfl⟩
theorem bad_many {l : D} (hl : (16 : Int) < l.len) : (badZ l).1 = 0 ∧ (badZ l).2 = 7 := by
  have : badZ l = (0, 7) := by unfold badZ; rw [if_pos (by omega)]
  rw [this]; exact ⟨rfl, rfl⟩
theorem sub_len (l : D) (n : Nat) (h : n ≤ l.len) : (l.sub 0 n).len = n := by
  cases l <;> simp [D.sub, D.len, D.asList] at h ⊢ <;> omega
theorem sub_el (l : D) (n i : Nat) (h : i < n) : el (l.sub 0 n) i = el l i := by
  cases l <;> simp [D.sub, el, D.asList, nthD, List.getElem?_take, h]
theorem idx_ge (l : D) (s : List UInt8) : ∀ (f i : Nat), (0 ≤ idxZ l s f i ↔ ∃ k, i ≤ k ∧ k < i + f ∧ tName (el l k) = s)
  | 0, i => ⟨fun h => absurd h (by simp [idxZ]), fun ⟨k, h1, h2, _⟩ => by omega⟩
  | f + 1, i => by
    unfold idxZ
    split
    · rename_i h; exact ⟨fun _ => ⟨i, by omega, by omega, h⟩, fun _ => by omega⟩
    · rename_i h
      rw [idx_ge l s f (i + 1)]
      constructor
      · rintro ⟨k, h1, h2, h3⟩; exact ⟨k, by omega, by omega, h3⟩
      · rintro ⟨k, h1, h2, h3⟩
        refine ⟨k, ?_, by omega, h3⟩
        rcases Nat.lt_or_ge i k with h4 | h4
        · omega
        · have : k = i := by omega
          subst this; exact absurd h3 h
theorem twice_idx (l : D) (x : Nat) (h : x < l.len) : (0 ≤ idxZ (l.sub 0 x) (tName (el l x)) (l.sub 0 x).len 0 ↔ twiceP l x) := by
  rw [idx_ge, sub_len l x (by omega)]
  constructor
  · rintro ⟨k, _, h2, h3⟩; rw [sub_el l x k (by omega)] at h3; exact ⟨k, by omega, h3⟩
  · rintro ⟨k, h2, h3⟩; exact ⟨k, by omega, by omega, by rw [sub_el l x k h2]; exact h3⟩
theorem s62 (l : D) (h : smallD l) : symFun (ctx chk2 chkAnn) 5 62 [.dat 22 l] (.tup [.int .i64 (badZ l).1, .int .i64 (badZ l).2]) := by
  have hlen := h.out.1
  rw [vc62]
  simp only [imp_false, Classical.not_not, true_and, and_true]
  refine ⟨fun hl => by have := bad_many hl; exact ⟨this.1.symm, this.2.symm⟩, fun hl => ⟨⟨0, ⟨by omega, rfl⟩, rfl⟩, fun x ⟨hx, hinv⟩ => ⟨by unfold LIM; omega, fun hlt => ?_, fun hge => ?_⟩⟩⟩
  · have ht := twice_idx l x (by omega)
    have ho := h.out.2 x (by omega)
    refine ⟨by omega, hlt, by omega, by omega, by omega, ho, fun he => ⟨fun _ => ?_, fun hh => absurd hh he⟩, fun he => ⟨by rw [sub_len l x (by omega)]; omega, fun hi => ?_, fun hi => ⟨by omega, x + 1, ⟨by omega, scan_go (by omega) hinv (err1_ok he (fun h => hi (ht.2 h)))⟩, by omega, by omega⟩⟩⟩
    · have := scan_stop hl (by omega) hinv (err1_own he) he; exact ⟨this.1.symm, this.2.symm⟩
    · have := scan_stop hl (by omega) hinv (err1_twice he (ht.1 hi)) (by omega); exact ⟨this.1.symm, this.2.symm⟩
  · have := scan_end hl (by omega) hinv; exact ⟨this.1.symm, this.2.symm⟩
theorem s67 (l : D) (h : smallD l) : symFun (ctx chk2 chkAnn) 5 67 [.dat 22 l] (.tup [.int .i64 (badZ l).1, .int .i64 (badZ l).2]) := by
  have hlen := h.out.1
  rw [vc67]
  simp only [imp_false, Classical.not_not, true_and, and_true]
  refine ⟨fun hl => by have := bad_many hl; exact ⟨this.1.symm, this.2.symm⟩, fun hl => ⟨⟨0, ⟨by omega, rfl⟩, rfl⟩, fun x ⟨hx, hinv⟩ => ⟨by unfold LIM; omega, fun hlt => ?_, fun hge => ?_⟩⟩⟩
  · have ho := h.out.2 x (by omega)
    refine ⟨by omega, hlt, ho, fun he => ?_, fun he => ⟨⟨0, ⟨by omega, fun k hk => by omega⟩, rfl⟩, fun k ⟨hk, hno⟩ => ⟨by unfold LIM; omega, fun hkx => ⟨by omega, by omega, by omega, by omega, fun heq => ?_, fun hne => ⟨by omega, k + 1, ⟨by omega, fun j hj => ?_⟩, by omega, by omega⟩⟩, fun hkx => ⟨by omega, x + 1, ⟨by omega, scan_go (by omega) hinv (err1_ok he fun ht => ?_)⟩, by omega, by omega⟩⟩⟩⟩
    · have := scan_stop hl (by omega) hinv (err1_own he) he; exact ⟨this.1.symm, this.2.symm⟩
    · have := scan_stop hl (by omega) hinv (err1_twice he ⟨k, by omega, heq⟩) (by omega); exact ⟨this.1.symm, this.2.symm⟩
    · by_cases e : j = k
      · subst e; exact hne
      · exact hno j (by omega)
    · obtain ⟨j, h1, h2⟩ := ht.out
      exact hno j (by omega) h2
  · have := scan_end hl (by omega) hinv; exact ⟨this.1.symm, this.2.symm⟩
theorem size_lim' (sh a b : Int) : 0 ≤ sizeZ sh a b ∧ sizeZ sh a b ≤ 24 := by
  unfold sizeZ
  repeat' split
  all_goals omega
theorem sum_lim (l : D) : ∀ n, 0 ≤ sumZ l n ∧ sumZ l n ≤ 24 * n
  | 0 => by simp [sumZ]
  | n + 1 => by
    have h1 := sum_lim l n
    have h2 := size_lim' (tShape (el l n)) (tA (el l n)) (tB (el l n))
    have h3 : sumZ l (n + 1) = sumZ l n + sizeZ (tShape (el l n)) (tA (el l n)) (tB (el l n)) := rfl
    rw [h3]; omega
theorem s92 (l : D) (n : Int) (h0 : 0 ≤ n) (hn : n ≤ l.len) (h : seatedD l) : symFun (ctx chk2 chkAnn) 5 92 [.dat 22 l, .int .i64 n] (.int .i64 (sumZ l n.toNat)) := by
  have hlen := h.out.1
  rw [vc92]
  simp only [imp_false, Classical.not_not, true_and, and_true]
  rw [sub_len l n.toNat (by omega)]
  refine ⟨by omega, h0, hn, ⟨0, Nat.zero_le _, rfl, rfl⟩, fun x hx => ?_⟩
  have hx' : x ≤ n.toNat := hx
  have hs := sum_lim l x
  refine ⟨by unfold LIM; omega, fun hlt => ?_, fun hge => ?_⟩
  · rw [sub_el l n.toNat x (by omega)]
    have h2 := size_lim' (tShape (el l x)) (tA (el l x)) (tB (el l x))
    have h3 : sizeT' (el l x) = sizeZ (tShape (el l x)) (tA (el l x)) (tB (el l x)) := rfl
    refine ⟨by omega, hlt, h.out.2 x (by omega), by omega, by omega, x + 1, ?_, by omega, by omega, rfl⟩
    show x + 1 ≤ n.toNat
    omega
  · have : x = n.toNat := by omega
    rw [this]
theorem s70 (l : D) (n : Int) (h0 : 0 ≤ n) (hn : n ≤ l.len) (hlen : l.len ≤ 100) : symFun (ctx chk2 chkAnn) 5 70 [.dat 22 l, .int .i64 n] (.int .i64 (sumZ l n.toNat)) := by
  rw [vc70]
  simp only [imp_false, Classical.not_not, true_and, and_true]
  refine ⟨⟨0, Nat.zero_le _, rfl, rfl⟩, fun x hx => ?_⟩
  have hx' : x ≤ n.toNat := hx
  have hs := sum_lim l x
  refine ⟨by unfold LIM; omega, fun hlt => ?_, fun hge => ?_⟩
  · have h2 := size_lim' (tShape (el l x)) (tA (el l x)) (tB (el l x))
    have h3 : sizeT' (el l x) = sizeZ (tShape (el l x)) (tA (el l x)) (tB (el l x)) := rfl
    refine ⟨by omega, by omega, by omega, by omega, x + 1, ?_, by omega, by omega, rfl⟩
    show x + 1 ≤ n.toNat
    omega
  · have : x = n.toNat := by omega
    rw [this]
end Go.Ev
open Go.Proofs
namespace Go.Ev
set_option maxRecDepth 100000
theorem vc69 : ∀ (l : D),
 symFun (ctx chk2 chkAnn) (5 : Nat) (69 : FuncId) [V.dat (22 : TypeId) l] (V.dat (91 : TypeId) (listD (seatsL l l.len))) =
 (((∃ (x : Nat), (x ≤ l.len ∧ seatsL l x = []) ∧ ((0 : Int) = (↑x : Int) ∧ True ∧ True) ∧ True) ∨
 ∃ (x : Nat), (x ≤ l.len ∧ (seatsL l x = [] → False)) ∧ ((0 : Int) = (↑x : Int) ∧ False ∧ True) ∧ False ∧ True) ∧
 (∀ (x : Nat),
 x ≤ l.len ∧ seatsL l x = [] →
 l.len - x < LIM ∧
 ((↑x : Int) < (↑l.len : Int) →
 ((∃ (x_1 : Nat), (x_1 ≤ (sizeT' (el l x)).toNat ∧ seatsL l x ++ seatRow x x_1 = []) ∧ ((0 : Int) = (↑x_1 : Int) ∧ True ∧ True) ∧ True) ∨
 ∃ (x_1 : Nat),
 (x_1 ≤ (sizeT' (el l x)).toNat ∧ (seatsL l x ++ seatRow x x_1 = [] → False)) ∧
 ((0 : Int) = (↑x_1 : Int) ∧ False ∧ True) ∧ False ∧ True) ∧
 (∀ (x_1 : Nat),
 x_1 ≤ (sizeT' (el l x)).toNat ∧ seatsL l x ++ seatRow x x_1 = [] →
 (sizeT' (el l x)).toNat - x_1 < LIM ∧
 (0 : Int) ≤ (↑x : Int) ∧
 (↑x : Int) < (↑l.len : Int) ∧
 True ∧
 ((↑x_1 : Int) < sizeT' (el l x) →
 (0 : Nat) + (1 : Nat) ≤ [D.sct [D.int (↑x : Int), D.int (↑x_1 : Int)]].length ∧
 (1 : Nat) ≤ (16777216 : Nat) ∧
 ((-9223372036854775808 : Int) ≤ (↑x_1 : Int) + (1 : Int) ∧ (↑x_1 : Int) + (1 : Int) < (9223372036854775808 : Int)) ∧
 ((∃ (y : Nat),
 (y ≤ (sizeT' (el l x)).toNat ∧ seatsL l x ++ seatRow x y = []) ∧
 (sizeT' (el l x)).toNat - y < (sizeT' (el l x)).toNat - x_1 ∧
 ((↑x_1 : Int) + (1 : Int) = (↑y : Int) ∧ False ∧ True) ∧ True) ∨
 ∃ (y : Nat),
 (y ≤ (sizeT' (el l x)).toNat ∧ (seatsL l x ++ seatRow x y = [] → False)) ∧
 (sizeT' (el l x)).toNat - y < (sizeT' (el l x)).toNat - x_1 ∧
 ((↑x_1 : Int) + (1 : Int) = (↑y : Int) ∧
 ((0 : Nat) = (0 : Nat) ∧ (1 : Nat) = (seatsL l x ++ seatRow x y).length ∧ True) ∧ True) ∧
 List.take (1 : Nat) [D.sct [D.int (↑x : Int), D.int (↑x_1 : Int)]] = seatsL l x ++ seatRow x y ∧ True)) ∧
 (((↑x_1 : Int) < sizeT' (el l x) → False) →
 ((-9223372036854775808 : Int) ≤ (↑x : Int) + (1 : Int) ∧ (↑x : Int) + (1 : Int) < (9223372036854775808 : Int)) ∧
 ((∃ (y : Nat),
 (y ≤ l.len ∧ seatsL l y = []) ∧
 l.len - y < l.len - x ∧ ((↑x : Int) + (1 : Int) = (↑y : Int) ∧ True ∧ True) ∧ True) ∨
 ∃ (y : Nat),
 (y ≤ l.len ∧ (seatsL l y = [] → False)) ∧
 l.len - y < l.len - x ∧ ((↑x : Int) + (1 : Int) = (↑y : Int) ∧ False ∧ True) ∧ False ∧ True))) ∧
 ∀ (x_1 : Nat),
 x_1 ≤ (sizeT' (el l x)).toNat ∧ (seatsL l x ++ seatRow x x_1 = [] → False) →
 (sizeT' (el l x)).toNat - x_1 < LIM ∧
 (0 : Int) ≤ (↑x : Int) ∧
 (↑x : Int) < (↑l.len : Int) ∧
 True ∧
 ((↑x_1 : Int) < sizeT' (el l x) →
 (0 : Nat) + (1 : Nat) ≤ [D.sct [D.int (↑x : Int), D.int (↑x_1 : Int)]].length ∧
 (0 : Nat) + (seatsL l x ++ seatRow x x_1).length ≤ (seatsL l x ++ seatRow x x_1).length ∧
 (seatsL l x ++ seatRow x x_1).length + (1 : Nat) ≤ (16777216 : Nat) ∧
 ((-9223372036854775808 : Int) ≤ (↑x_1 : Int) + (1 : Int) ∧ (↑x_1 : Int) + (1 : Int) < (9223372036854775808 : Int)) ∧
 ((∃ (y : Nat),
 (y ≤ (sizeT' (el l x)).toNat ∧ seatsL l x ++ seatRow x y = []) ∧
 (sizeT' (el l x)).toNat - y < (sizeT' (el l x)).toNat - x_1 ∧
 ((↑x_1 : Int) + (1 : Int) = (↑y : Int) ∧ False ∧ True) ∧ True) ∨
 ∃ (y : Nat),
 (y ≤ (sizeT' (el l x)).toNat ∧ (seatsL l x ++ seatRow x y = [] → False)) ∧
 (sizeT' (el l x)).toNat - y < (sizeT' (el l x)).toNat - x_1 ∧
 ((↑x_1 : Int) + (1 : Int) = (↑y : Int) ∧
 ((0 : Nat) = (0 : Nat) ∧
 (seatsL l x ++ seatRow x x_1).length + (1 : Nat) = (seatsL l x ++ seatRow x y).length ∧ True) ∧
 True) ∧
 List.take (seatsL l x ++ seatRow x x_1).length (seatsL l x ++ seatRow x x_1) ++
 List.take (1 : Nat) [D.sct [D.int (↑x : Int), D.int (↑x_1 : Int)]] =
 seatsL l x ++ seatRow x y ∧
 True)) ∧
 (((↑x_1 : Int) < sizeT' (el l x) → False) →
 ((-9223372036854775808 : Int) ≤ (↑x : Int) + (1 : Int) ∧ (↑x : Int) + (1 : Int) < (9223372036854775808 : Int)) ∧
 ((∃ (y : Nat),
 (y ≤ l.len ∧ seatsL l y = []) ∧
 l.len - y < l.len - x ∧ ((↑x : Int) + (1 : Int) = (↑y : Int) ∧ False ∧ True) ∧ True) ∨
 ∃ (y : Nat),
 (y ≤ l.len ∧ (seatsL l y = [] → False)) ∧
 l.len - y < l.len - x ∧
 ((↑x : Int) + (1 : Int) = (↑y : Int) ∧
 ((0 : Nat) = (0 : Nat) ∧ (seatsL l x ++ seatRow x x_1).length = (seatsL l y).length ∧ True) ∧ True) ∧
 seatsL l x ++ seatRow x x_1 = seatsL l y ∧ True))) ∧
 (((↑x : Int) < (↑l.len : Int) → False) → D.nil = listD (seatsL l l.len))) ∧
 ∀ (x : Nat),
 x ≤ l.len ∧ (seatsL l x = [] → False) →
 l.len - x < LIM ∧
 ((↑x : Int) < (↑l.len : Int) →
 ((∃ (x_1 : Nat), (x_1 ≤ (sizeT' (el l x)).toNat ∧ seatsL l x ++ seatRow x x_1 = []) ∧ ((0 : Int) = (↑x_1 : Int) ∧ False ∧ True) ∧ True) ∨
 ∃ (x_1 : Nat),
 (x_1 ≤ (sizeT' (el l x)).toNat ∧ (seatsL l x ++ seatRow x x_1 = [] → False)) ∧
 ((0 : Int) = (↑x_1 : Int) ∧ ((0 : Nat) = (0 : Nat) ∧ (seatsL l x).length = (seatsL l x ++ seatRow x x_1).length ∧ True) ∧ True) ∧
 seatsL l x = seatsL l x ++ seatRow x x_1 ∧ True) ∧
 (∀ (x_1 : Nat),
 x_1 ≤ (sizeT' (el l x)).toNat ∧ seatsL l x ++ seatRow x x_1 = [] →
 (sizeT' (el l x)).toNat - x_1 < LIM ∧
 (0 : Int) ≤ (↑x : Int) ∧
 (↑x : Int) < (↑l.len : Int) ∧
 True ∧
 ((↑x_1 : Int) < sizeT' (el l x) →
 (0 : Nat) + (1 : Nat) ≤ [D.sct [D.int (↑x : Int), D.int (↑x_1 : Int)]].length ∧
 (1 : Nat) ≤ (16777216 : Nat) ∧
 ((-9223372036854775808 : Int) ≤ (↑x_1 : Int) + (1 : Int) ∧ (↑x_1 : Int) + (1 : Int) < (9223372036854775808 : Int)) ∧
 ((∃ (y : Nat),
 (y ≤ (sizeT' (el l x)).toNat ∧ seatsL l x ++ seatRow x y = []) ∧
 (sizeT' (el l x)).toNat - y < (sizeT' (el l x)).toNat - x_1 ∧
 ((↑x_1 : Int) + (1 : Int) = (↑y : Int) ∧ False ∧ True) ∧ True) ∨
 ∃ (y : Nat),
 (y ≤ (sizeT' (el l x)).toNat ∧ (seatsL l x ++ seatRow x y = [] → False)) ∧
 (sizeT' (el l x)).toNat - y < (sizeT' (el l x)).toNat - x_1 ∧
 ((↑x_1 : Int) + (1 : Int) = (↑y : Int) ∧
 ((0 : Nat) = (0 : Nat) ∧ (1 : Nat) = (seatsL l x ++ seatRow x y).length ∧ True) ∧ True) ∧
 List.take (1 : Nat) [D.sct [D.int (↑x : Int), D.int (↑x_1 : Int)]] = seatsL l x ++ seatRow x y ∧ True)) ∧
 (((↑x_1 : Int) < sizeT' (el l x) → False) →
 ((-9223372036854775808 : Int) ≤ (↑x : Int) + (1 : Int) ∧ (↑x : Int) + (1 : Int) < (9223372036854775808 : Int)) ∧
 ((∃ (y : Nat),
 (y ≤ l.len ∧ seatsL l y = []) ∧
 l.len - y < l.len - x ∧ ((↑x : Int) + (1 : Int) = (↑y : Int) ∧ True ∧ True) ∧ True) ∨
 ∃ (y : Nat),
 (y ≤ l.len ∧ (seatsL l y = [] → False)) ∧
 l.len - y < l.len - x ∧ ((↑x : Int) + (1 : Int) = (↑y : Int) ∧ False ∧ True) ∧ seatsL l x = seatsL l y ∧ True))) ∧
 ∀ (x_1 : Nat),
 x_1 ≤ (sizeT' (el l x)).toNat ∧ (seatsL l x ++ seatRow x x_1 = [] → False) →
 (sizeT' (el l x)).toNat - x_1 < LIM ∧
 (0 : Int) ≤ (↑x : Int) ∧
 (↑x : Int) < (↑l.len : Int) ∧
 True ∧
 ((↑x_1 : Int) < sizeT' (el l x) →
 (0 : Nat) + (1 : Nat) ≤ [D.sct [D.int (↑x : Int), D.int (↑x_1 : Int)]].length ∧
 (0 : Nat) + (seatsL l x ++ seatRow x x_1).length ≤ (seatsL l x ++ seatRow x x_1).length ∧
 (seatsL l x ++ seatRow x x_1).length + (1 : Nat) ≤ (16777216 : Nat) ∧
 ((-9223372036854775808 : Int) ≤ (↑x_1 : Int) + (1 : Int) ∧ (↑x_1 : Int) + (1 : Int) < (9223372036854775808 : Int)) ∧
 ((∃ (y : Nat),
 (y ≤ (sizeT' (el l x)).toNat ∧ seatsL l x ++ seatRow x y = []) ∧
 (sizeT' (el l x)).toNat - y < (sizeT' (el l x)).toNat - x_1 ∧ False) ∨
 ∃ (y : Nat),
 (y ≤ (sizeT' (el l x)).toNat ∧ (seatsL l x ++ seatRow x y = [] → False)) ∧
 (sizeT' (el l x)).toNat - y < (sizeT' (el l x)).toNat - x_1 ∧
 ((↑x_1 : Int) + (1 : Int) = (↑y : Int) ∧
 ((0 : Nat) = (0 : Nat) ∧
 (seatsL l x ++ seatRow x x_1).length + (1 : Nat) = (seatsL l x ++ seatRow x y).length ∧ True) ∧
 True) ∧
 List.take (seatsL l x ++ seatRow x x_1).length (seatsL l x ++ seatRow x x_1) ++
 List.take (1 : Nat) [D.sct [D.int (↑x : Int), D.int (↑x_1 : Int)]] =
 seatsL l x ++ seatRow x y ∧
 True)) ∧
 (((↑x_1 : Int) < sizeT' (el l x) → False) →
 ((-9223372036854775808 : Int) ≤ (↑x : Int) + (1 : Int) ∧ (↑x : Int) + (1 : Int) < (9223372036854775808 : Int)) ∧
 ((∃ (y : Nat),
 (y ≤ l.len ∧ seatsL l y = []) ∧
 l.len - y < l.len - x ∧ ((↑x : Int) + (1 : Int) = (↑y : Int) ∧ False ∧ True) ∧ True) ∨
 ∃ (y : Nat),
 (y ≤ l.len ∧ (seatsL l y = [] → False)) ∧
 l.len - y < l.len - x ∧
 ((↑x : Int) + (1 : Int) = (↑y : Int) ∧
 ((0 : Nat) = (0 : Nat) ∧ (seatsL l x ++ seatRow x x_1).length = (seatsL l y).length ∧ True) ∧ True) ∧
 seatsL l x ++ seatRow x x_1 = seatsL l y ∧ True))) ∧
 (((↑x : Int) < (↑l.len : Int) → False) →
 (0 : Nat) + (seatsL l x).length ≤ (seatsL l x).length ∧ D.list (List.take (seatsL l x).length (seatsL l x)) = listD (seatsL l l.len))) := by intros; kernel_rfl
theorem row_succ (i k : Nat) : seatRow i (k + 1) = seatRow i k ++ [.sct [.int (i : Int), .int (k : Int)]] := by
  unfold seatRow; rw [List.range_succ, List.map_append]; rfl
theorem row_len (i k : Nat) : (seatRow i k).length = k := by unfold seatRow; simp
theorem size_lim2 (d : D) : 0 ≤ sizeT' d ∧ sizeT' d ≤ 24 := by
  unfold sizeT' sizeZ
  repeat' split
  all_goals omega
theorem seats_lim (l : D) : ∀ n, (seatsL l n).length ≤ 24 * n
  | 0 => by simp [seatsL]
  | n + 1 => by
    have h1 := seats_lim l n
    have h2 := size_lim2 (el l n)
    show (seatsL l n ++ seatRow n (sizeT' (el l n)).toNat).length ≤ _
    rw [List.length_append, row_len]; omega
theorem listD_ne {l : List D} (h : l ≠ []) : listD l = .list l := by cases l with | nil => exact absurd rfl h | cons a l => rfl
set_option maxHeartbeats 1000000 in
theorem s69 (l : D) (hlen : l.len ≤ 100) : symFun (ctx chk2 chkAnn) 5 69 [.dat 22 l] (.dat 91 (listD (seatsL l l.len))) := by
  rw [vc69]
  simp only [imp_false, Classical.not_not, true_and, and_true, false_and, and_false, or_false, false_or, exists_false, Nat.zero_add]
  -- one seat more
  have more : ∀ x k, seatsL l x ++ seatRow x (k + 1) = (seatsL l x ++ seatRow x k) ++ [.sct [.int (x : Int), .int (k : Int)]] := fun x k => by rw [row_succ, List.append_assoc]
  have lim : ∀ x k, x < l.len → k ≤ (sizeT' (el l x)).toNat → (seatsL l x ++ seatRow x k).length + 1 ≤ 16777216 := fun x k hx hk => by
    have := seats_lim l x
    have := size_lim2 (el l x)
    rw [List.length_append, row_len]; omega
  have done : ∀ x k, k ≤ (sizeT' (el l x)).toNat → ¬ (k : Int) < sizeT' (el l x) → seatsL l x ++ seatRow x k = seatsL l (x + 1) := fun x k hk hn => by
    have := size_lim2 (el l x)
    have e : k = (sizeT' (el l x)).toNat := by omega
    rw [e]; rfl
  have lm : ∀ x, (sizeT' (el l x)).toNat < 1000 := fun x => by have := size_lim2 (el l x); omega
  -- the inner loop, where nothing is there yet
  refine ⟨⟨0, ⟨by omega, rfl⟩, rfl⟩, ?_, ?_⟩
  · rintro x ⟨hx, hnil⟩
    refine ⟨by unfold LIM; omega, fun hlt => ⟨⟨0, ⟨by omega, by rw [hnil]; rfl⟩, rfl⟩, ?_, ?_⟩, fun hge => ?_⟩
    · rintro k ⟨hk, hkn⟩
      have := lm x
      refine ⟨by unfold LIM; omega, by omega, hlt, fun h1 => ⟨by simp, by omega, by omega, ?_⟩, fun h1 => ⟨by omega, ?_⟩⟩
      · exact ⟨k + 1, ⟨by omega, by rw [more]; simp⟩, by omega, ⟨by omega, by rw [more, hkn]; rfl⟩, by rw [more, hkn]; rfl⟩
      · exact ⟨x + 1, ⟨by omega, by rw [← done x k hk h1]; exact hkn⟩, by omega, by omega⟩
    · rintro k ⟨hk, hkn⟩
      have := lm x
      refine ⟨by unfold LIM; omega, by omega, hlt, fun h1 => ⟨by simp, by omega, lim x k (by omega) hk, by omega, ?_⟩, fun h1 => ⟨by omega, ?_⟩⟩
      · exact ⟨k + 1, ⟨by omega, by rw [more]; simp⟩, by omega, ⟨by omega, by rw [more]; simp; omega⟩, by rw [more, List.take_of_length_le (Nat.le_refl _)]; rfl⟩
      · exact ⟨x + 1, ⟨by omega, by rw [← done x k hk h1]; exact hkn⟩, by omega, ⟨by omega, by rw [done x k hk h1]⟩, done x k hk h1⟩
    · have : x = l.len := by omega
      rw [← this, hnil]; rfl
  · rintro x ⟨hx, hne⟩
    refine ⟨by unfold LIM; omega, fun hlt => ⟨⟨0, ⟨by omega, by simpa [seatRow] using hne⟩, ⟨rfl, by simp [seatRow]⟩, by simp [seatRow]⟩, ?_, ?_⟩, fun hge => ?_⟩
    · rintro k ⟨hk, hkn⟩
      exact absurd (List.append_eq_nil_iff.1 hkn).1 hne
    · rintro k ⟨hk, hkn⟩
      have := lm x
      refine ⟨by unfold LIM; omega, by omega, hlt, fun h1 => ⟨by simp, by omega, lim x k (by omega) hk, by omega, ?_⟩, fun h1 => ⟨by omega, ?_⟩⟩
      · exact ⟨k + 1, ⟨by omega, by rw [more]; simp⟩, by omega, ⟨by omega, by rw [more]; simp; omega⟩, by rw [more, List.take_of_length_le (Nat.le_refl _)]; rfl⟩
      · exact ⟨x + 1, ⟨by omega, by rw [← done x k hk h1]; exact hkn⟩, by omega, ⟨by omega, by rw [done x k hk h1]⟩, done x k hk h1⟩
    · have : x = l.len := by omega
      subst this
      rw [List.take_of_length_le (Nat.le_refl _), listD_ne hne]
      exact ⟨Nat.le_refl _, rfl⟩
end Go.Ev
open Go.Proofs
namespace Go.Ev
set_option maxRecDepth 100000
theorem vc60 : ∀ (a b : D),
 symFun (ctx chk2 chkAnn) (5 : Nat) (60 : FuncId) [V.dat (22 : TypeId) a, V.dat (22 : TypeId) b] (V.prop (sameAll a b)) =
 ((((↑a.len : Int) = (↑b.len : Int) → False) → (false = true ↔ sameAll a b)) ∧
 ((((↑a.len : Int) = (↑b.len : Int) → False) → False) →
 (∃ (x : Nat), (x ≤ a.len ∧ ∀ (i : Nat), i < x → sameT (el a i) (el b i)) ∧ ((0 : Int) = (↑x : Int) ∧ True) ∧ True) ∧
 ∀ (x : Nat),
 (x ≤ a.len ∧ ∀ (i : Nat), i < x → sameT (el a i) (el b i)) →
 a.len - x < LIM ∧
 ((↑x : Int) < (↑a.len : Int) →
 (0 : Int) ≤ (↑x : Int) ∧
 (↑x : Int) < (↑a.len : Int) ∧
 (0 : Int) ≤ (↑x : Int) ∧
 (↑x : Int) < (↑b.len : Int) ∧
 (tOpen (el a x)).len ≤ (100 : Nat) ∧
 (((tName (el a x) = tName (el b x) ∧
 tShape (el a x) = tShape (el b x) ∧
 tA (el a x) = tA (el b x) ∧
 tB (el a x) = tB (el b x) ∧
 tX (el a x) = tX (el b x) ∧
 tY (el a x) = tY (el b x) ∧
 (tOpen (el a x)).len = (tOpen (el b x)).len ∧
 ∀ (i : Nat), i < (tOpen (el a x)).len → atI (tOpen (el a x)) i = atI (tOpen (el b x)) i) →
 False) →
 (false = true ↔ sameAll a b)) ∧
 ((((tName (el a x) = tName (el b x) ∧
 tShape (el a x) = tShape (el b x) ∧
 tA (el a x) = tA (el b x) ∧
 tB (el a x) = tB (el b x) ∧
 tX (el a x) = tX (el b x) ∧
 tY (el a x) = tY (el b x) ∧
 (tOpen (el a x)).len = (tOpen (el b x)).len ∧
 ∀ (i : Nat), i < (tOpen (el a x)).len → atI (tOpen (el a x)) i = atI (tOpen (el b x)) i) →
 False) →
 False) →
 ((-9223372036854775808 : Int) ≤ (↑x : Int) + (1 : Int) ∧ (↑x : Int) + (1 : Int) < (9223372036854775808 : Int)) ∧
 ∃ (y : Nat),
 (y ≤ a.len ∧ ∀ (i : Nat), i < y → sameT (el a i) (el b i)) ∧
 a.len - y < a.len - x ∧ ((↑x : Int) + (1 : Int) = (↑y : Int) ∧ True) ∧ True)) ∧
 (((↑x : Int) < (↑a.len : Int) → False) → (true = true ↔ sameAll a b)))) := by intros; kernel_rfl
theorem vc19 : ∀ (l : D),
 symFun (ctx chk2 chkAnn) (5 : Nat) (19 : FuncId) [V.dat (22 : TypeId) l] (V.prop (fewD l)) =
 (((↑l.len : Int) ≤ (20 : Int) →
 (∃ (x : Nat), (x ≤ l.len ∧ ∀ (i : Nat), i < x → fewT (el l i)) ∧ ((0 : Int) = (↑x : Int) ∧ True) ∧ True) ∧
 ∀ (x : Nat),
 (x ≤ l.len ∧ ∀ (i : Nat), i < x → fewT (el l i)) →
 l.len - x < LIM ∧
 ((↑x : Int) < (↑l.len : Int) →
 (0 : Int) ≤ (↑x : Int) ∧
 (↑x : Int) < (↑l.len : Int) ∧
 (((40 : Int) < (↑(tName (el l x)).length : Int) → False) →
 ((40 : Int) < (↑(tOpen (el l x)).len : Int) → ((0 : Int) ≤ (↑x : Int) → False ↔ fewD l)) ∧
 (((40 : Int) < (↑(tOpen (el l x)).len : Int) → False) →
 ((-9223372036854775808 : Int) ≤ (↑x : Int) + (1 : Int) ∧ (↑x : Int) + (1 : Int) < (9223372036854775808 : Int)) ∧
 ∃ (y : Nat),
 (y ≤ l.len ∧ ∀ (i : Nat), i < y → fewT (el l i)) ∧
 l.len - y < l.len - x ∧ ((↑x : Int) + (1 : Int) = (↑y : Int) ∧ True) ∧ True)) ∧
 ((40 : Int) < (↑(tName (el l x)).length : Int) → ((0 : Int) ≤ (↑x : Int) → False ↔ fewD l))) ∧
 (((↑x : Int) < (↑l.len : Int) → False) → ((!false) = true ↔ fewD l))) ∧
 (((↑l.len : Int) ≤ (20 : Int) → False) → (false = true ↔ fewD l))) := by intros; kernel_rfl
theorem s60 (a b : D) (h : smallD a) : symFun (ctx chk2 chkAnn) 5 60 [.dat 22 a, .dat 22 b] (.prop (sameAll a b)) := by
  have hlen := h.out.1
  rw [vc60]
  simp only [imp_false, Classical.not_not, true_and, and_true]
  refine ⟨fun hne => ⟨fun h => by simp at h, fun h => absurd (by rw [h.out.1]) hne⟩, fun heq => ⟨⟨0, ⟨by omega, fun i hi => by omega⟩, rfl⟩, fun x ⟨hx, hinv⟩ => ⟨by unfold LIM; omega, fun hlt => ⟨by omega, hlt, by omega, by omega, h.out.2 x (by omega), fun hn => ⟨fun h => by simp at h, fun h => absurd (h.out.2 x (by omega)).out hn⟩, fun hs => ⟨by omega, x + 1, ⟨by omega, fun i hi => ?_⟩, by omega, by omega⟩⟩, fun hge => ⟨fun _ => ⟨by omega, fun i hi => hinv i (by omega)⟩, fun _ => by first | rfl | trivial⟩⟩⟩⟩
  by_cases e : i = x
  · subst e; exact ⟨hs⟩
  · exact hinv i (by omega)
theorem s19 (l : D) : symFun (ctx chk2 chkAnn) 5 19 [.dat 22 l] (.prop (fewD l)) := by
  rw [vc19]
  simp only [imp_false, Classical.not_not, true_and, and_true]
  have no : ∀ x, x < l.len → ¬ ((tName (el l x)).length ≤ 40 ∧ (tOpen (el l x)).len ≤ 40) → ¬ fewD l := fun x hx hn h => hn (h.out.2 x hx).out
  refine ⟨fun hl => ⟨⟨0, ⟨by omega, fun i hi => by omega⟩, rfl⟩, fun x ⟨hx, hinv⟩ => ⟨by unfold LIM; omega, fun hlt => ⟨by omega, hlt, fun h1 => ⟨fun h2 => ⟨fun h => absurd (by omega) h, fun h => absurd h (no x (by omega) (by omega))⟩, fun h2 => ⟨by omega, x + 1, ⟨by omega, fun i hi => ?_⟩, by omega, by omega⟩⟩, fun h1 => ⟨fun h => absurd (by omega) h, fun h => absurd h (no x (by omega) (by omega))⟩⟩, fun hge => ⟨fun _ => ⟨by omega, fun i hi => hinv i (by omega)⟩, fun _ => by first | rfl | trivial⟩⟩⟩, fun hl => ⟨fun h => by simp at h, fun h => absurd h.out.1 (by omega)⟩⟩
  by_cases e : i = x
  · subst e; exact ⟨by omega, by omega⟩
  · exact hinv i (by omega)
end Go.Ev
