/-
  Part of the engine that the claim is proved with: it states nothing of the document by itself.
-/
import Derived.Test.YtidhienppjdimaaGreatDoorCoreG22

section
open Go.Proofs
namespace Go.Ev
set_option maxRecDepth 100000
set_option maxHeartbeats 4000000
theorem sub_len (l : D) (n : Nat) (h : n ≤ l.len) : (l.sub 0 n).len = n := by
 cases l <;> simp [D.sub, D.len, D.asList] at h ⊢ <;> omega
theorem sub_el (l : D) (n i : Nat) (h : i < n) : el (l.sub 0 n) i = el l i := by
 cases l <;> simp [D.sub, el, D.asList, nthD, List.getElem?_take, h]
theorem sub_sAt (l : D) (n i : Nat) (h : i < n) : sAt (l.sub 0 n) i = sAt l i := congrArg D.asStr (sub_el l n i h)
theorem sub_has (l : D) (x : Nat) (h : x ≤ l.len) (s : List UInt8) : hasP (l.sub 0 x) s ↔ ∃ k, k < x ∧ sAt l k = s := by
 constructor
 ·rintro ⟨k, h1, h2⟩
  rw [sub_len l x h] at h1
  rw [sub_sAt l x k h1] at h2
  exact ⟨k, h1, h2⟩
 ·rintro ⟨k, h1, h2⟩
  exact ⟨k, by rw [sub_len l x h]; exact h1, by rw [sub_sAt l x k h1]; exact h2⟩
theorem vc107 : ∀ (l : D) (s : List UInt8), symFun (ctx (fun _ => none) ccAnn) (3 : Nat) (107 : FuncId) [V.dat (23 : TypeId) l, V.str s] (V.prop (hasP l s)) = ((∃ (x : Nat), (x ≤ l.len ∧ ∀ (i : Nat), i
< x → sAt l i = s → False) ∧ ((0 : Int) = (↑x : Int) ∧ True) ∧ True) ∧ ∀ (x : Nat), (x ≤ l.len ∧ ∀ (i : Nat), i < x → sAt l i = s → False) → l.len - x < LIM ∧ ((↑x : Int) < (↑l.len : Int) → (0 : Int)
≤ (↑x : Int) ∧ (↑x : Int) < (↑l.len : Int) ∧ (s = sAt l x → ((0 : Int) ≤ (↑x : Int) ↔ hasP l s)) ∧ ((s = sAt l x → False) → ((-9223372036854775808 : Int) ≤ (↑x : Int) + (1 : Int) ∧ (↑x : Int) + (1 :
Int) < (9223372036854775808 : Int)) ∧ ∃ (y : Nat), (y ≤ l.len ∧ ∀ (i : Nat), i < y → sAt l i = s → False) ∧ l.len - y < l.len - x ∧ ((↑x : Int) + (1 : Int) = (↑y : Int) ∧ True) ∧ True)) ∧ (((↑x : Int)
< (↑l.len : Int) → False) → (false = true ↔ hasP l s))) := by intros; kernel_rfl
theorem vc116 : ∀ (l : D) (s : List UInt8), symFun (ctx (fun _ => none) ccAnn) (3 : Nat) (116 : FuncId) [V.dat (23 : TypeId) l, V.str s] (V.prop (hasP l s)) = ((∃ (x : Nat), (x ≤ l.len ∧ ∀ (i : Nat), i
< x → sAt l i = s → False) ∧ ((0 : Int) = (↑x : Int) ∧ True) ∧ True) ∧ ∀ (x : Nat), (x ≤ l.len ∧ ∀ (i : Nat), i < x → sAt l i = s → False) → l.len - x < LIM ∧ ((↑x : Int) < (↑l.len : Int) → (0 : Int)
≤ (↑x : Int) ∧ (↑x : Int) < (↑l.len : Int) ∧ (sAt l x = s → (true = true ↔ hasP l s)) ∧ ((sAt l x = s → False) → ((-9223372036854775808 : Int) ≤ (↑x : Int) + (1 : Int) ∧ (↑x : Int) + (1 : Int) <
(9223372036854775808 : Int)) ∧ ∃ (y : Nat), (y ≤ l.len ∧ ∀ (i : Nat), i < y → sAt l i = s → False) ∧ l.len - y < l.len - x ∧ ((↑x : Int) + (1 : Int) = (↑y : Int) ∧ True) ∧ True)) ∧ (((↑x : Int) <
(↑l.len : Int) → False) → (false = true ↔ hasP l s))) := by intros; kernel_rfl
theorem vc115 : ∀ (s : List UInt8), symFun (ctx (fun _ => none) ccAnn) (3 : Nat) (115 : FuncId) [V.str s] (V.prop (nameP s)) = ((((↑s.length : Int) < (1 : Int) → False) → ((12 : Int) < (↑s.length : Int)
→ (false = true ↔ nameP s)) ∧ (((12 : Int) < (↑s.length : Int) → False) → (∃ (x : Nat), (x ≤ s.length ∧ ∀ (i : Nat), i < x → (97 : Int) ≤ byteAt s i ∧ byteAt s i ≤ (122 : Int)) ∧ ((0 : Int) = (↑x :
Int) ∧ True) ∧ True) ∧ ∀ (x : Nat), (x ≤ s.length ∧ ∀ (i : Nat), i < x → (97 : Int) ≤ byteAt s i ∧ byteAt s i ≤ (122 : Int)) → s.length - x < LIM ∧ ((↑x : Int) < (↑s.length : Int) → (0 : Int) ≤ (↑x :
Int) ∧ (↑x : Int) < (↑s.length : Int) ∧ ((byteAt s x < (97 : Int) → False) → (0 : Int) ≤ (↑x : Int) ∧ (↑x : Int) < (↑s.length : Int) ∧ ((122 : Int) < byteAt s x → (false = true ↔ nameP s)) ∧ (((122 :
Int) < byteAt s x → False) → ((-9223372036854775808 : Int) ≤ (↑x : Int) + (1 : Int) ∧ (↑x : Int) + (1 : Int) < (9223372036854775808 : Int)) ∧ ∃ (y : Nat), (y ≤ s.length ∧ ∀ (i : Nat), i < y → (97 :
Int) ≤ byteAt s i ∧ byteAt s i ≤ (122 : Int)) ∧ s.length - y < s.length - x ∧ ((↑x : Int) + (1 : Int) = (↑y : Int) ∧ True) ∧ True)) ∧ (byteAt s x < (97 : Int) → (false = true ↔ nameP s))) ∧ (((↑x :
Int) < (↑s.length : Int) → False) → (true = true ↔ nameP s)))) ∧ ((↑s.length : Int) < (1 : Int) → (false = true ↔ nameP s))) := by intros; kernel_rfl
theorem vc77 : ∀ (a b : D), symFun (ctx (fun _ => none) ccAnn) (3 : Nat) (77 : FuncId) [V.dat (23 : TypeId) a, V.dat (23 : TypeId) b] (V.prop (eqS a b)) = ((((↑a.len : Int) = (↑b.len : Int) → False) →
(false = true ↔ eqS a b)) ∧ ((((↑a.len : Int) = (↑b.len : Int) → False) → False) → (∃ (x : Nat), (x ≤ a.len ∧ ∀ (i : Nat), i < x → sAt a i = sAt b i) ∧ ((0 : Int) = (↑x : Int) ∧ True) ∧ True) ∧ ∀ (x :
Nat), (x ≤ a.len ∧ ∀ (i : Nat), i < x → sAt a i = sAt b i) → a.len - x < LIM ∧ ((↑x : Int) < (↑a.len : Int) → (0 : Int) ≤ (↑x : Int) ∧ (↑x : Int) < (↑a.len : Int) ∧ (0 : Int) ≤ (↑x : Int) ∧ (↑x : Int)
< (↑b.len : Int) ∧ ((sAt a x = sAt b x → False) → (false = true ↔ eqS a b)) ∧ (((sAt a x = sAt b x → False) → False) → ((-9223372036854775808 : Int) ≤ (↑x : Int) + (1 : Int) ∧ (↑x : Int) + (1 : Int) <
(9223372036854775808 : Int)) ∧ ∃ (y : Nat), (y ≤ a.len ∧ ∀ (i : Nat), i < y → sAt a i = sAt b i) ∧ a.len - y < a.len - x ∧ ((↑x : Int) + (1 : Int) = (↑y : Int) ∧ True) ∧ True)) ∧ (((↑x : Int) <
(↑a.len : Int) → False) → (true = true ↔ eqS a b)))) := by intros; kernel_rfl
theorem vc114 : ∀ (k : Int) (a : List UInt8) (la : Prop) (nm : D) (n : Int), symFun (ctx (fun _ => none) ccAnn) (3 : Nat) (114 : FuncId) [V.agg [V.int IntKind.u8 k, V.str a, V.prop la, V.dat (23 : TypeId) nm, V.int IntKind.i64 n]] (V.prop (formP k a la nm.len n)) = ((k = (1 : Int) → ((1 : Int) ≤ (↑nm.len : Int) → ((↑nm.len : Int) ≤ (16 : Int) → (n = (0 : Int) → ((la → False) → (a = [] ↔ formP k
a la nm.len n)) ∧ (((la → False) → False) → (false = true ↔ formP k a la nm.len n))) ∧ ((n = (0 : Int) → False) → (false = true ↔ formP k a la nm.len n))) ∧ (((↑nm.len : Int) ≤ (16 : Int) → False) →
(false = true ↔ formP k a la nm.len n))) ∧ (((1 : Int) ≤ (↑nm.len : Int) → False) → (false = true ↔ formP k a la nm.len n))) ∧ ((k = (1 : Int) → False) → (k = (2 : Int) → ((↑nm.len : Int) = (0 : Int)
→ (n = (0 : Int) → (la → False ↔ formP k a la nm.len n)) ∧ ((n = (0 : Int) → False) → (false = true ↔ formP k a la nm.len n))) ∧ (((↑nm.len : Int) = (0 : Int) → False) → (false = true ↔ formP k a la
nm.len n))) ∧ ((k = (2 : Int) → False) → (k = (3 : Int) → ((↑nm.len : Int) = (0 : Int) → (n = (0 : Int) → (la → False ↔ formP k a la nm.len n)) ∧ ((n = (0 : Int) → False) → (false = true ↔ formP k a
la nm.len n))) ∧ (((↑nm.len : Int) = (0 : Int) → False) → (false = true ↔ formP k a la nm.len n))) ∧ ((k = (3 : Int) → False) → (k = (8 : Int) → ((↑nm.len : Int) = (0 : Int) → (n = (0 : Int) → (la →
False ↔ formP k a la nm.len n)) ∧ ((n = (0 : Int) → False) → (false = true ↔ formP k a la nm.len n))) ∧ (((↑nm.len : Int) = (0 : Int) → False) → (false = true ↔ formP k a la nm.len n))) ∧ ((k = (8 :
Int) → False) → (k = (9 : Int) → ((↑nm.len : Int) = (0 : Int) → (n = (0 : Int) → (la → False ↔ formP k a la nm.len n)) ∧ ((n = (0 : Int) → False) → (false = true ↔ formP k a la nm.len n))) ∧
(((↑nm.len : Int) = (0 : Int) → False) → (false = true ↔ formP k a la nm.len n))) ∧ ((k = (9 : Int) → False) → (k = (4 : Int) → ((↑nm.len : Int) = (0 : Int) → ((1 : Int) ≤ n → (n ≤ (2 : Int) ↔ formP k
a la nm.len n)) ∧ (((1 : Int) ≤ n → False) → (false = true ↔ formP k a la nm.len n))) ∧ (((↑nm.len : Int) = (0 : Int) → False) → (false = true ↔ formP k a la nm.len n))) ∧ ((k = (4 : Int) → False) →
(k = (5 : Int) → ((↑nm.len : Int) = (0 : Int) → (n = (0 : Int) ↔ formP k a la nm.len n)) ∧ (((↑nm.len : Int) = (0 : Int) → False) → (false = true ↔ formP k a la nm.len n))) ∧ ((k = (5 : Int) → False)
→ (k = (6 : Int) → ((1 : Int) ≤ (↑nm.len : Int) → ((↑nm.len : Int) ≤ (16 : Int) → (n = (0 : Int) ↔ formP k a la nm.len n)) ∧ (((↑nm.len : Int) ≤ (16 : Int) → False) → (false = true ↔ formP k a la
nm.len n))) ∧ (((1 : Int) ≤ (↑nm.len : Int) → False) → (false = true ↔ formP k a la nm.len n))) ∧ ((k = (6 : Int) → False) → (k = (7 : Int) → ((1 : Int) ≤ (↑nm.len : Int) → ((↑nm.len : Int) ≤ (16 :
Int) → (n = (0 : Int) ↔ formP k a la nm.len n)) ∧ (((↑nm.len : Int) ≤ (16 : Int) → False) → (false = true ↔ formP k a la nm.len n))) ∧ (((1 : Int) ≤ (↑nm.len : Int) → False) → (false = true ↔ formP k
a la nm.len n))) ∧ ((k = (7 : Int) → False) → (k = (10 : Int) → ((↑nm.len : Int) = (0 : Int) → ((0 : Int) ≤ n → (n ≤ (63 : Int) → (la → False ↔ formP k a la nm.len n)) ∧ ((n ≤ (63 : Int) → False) →
(false = true ↔ formP k a la nm.len n))) ∧ (((0 : Int) ≤ n → False) → (false = true ↔ formP k a la nm.len n))) ∧ (((↑nm.len : Int) = (0 : Int) → False) → (false = true ↔ formP k a la nm.len n))) ∧ ((k
= (10 : Int) → False) → (false = true ↔ formP k a la nm.len n)))))))))))) := by intros; kernel_rfl
theorem vc92 : ∀ (l : D), symFun (ctx cc1 ccAnn) (3 : Nat) (92 : FuncId) [V.dat (23 : TypeId) l] (V.prop (twiceP l)) = ((∃ (x : Nat), (x ≤ l.len ∧ ∀ (i k : Nat), k < i → i < x → sAt l k = sAt l i →
False) ∧ ((0 : Int) = (↑x : Int) ∧ True) ∧ True) ∧ ∀ (x : Nat), (x ≤ l.len ∧ ∀ (i k : Nat), k < i → i < x → sAt l k = sAt l i → False) → l.len - x < LIM ∧ ((↑x : Int) < (↑l.len : Int) → (0 : Int) ≤
(↑x : Int) ∧ (↑x : Int) < (↑l.len : Int) ∧ (0 : Int) ≤ (0 : Int) ∧ (0 : Int) ≤ (↑x : Int) ∧ (↑x : Int) ≤ (↑l.len : Int) ∧ (l.sub (0 : Nat) x).len ≤ (100 : Nat) ∧ (hasP (l.sub (0 : Nat) x) (sAt l x) →
(true = true ↔ twiceP l)) ∧ ((hasP (l.sub (0 : Nat) x) (sAt l x) → False) → ((-9223372036854775808 : Int) ≤ (↑x : Int) + (1 : Int) ∧ (↑x : Int) + (1 : Int) < (9223372036854775808 : Int)) ∧ ∃ (y :
Nat), (y ≤ l.len ∧ ∀ (i k : Nat), k < i → i < y → sAt l k = sAt l i → False) ∧ l.len - y < l.len - x ∧ ((↑x : Int) + (1 : Int) = (↑y : Int) ∧ True) ∧ True)) ∧ (((↑x : Int) < (↑l.len : Int) → False) →
(false = true ↔ twiceP l))) := by intros; kernel_rfl
theorem vc93 : ∀ (c : D) (s : List UInt8), symFun (ctx cc1 (lstAnn s)) (6 : Nat) (93 : FuncId) [V.dat (22 : TypeId) c, V.str s] (V.prop (listedP c c.len s)) = ((∃ (x : Nat), (x ≤ c.len ∧ ∀ (k : Nat),
k < x → cK (el c k) = (1 : Int) ∧ hasP (cNm (el c k)) s → False) ∧ ((0 : Int) = (↑x : Int) ∧ True) ∧ True) ∧ ∀ (x : Nat), (x ≤ c.len ∧ ∀ (k : Nat), k < x → cK (el c k) = (1 : Int) ∧ hasP (cNm (el c
k)) s → False) → c.len - x < LIM ∧ ((↑x : Int) < (↑c.len : Int) → (0 : Int) ≤ (↑x : Int) ∧ (↑x : Int) < (↑c.len : Int) ∧ (cK (el c x) = (1 : Int) → (cNm (el c x)).len ≤ (100 : Nat) ∧ (hasP (cNm (el c
x)) s → ((0 : Int) ≤ (↑x : Int) ↔ listedP c c.len s)) ∧ ((hasP (cNm (el c x)) s → False) → ((-9223372036854775808 : Int) ≤ (↑x : Int) + (1 : Int) ∧ (↑x : Int) + (1 : Int) < (9223372036854775808 :
Int)) ∧ ∃ (y : Nat), (y ≤ c.len ∧ ∀ (k : Nat), k < y → cK (el c k) = (1 : Int) ∧ hasP (cNm (el c k)) s → False) ∧ c.len - y < c.len - x ∧ ((↑x : Int) + (1 : Int) = (↑y : Int) ∧ True) ∧ True)) ∧ ((cK
(el c x) = (1 : Int) → False) → ((-9223372036854775808 : Int) ≤ (↑x : Int) + (1 : Int) ∧ (↑x : Int) + (1 : Int) < (9223372036854775808 : Int)) ∧ ∃ (y : Nat), (y ≤ c.len ∧ ∀ (k : Nat), k < y → cK (el c
k) = (1 : Int) ∧ hasP (cNm (el c k)) s → False) ∧ c.len - y < c.len - x ∧ ((↑x : Int) + (1 : Int) = (↑y : Int) ∧ True) ∧ True)) ∧ (((↑x : Int) < (↑c.len : Int) → False) → (false = true ↔ listedP c
c.len s))) := by intros; kernel_rfl
theorem vc55 : ∀ (k : Int) (a : List UInt8) (la : Prop) (nm : D) (n k' : Int) (a' : List UInt8) (la' : Prop) (nm' : D) (n' : Int), symFun (ctx cc1 ccAnn) (3 : Nat) (55 : FuncId) [V.agg [V.int
IntKind.u8 k, V.str a, V.prop la, V.dat (23 : TypeId) nm, V.int IntKind.i64 n], V.agg [V.int IntKind.u8 k', V.str a', V.prop la', V.dat (23 : TypeId) nm', V.int IntKind.i64 n']] (V.prop (k = k' ∧ a =
a' ∧ (la ↔ la') ∧ n = n' ∧ eqS nm nm')) = ((k = k' → (a = a' → ((la ↔ la') → (n = n' → nm.len ≤ (100 : Nat) ∧ (eqS nm nm' ↔ k = k' ∧ a = a' ∧ (la ↔ la') ∧ n = n' ∧ eqS nm nm')) ∧ ((n = n' → False) →
(false = true ↔ k = k' ∧ a = a' ∧ (la ↔ la') ∧ n = n' ∧ eqS nm nm'))) ∧ (((la ↔ la') → False) → (false = true ↔ k = k' ∧ a = a' ∧ (la ↔ la') ∧ n = n' ∧ eqS nm nm'))) ∧ ((a = a' → False) → (false =
true ↔ k = k' ∧ a = a' ∧ (la ↔ la') ∧ n = n' ∧ eqS nm nm'))) ∧ ((k = k' → False) → (false = true ↔ k = k' ∧ a = a' ∧ (la ↔ la') ∧ n = n' ∧ eqS nm nm'))) := by intros; kernel_rfl
theorem nm_no {s : List UInt8} {x : Nat} (hx : x < s.length) (hn : ¬ (97 ≤ byteAt s x ∧ byteAt s x ≤ 122)) : ¬ nameP s := fun h => hn (h.out.2.2 x hx)
theorem s107 (l : D) (s : List UInt8) (h : l.len ≤ 100) : symFun (ctx (fun _ => none) ccAnn) 3 107 [.dat 23 l, .str s] (.prop (hasP l s)) := by
 rw [vc107]
 simp only [imp_false, Classical.not_not, true_and, and_true]
 refine ⟨⟨0, ⟨by omega, fun i hi => by omega⟩, rfl⟩, fun x ⟨hx, hinv⟩ => ⟨by unfold LIM; omega, fun hlt => ⟨by omega, hlt, fun he => ⟨fun _ => ⟨x, by omega, he.symm⟩, fun _ => by omega⟩, fun hn => ⟨by omega, x + 1, ⟨by omega, fun i hi => ?_⟩, by omega, by omega⟩⟩, fun hge => ⟨fun h => by simp at h, fun h => ?_⟩⟩⟩
 ·by_cases e : i = x
  ·subst e; exact fun h => hn h.symm
  ·exact hinv i (by omega)
 ·obtain ⟨i, h1, h2⟩ := h.out; exact absurd h2 (hinv i (by omega))
theorem s116 (l : D) (s : List UInt8) (h : l.len ≤ 100) : symFun (ctx (fun _ => none) ccAnn) 3 116 [.dat 23 l, .str s] (.prop (hasP l s)) := by
 rw [vc116]
 simp only [imp_false, Classical.not_not, true_and, and_true]
 refine ⟨⟨0, ⟨by omega, fun i hi => by omega⟩, rfl⟩, fun x ⟨hx, hinv⟩ => ⟨by unfold LIM; omega, fun hlt => ⟨by omega, hlt, fun he => ⟨fun _ => ⟨x, by omega, he⟩, fun _ => by first | rfl | trivial⟩, fun hn => ⟨by omega, x + 1, ⟨by omega, fun i hi => ?_⟩, by omega, by omega⟩⟩, fun hge => ⟨fun h => by simp at h, fun h => ?_⟩⟩⟩
 ·by_cases e : i = x
  ·subst e; exact hn
  ·exact hinv i (by omega)
 ·obtain ⟨i, h1, h2⟩ := h.out; exact absurd h2 (hinv i (by omega))
theorem s115 (s : List UInt8) : symFun (ctx (fun _ => none) ccAnn) 3 115 [.str s] (.prop (nameP s)) := by
 rw [vc115]
 simp only [imp_false, Classical.not_not, true_and, and_true]
 have no : ∀ x, x < s.length → ¬ (97 ≤ byteAt s x ∧ byteAt s x ≤ 122) → (false = true ↔ nameP s) := fun x hx hn => ⟨fun h => by simp at h, fun h => absurd (h.out.2.2 x hx) hn⟩
 have bad : ¬ (1 ≤ s.length ∧ s.length ≤ 12) → (false = true ↔ nameP s) := fun hn => ⟨fun h => by simp at h, fun h => absurd ⟨h.out.1, h.out.2.1⟩ hn⟩
 refine ⟨fun h1 => ⟨fun h2 => bad (by omega), fun h2 => ⟨⟨0, ⟨by omega, fun i hi => by omega⟩, rfl⟩, fun x ⟨hx, hinv⟩ => ⟨by unfold LIM; omega, fun hlt => ⟨by omega, by omega, fun h3 => ⟨by omega, by omega, fun h4 => no x (by omega) (by omega), fun h4 => ⟨by omega, x + 1, ⟨by omega, fun i hi => ?_⟩, by omega, by omega⟩⟩, fun h3 => no x (by omega) (by omega)⟩, fun hge => ⟨fun _ => ⟨by omega, by omega, fun i hi => hinv i (by omega)⟩, fun _ => by first | rfl | trivial⟩⟩⟩⟩, fun h1 => bad (by omega)⟩
 by_cases e : i = x
 ·subst e; exact ⟨by omega, by omega⟩
 ·exact hinv i (by omega)
theorem s77 (a b : D) (h : a.len ≤ 100) : symFun (ctx (fun _ => none) ccAnn) 3 77 [.dat 23 a, .dat 23 b] (.prop (eqS a b)) := by
 rw [vc77]
 simp only [imp_false, Classical.not_not, true_and, and_true]
 refine ⟨fun hne => ⟨fun h => by simp at h, fun h => absurd (by rw [h.out.1]) hne⟩, fun heq => ⟨⟨0, ⟨by omega, fun i hi => by omega⟩, rfl⟩, fun x ⟨hx, hinv⟩ => ⟨by unfold LIM; omega, fun hlt => ⟨by omega, hlt, by omega, by omega, fun hn => ⟨fun h => by simp at h, fun h => absurd (h.out.2 x (by omega)) hn⟩, fun hs => ⟨by omega, x + 1, ⟨by omega, fun i hi => ?_⟩, by omega, by omega⟩⟩, fun hge => ⟨fun _ => ⟨by omega, fun i hi => hinv i (by omega)⟩, fun _ => by first | rfl | trivial⟩⟩⟩⟩
 by_cases e : i = x
 ·subst e; exact hs
 ·exact hinv i (by omega)
theorem form_iff (k : Int) (a : List UInt8) (la : Prop) (m : Nat) (n : Int) : formP k a la m n ↔ ((k = 1 ∧ 1 ≤ m ∧ m ≤ 16 ∧ n = 0 ∧ ¬ la ∧ a = []) ∨ ((k = 2 ∨ k = 3 ∨ k = 8 ∨ k = 9) ∧ m = 0 ∧ n = 0 ∧ ¬ la) ∨
  (k = 4 ∧ m = 0 ∧ 1 ≤ n ∧ n ≤ 2) ∨ (k = 5 ∧ m = 0 ∧ n = 0) ∨ ((k = 6 ∨ k = 7) ∧ 1 ≤ m ∧ m ≤ 16 ∧ n = 0) ∨ (k = 10 ∧ m = 0 ∧ 0 ≤ n ∧ n ≤ 63 ∧ ¬ la)) := ⟨fun h => h.out, fun h => ⟨h⟩⟩
set_option maxHeartbeats 8000000 in
theorem s114 (k : Int) (a : List UInt8) (la : Prop) (nm : D) (n : Int) : symFun (ctx (fun _ => none) ccAnn) 3 114 [.agg [.int .u8 k, .str a, .prop la, .dat 23 nm, .int .i64 n]] (.prop (formP k a la nm.len n)) := by
 rw [vc114]
 simp only [form_iff, imp_false, Classical.not_not, Bool.false_eq_true, false_iff]
 generalize (a = []) = A at *
 by_cases hA : A <;> by_cases hla : la <;> simp only [hA, hla, not_true_eq_false, not_false_eq_true, true_implies, false_implies, true_and, and_true, and_false, false_and, true_iff, false_iff, or_false, false_or] <;> (repeat' (first | refine And.intro ?_ ?_ | intro _)) <;> omega
theorem s92 (l : D) (h : l.len ≤ 100) : symFun (ctx cc1 ccAnn) 3 92 [.dat 23 l] (.prop (twiceP l)) := by
 rw [vc92]
 simp only [imp_false, Classical.not_not, true_and, and_true]
 refine ⟨⟨0, ⟨by omega, fun i k hk hi => by omega⟩, rfl⟩, fun x ⟨hx, hinv⟩ => ⟨by unfold LIM; omega, fun hlt => ?_, fun hge => ⟨fun h => by simp at h, fun h => ?_⟩⟩⟩
 ·have hs := sub_has l x (by omega) (sAt l x)
  refine ⟨by omega, hlt, by omega, by omega, by omega, by rw [sub_len l x (by omega)]; omega, fun hh => ⟨fun _ => ?_, fun _ => by first | rfl | trivial⟩, fun hn => ⟨by omega, x + 1, ⟨by omega, fun i k hk hi => ?_⟩, by omega, by omega⟩⟩
  ·obtain ⟨k, h1, h2⟩ := hs.1 hh; exact ⟨x, k, h1, by omega, h2⟩
  ·by_cases e : i = x
   ·subst e; exact fun h => hn (hs.2 ⟨k, hk, h⟩)
   ·exact hinv i k hk (by omega)
 ·obtain ⟨i, k, h1, h2, h3⟩ := h.out; exact absurd h3 (hinv i k h1 (by omega))
theorem s93 (c : D) (s : List UInt8) (h : smallC c) : symFun (ctx cc1 (lstAnn s)) 6 93 [.dat 22 c, .str s] (.prop (listedP c c.len s)) := by
 have hlen := h.out.1
 rw [vc93]
 simp only [imp_false, Classical.not_not, true_and, and_true]
 have go : ∀ x, x < c.len → (∀ k, k < x → ¬ (cK (el c k) = 1 ∧ hasP (cNm (el c k)) s)) → ¬ (cK (el c x) = 1 ∧ hasP (cNm (el c x)) s) → ∃ y, (y ≤ c.len ∧ ∀ k, k < y → ¬ (cK (el c k) = 1 ∧ hasP (cNm (el c k)) s)) ∧ c.len - y < c.len - x ∧ (x : Int) + 1 = (y : Int) := fun x hx hinv hn => ⟨x + 1, ⟨by omega, fun k hk => by
  by_cases e : k = x
  ·subst e; exact hn
  ·exact hinv k (by omega)⟩, by omega, by omega⟩
 refine ⟨⟨0, ⟨by omega, fun i hi => by omega⟩, rfl⟩, fun x ⟨hx, hinv⟩ => ⟨by unfold LIM; omega, fun hlt => ⟨by omega, hlt, fun hk => ⟨h.out.2 x (by omega), fun hh => ⟨fun _ => ⟨x, by omega, hk, hh⟩, fun _ => by omega⟩, fun hn => ⟨by omega, go x (by omega) hinv fun h => hn h.2⟩⟩, fun hk => ⟨by omega, go x (by omega) hinv fun h => hk h.1⟩⟩, fun hge => ⟨fun h => by simp at h, fun h => ?_⟩⟩⟩
 obtain ⟨k, h1, h2⟩ := h.out; exact absurd h2 (hinv k (by omega))
theorem s55 (k : Int) (a : List UInt8) (la : Prop) (nm : D) (n : Int) (k' : Int) (a' : List UInt8) (la' : Prop) (nm' : D) (n' : Int) (h : nm.len ≤ 100) : symFun (ctx cc1 ccAnn) 3 55 [.agg [.int .u8 k, .str a, .prop la, .dat 23 nm, .int .i64 n], .agg [.int .u8 k', .str a', .prop la', .dat 23 nm', .int .i64 n']] (.prop (k = k' ∧ a = a' ∧ (la ↔ la') ∧ n = n' ∧ eqS nm nm')) := by
 rw [vc55]
 repeat' (first | refine And.intro ?_ ?_ | intro _)
 all_goals simp_all
end Go.Ev

end

section
open Go.Proofs
namespace Go.Ev
set_option maxRecDepth 100000
set_option maxHeartbeats 4000000
def leftC (s u : List UInt8) : Prop := (∃ (x_1 : Nat), (x_1 ≤ u.length ∧ ∀ (i : Nat), i < x_1 → (97 : Int) ≤ byteAt u i ∧ byteAt u i ≤ (122 : Int)) ∧ (u = List.drop x_1 u ∧ True) ∧ setN (26 : Nat) = setN (26 : Nat) ∧ True) ∧ ∀ (x_1 : Nat),
(x_1 ≤ u.length ∧ ∀ (i : Nat), i < x_1 → (97 : Int) ≤ byteAt u i ∧ byteAt u i ≤ (122 : Int)) → u.length - x_1 < LIM ∧ ((0 : Int) < (↑(List.drop x_1 u).length : Int) → (0 : Int) ≤ (0 : Int) ∧ (0 : Int)
< (↑(List.drop x_1 u).length : Int) ∧ (0 : Int) ≤ byteAt (List.drop x_1 u) (0 : Nat) ∧ byteAt (List.drop x_1 u) (0 : Nat) < (256 : Int) ∧ (byteAt (List.drop x_1 u) (0 : Nat)).toNat * 1 < (setN (26 :
Nat)).length ∧ (((nthD (setN (26 : Nat)) ((byteAt (List.drop x_1 u) (0 : Nat)).toNat * 1)).asProp → False) → (List.drop x_1 u = [] ↔ nameP s)) ∧ ((((nthD (setN (26 : Nat)) ((byteAt (List.drop x_1 u)
(0 : Nat)).toNat * 1)).asProp → False) → False) → (0 : Int) ≤ (1 : Int) ∧ (1 : Int) ≤ (↑(List.drop x_1 u).length : Int) ∧ (↑(List.drop x_1 u).length : Int) ≤ (↑(List.drop x_1 u).length : Int) ∧ ∃ (y :
Nat), (y ≤ u.length ∧ ∀ (i : Nat), i < y → (97 : Int) ≤ byteAt u i ∧ byteAt u i ≤ (122 : Int)) ∧ u.length - y < u.length - x_1 ∧ (List.take ((List.drop x_1 u).length - Int.toNat (1 : Int)) (List.drop
(Int.toNat (1 : Int)) (List.drop x_1 u)) = List.drop y u ∧ True) ∧ setN (26 : Nat) = setN (26 : Nat) ∧ True)) ∧ (((0 : Int) < (↑(List.drop x_1 u).length : Int) → False) → (List.drop x_1 u = [] ↔ nameP
s))
theorem vc90 : ∀ (s : List UInt8), symFun (ctx cc0 ccAnn) (6 : Nat) (90 : FuncId) [V.str s] (V.prop (nameP s)) = (((s = [] → False) → ((↑s.length : Int) ≤ (12 : Int) → ((s = [] → False) → (∃ (x :
Nat), x.le (26 : Nat) ∧ ((0 : Int) = (↑x : Int) ∧ True) ∧ List.replicate (256 : Nat) (D.bool False) = setN x ∧ True) ∧ ∀ (x : Nat), x.le (26 : Nat) → (26 : Nat) - x < LIM ∧ ((↑x : Int) < (26 : Int) →
(0 : Int) ≤ (↑x : Int) ∧ (↑x : Int) < (26 : Int) ∧ ((128 : Int) ≤ byteAt letsB x → False ∧ False ∧ (([] : List UInt8) = [] ↔ nameP s)) ∧ (((128 : Int) ≤ byteAt letsB x → False) → (0 : Int) ≤ byteAt
letsB x ∧ byteAt letsB x < (256 : Int) ∧ (byteAt letsB x).toNat * 1 < (setN x).length ∧ ((-9223372036854775808 : Int) ≤ (↑x : Int) + (1 : Int) ∧ (↑x : Int) + (1 : Int) < (9223372036854775808 : Int)) ∧
∃ (y : Nat), y.le (26 : Nat) ∧ (26 : Nat) - y < (26 : Nat) - x ∧ ((↑x : Int) + (1 : Int) = (↑y : Int) ∧ True) ∧ (setN x).set ((byteAt letsB x).toNat * 1) (D.bool (true = true)) = setN y ∧ True)) ∧
(((↑x : Int) < (26 : Int) → False) → (∃ (x_1 : Nat), (x_1 ≤ s.length ∧ ∀ (i : Nat), x_1 ≤ i → i < s.length → (97 : Int) ≤ byteAt s i ∧ byteAt s i ≤ (122 : Int)) ∧ (s = List.take x_1 s ∧ True) ∧ setN x
= setN (26 : Nat) ∧ True) ∧ ∀ (x : Nat), (x ≤ s.length ∧ ∀ (i : Nat), x ≤ i → i < s.length → (97 : Int) ≤ byteAt s i ∧ byteAt s i ≤ (122 : Int)) → x < LIM ∧ ((0 : Int) < (↑(List.take x s).length :
Int) → ((-9223372036854775808 : Int) ≤ (↑(List.take x s).length : Int) - (1 : Int) ∧ (↑(List.take x s).length : Int) - (1 : Int) < (9223372036854775808 : Int)) ∧ (0 : Int) ≤ (↑(List.take x s).length :
Int) - (1 : Int) ∧ (↑(List.take x s).length : Int) - (1 : Int) < (↑(List.take x s).length : Int) ∧ (0 : Int) ≤ byteAt (List.take x s) ((↑(List.take x s).length : Int) - (1 : Int)).toNat ∧ byteAt
(List.take x s) ((↑(List.take x s).length : Int) - (1 : Int)).toNat < (256 : Int) ∧ (byteAt (List.take x s) ((↑(List.take x s).length : Int) - (1 : Int)).toNat).toNat * 1 < (setN (26 : Nat)).length ∧
(((nthD (setN (26 : Nat)) ((byteAt (List.take x s) ((↑(List.take x s).length : Int) - (1 : Int)).toNat).toNat * 1)).asProp → False) → leftC s (List.take x s)) ∧ ((((nthD (setN (26 : Nat)) ((byteAt
(List.take x s) ((↑(List.take x s).length : Int) - (1 : Int)).toNat).toNat * 1)).asProp → False) → False) → ((-9223372036854775808 : Int) ≤ (↑(List.take x s).length : Int) - (1 : Int) ∧ (↑(List.take x
s).length : Int) - (1 : Int) < (9223372036854775808 : Int)) ∧ (0 : Int) ≤ (0 : Int) ∧ (0 : Int) ≤ (↑(List.take x s).length : Int) - (1 : Int) ∧ (↑(List.take x s).length : Int) - (1 : Int) ≤
(↑(List.take x s).length : Int) ∧ ∃ (y : Nat), (y ≤ s.length ∧ ∀ (i : Nat), y ≤ i → i < s.length → (97 : Int) ≤ byteAt s i ∧ byteAt s i ≤ (122 : Int)) ∧ y < x ∧ (List.take ((↑(List.take x s).length :
Int) - (1 : Int)).toNat (List.drop (0 : Nat) (List.take x s)) = List.take y s ∧ True) ∧ setN (26 : Nat) = setN (26 : Nat) ∧ True)) ∧ (((0 : Int) < (↑(List.take x s).length : Int) → False) → leftC s
(List.take x s)))) ∧ (s = [] → (s = [] ↔ nameP s))) ∧ (((↑s.length : Int) ≤ (12 : Int) → False) → (false = true ↔ nameP s))) ∧ (((s = [] → False) → False) → (false = true ↔ nameP s))) := by intros; kernel_rfl
theorem vc91 : ∀ (k : Int) (a : List UInt8) (la : Prop) (nm : D) (n : Int), symFun (ctx (fun _ => none) ccAnn) (3 : Nat) (91 : FuncId) [V.agg [V.int IntKind.u8 k, V.str a, V.prop la, V.dat (23 : TypeId) nm, V.int IntKind.i64 n]] (V.prop (formP k a la nm.len n)) = (((k < (1 : Int) → False) → ((10 : Int) < k → (false = true ↔ formP k a la nm.len n)) ∧ (((10 : Int) < k → False) → (0 : Int) ≤ k ∧
k < (↑(11 : Nat) : Int) ∧ ((((nthD formsL k.toNat).fld (4 : Nat)).asProp ↔ (0 : Int) < (↑nm.len : Int)) → ((↑nm.len : Int) ≤ (16 : Int) → (((nthD formsL k.toNat).fld (1 : Nat)).asInt ≤ n → (n ≤ ((nthD
formsL k.toNat).fld (2 : Nat)).asInt → (((cNm (nthD formsL k.toNat)).asProp → False) → ((la → False) → (((nthD formsL k.toNat).fld (5 : Nat)).asProp → ((a = [] → False) → False ↔ formP k a la nm.len
n)) ∧ ((((nthD formsL k.toNat).fld (5 : Nat)).asProp → False) → ((!false) = true ↔ formP k a la nm.len n))) ∧ (((la → False) → False) → (false = true ↔ formP k a la nm.len n))) ∧ ((cNm (nthD formsL
k.toNat)).asProp → (((nthD formsL k.toNat).fld (5 : Nat)).asProp → ((a = [] → False) → False ↔ formP k a la nm.len n)) ∧ ((((nthD formsL k.toNat).fld (5 : Nat)).asProp → False) → ((!false) = true ↔
formP k a la nm.len n)))) ∧ ((n ≤ ((nthD formsL k.toNat).fld (2 : Nat)).asInt → False) → (false = true ↔ formP k a la nm.len n))) ∧ ((((nthD formsL k.toNat).fld (1 : Nat)).asInt ≤ n → False) → (false
= true ↔ formP k a la nm.len n))) ∧ (((↑nm.len : Int) ≤ (16 : Int) → False) → (false = true ↔ formP k a la nm.len n))) ∧ (((((nthD formsL k.toNat).fld (4 : Nat)).asProp ↔ (0 : Int) < (↑nm.len : Int))
→ False) → (false = true ↔ formP k a la nm.len n)))) ∧ (k < (1 : Int) → (false = true ↔ formP k a la nm.len n))) := by intros; kernel_rfl
theorem setN_len (x : Nat) : (setN x).length = 256 := by unfold setN; simp
theorem setN_zero : List.replicate 256 (D.bool False) = setN 0 := by
 unfold setN
 have : (fun k : Nat => D.bool (97 ≤ k ∧ k < 97 + 0)) = fun _ => D.bool False := funext fun k => congrArg D.bool (propext ⟨fun h => by omega, fun h => h.elim⟩)
 rw [this, List.map_const', List.length_range]
theorem setN_get (y : Nat) {i : Nat} (h : i < 256) : (setN y)[i]? = some (D.bool (97 ≤ i ∧ i < 97 + y)) := by
 unfold setN; rw [List.getElem?_map, List.getElem?_range h]; rfl
theorem setN_set (x : Nat) (hx : x < 26) : (setN x).set (97 + x) (D.bool True) = setN (x + 1) := by
 refine List.ext_getElem? fun i => ?_
 rw [List.getElem?_set]
 by_cases hi : i < 256
 ·rw [setN_get x hi, setN_get (x + 1) hi]
  split
  ·rw [if_pos (by rw [setN_len]; omega)]
   exact congrArg (fun p => some (D.bool p)) (propext ⟨fun _ => by omega, fun _ => trivial⟩)
  ·exact congrArg (fun p => some (D.bool p)) (propext ⟨fun _ => by omega, fun _ => by omega⟩)
 ·rw [if_neg (by omega), List.getElem?_eq_none (by rw [setN_len]; omega), List.getElem?_eq_none (by rw [setN_len]; omega)]
theorem setN_at {n : Nat} (h : n < 256) : (nthD (setN 26) n).asProp = (97 ≤ n ∧ n < 97 + 26) := by
 unfold nthD setN
 rw [List.getElem?_map, List.getElem?_range h]; rfl
theorem lets_at : ∀ x : Nat, x < 26 → byteAt letsB x = 97 + x := by decide +kernel
theorem byte_lt (s : List UInt8) (i : Nat) : 0 ≤ byteAt s i ∧ byteAt s i < 256 := by
 unfold byteAt
 have := ((s[i]?).getD 0).toNat_lt
 omega
theorem byte_take (s : List UInt8) (x i : Nat) (h : i < x) : byteAt (s.take x) i = byteAt s i := by
 unfold byteAt; rw [List.getElem?_take_of_lt h]
theorem byte_drop (s : List UInt8) (y : Nat) : byteAt (s.drop y) 0 = byteAt s y := by
 unfold byteAt; rw [List.getElem?_drop]; rfl
theorem mark_at {s : List UInt8} {i : Nat} : (nthD (setN 26) ((byteAt s i).toNat * 1)).asProp ↔ (97 ≤ byteAt s i ∧ byteAt s i ≤ 122) := by
 have := byte_lt s i
 rw [setN_at (by omega)]
 omega
theorem drop_nil {u : List UInt8} {y : Nat} : u.drop y = [] ↔ u.length ≤ y := List.drop_eq_nil_iff
theorem left_ok {s u : List UInt8} (hl : u.length ≤ 12) (h : (u = [] ∧ nameP s) ∨ (0 < u.length ∧ ¬ nameP s ∧ ¬ (97 ≤ byteAt u (u.length - 1) ∧ byteAt u (u.length - 1) ≤ 122))) : leftC s u := by
 have stop : ∀ y, y ≤ u.length → (∀ i, i < y → 97 ≤ byteAt u i ∧ byteAt u i ≤ 122) → (u.drop y = [] ↔ nameP s) := fun y hy hinv => by
  rw [drop_nil]
  rcases h with ⟨h1, h2⟩ | ⟨h1, h2, h3⟩
  ·subst h1; exact ⟨fun _ => h2, fun _ => Nat.zero_le _⟩
  ·exact ⟨fun hh => absurd (hinv _ (by omega)) h3, fun hh => absurd hh h2⟩
 unfold leftC
 simp only [imp_false, Classical.not_not, true_and, and_true, mark_at, setN_len]
 refine ⟨⟨0, ⟨by omega, fun i hi => by omega⟩, rfl⟩, fun x ⟨hx, hinv⟩ => ⟨by unfold LIM; omega, fun hlt => ?_, fun hge => stop x hx hinv⟩⟩
 have hb := byte_lt (u.drop x) 0
 have hd : (u.drop x).length = u.length - x := List.length_drop
 refine ⟨by omega, hlt, by omega, by omega, by omega, fun hn => stop x hx hinv, fun hm => ⟨by omega, by omega, by omega, x + 1, ⟨by omega, fun i hi => ?_⟩, by omega, ?_⟩⟩
 ·by_cases e : i = x
  ·subst e; rw [byte_drop] at hm; exact hm
  ·exact hinv i (by omega)
 ·rw [List.drop_drop, List.take_of_length_le (by rw [List.length_drop, List.length_drop]; simp; omega)]
  first | rfl | (congr 1; simp; omega)
theorem s90 (s : List UInt8) : symFun (ctx cc0 ccAnn) 6 90 [.str s] (.prop (nameP s)) := by
 rw [vc90]
 simp only [imp_false, Classical.not_not, and_true, mark_at, setN_len]
 have bad : ¬ (1 ≤ s.length ∧ s.length ≤ 12) → (false = true ↔ nameP s) := fun hn => ⟨fun h => by simp at h, fun h => absurd ⟨h.out.1, h.out.2.1⟩ hn⟩
 refine ⟨fun hne => ⟨fun hl => ⟨fun _ => ⟨⟨0, Nat.zero_le _, rfl, setN_zero⟩, fun x hx => ?_⟩, fun h => absurd h hne⟩, fun hl => bad (by omega)⟩, fun he => bad (by rw [he]; simp)⟩
 have hx : x ≤ 26 := hx
 have hpos : 0 < s.length := List.length_pos_iff.2 hne
 refine ⟨by unfold LIM; omega, fun hlt => ?_, fun hge => ?_⟩
 ·have hb := lets_at x (by omega)
  refine ⟨by omega, hlt, fun h => by omega, fun _ => ⟨by omega, by omega, by omega, by omega, x + 1, show x + 1 ≤ 26 by omega, by omega, by omega, ?_⟩⟩
  rw [hb, show ((97 : Int) + (x : Int)).toNat * 1 = 97 + x by omega]
  exact setN_set x (by omega)
 ·have hx26 : x = 26 := by omega
  subst hx26
  refine ⟨⟨s.length, ⟨Nat.le_refl _, fun i h1 h2 => by omega⟩, (List.take_of_length_le (Nat.le_refl _)).symm, rfl⟩, fun x ⟨hx, hinv⟩ => ?_⟩
  have ht : (s.take x).length = x := List.length_take_of_le hx
  have hb := byte_lt (s.take x) (((s.take x).length : Int) - 1).toNat
  rw [ht] at hb ⊢
  have hlast : 0 < x → byteAt (s.take x) ((x : Int) - 1).toNat = byteAt s (x - 1) := fun h => by
   rw [show ((x : Int) - 1).toNat = x - 1 by omega, byte_take s x (x - 1) (by omega)]
  refine ⟨by unfold LIM; omega, fun hlt => ⟨by omega, by omega, by omega, hb.1, hb.2, by omega, fun hn => ?_, fun hm => ⟨by omega, by omega, by omega, by omega, x - 1, ⟨by omega, fun i h1 h2 => ?_⟩, by omega, ?_⟩⟩, fun hge => ?_⟩
  ·have hl := hlast (by omega)
   rw [hl] at hn
   refine left_ok (by omega) (.inr ⟨by omega, nm_no (show x - 1 < s.length by omega) hn, ?_⟩)
   rw [ht, byte_take s x (x - 1) (by omega)]; exact hn
  ·by_cases e : i = x - 1
   ·subst e; rw [hlast (by omega)] at hm; exact hm
   ·exact hinv i (by omega) h2
  ·rw [List.drop_zero, List.take_take]; congr 1; omega
  ·have : x = 0 := by omega
   subst this
   exact left_ok (by simp) (.inl ⟨rfl, ⟨by omega, by omega, fun i hi => hinv i (by omega) hi⟩⟩)
theorem fm4 : ∀ k : Int, 1 ≤ k → k ≤ 10 → (((nthD formsL k.toNat).fld 4).asProp ↔ (k = 1 ∨ k = 6 ∨ k = 7)) := fun k h1 h2 => by
 have : k = 1 ∨ k = 2 ∨ k = 3 ∨ k = 4 ∨ k = 5 ∨ k = 6 ∨ k = 7 ∨ k = 8 ∨ k = 9 ∨ k = 10 := by omega
 rcases this with rfl | rfl | rfl | rfl | rfl | rfl | rfl | rfl | rfl | rfl <;> first | (show (true = true ↔ _); simp; done) | (show (false = true ↔ _); simp; done)
theorem fm3 : ∀ k : Int, 1 ≤ k → k ≤ 10 → ((cNm (nthD formsL k.toNat)).asProp ↔ (k = 4 ∨ k = 5 ∨ k = 6 ∨ k = 7)) := fun k h1 h2 => by
 have : k = 1 ∨ k = 2 ∨ k = 3 ∨ k = 4 ∨ k = 5 ∨ k = 6 ∨ k = 7 ∨ k = 8 ∨ k = 9 ∨ k = 10 := by omega
 rcases this with rfl | rfl | rfl | rfl | rfl | rfl | rfl | rfl | rfl | rfl <;> first | (show (true = true ↔ _); simp; done) | (show (false = true ↔ _); simp; done)
theorem fm5 : ∀ k : Int, 1 ≤ k → k ≤ 10 → (((nthD formsL k.toNat).fld 5).asProp ↔ k = 1) := fun k h1 h2 => by
 have : k = 1 ∨ k = 2 ∨ k = 3 ∨ k = 4 ∨ k = 5 ∨ k = 6 ∨ k = 7 ∨ k = 8 ∨ k = 9 ∨ k = 10 := by omega
 rcases this with rfl | rfl | rfl | rfl | rfl | rfl | rfl | rfl | rfl | rfl <;> first | (show (true = true ↔ _); simp; done) | (show (false = true ↔ _); simp; done)
theorem fm1 : ∀ k : Int, 1 ≤ k → k ≤ 10 → ((nthD formsL k.toNat).fld 1).asInt = if k = 4 then 1 else 0 := fun k h1 h2 => by
 have : k = 1 ∨ k = 2 ∨ k = 3 ∨ k = 4 ∨ k = 5 ∨ k = 6 ∨ k = 7 ∨ k = 8 ∨ k = 9 ∨ k = 10 := by omega
 rcases this with rfl | rfl | rfl | rfl | rfl | rfl | rfl | rfl | rfl | rfl <;> rfl
theorem fm2 : ∀ k : Int, 1 ≤ k → k ≤ 10 → ((nthD formsL k.toNat).fld 2).asInt = if k = 4 then 2 else if k = 10 then 63 else 0 := fun k h1 h2 => by
 have : k = 1 ∨ k = 2 ∨ k = 3 ∨ k = 4 ∨ k = 5 ∨ k = 6 ∨ k = 7 ∨ k = 8 ∨ k = 9 ∨ k = 10 := by omega
 rcases this with rfl | rfl | rfl | rfl | rfl | rfl | rfl | rfl | rfl | rfl <;> rfl
set_option maxHeartbeats 8000000 in
theorem s91 (k : Int) (a : List UInt8) (la : Prop) (nm : D) (n : Int) : symFun (ctx (fun _ => none) ccAnn) 3 91 [.agg [.int .u8 k, .str a, .prop la, .dat 23 nm, .int .i64 n]] (.prop (formP k a la nm.len n)) := by
 rw [vc91]
 simp only [form_iff, imp_false, Classical.not_not, Bool.false_eq_true, false_iff, Bool.not_false]
 refine ⟨fun h1 => ⟨fun h2 => by omega, fun h2 => ⟨by omega, by omega, ?_⟩⟩, fun h1 => by omega⟩
 rw [fm1 k (by omega) (by omega), fm2 k (by omega) (by omega)]
 simp only [fm3 k (by omega) (by omega), fm4 k (by omega) (by omega), fm5 k (by omega) (by omega)]
 generalize (a = []) = A at *
 generalize nm.len = m
 have hk : k = 1 ∨ k = 2 ∨ k = 3 ∨ k = 4 ∨ k = 5 ∨ k = 6 ∨ k = 7 ∨ k = 8 ∨ k = 9 ∨ k = 10 := by omega
 clear h1 h2
 rcases hk with rfl | rfl | rfl | rfl | rfl | rfl | rfl | rfl | rfl | rfl <;> by_cases hA : A <;> by_cases hla : la <;> simp [hA, hla] <;> omega
end Go.Ev

end
