/-
  Part of the engine that the claim is proved with: it states nothing of the document by itself.
-/
import Derived.Test.YtcacemdhmfjliaaGreatDoorProg
import Derived.Test.YtcacemdhmfjliaaGreatDoorCoreG0
import Derived.Test.YtcacemdhmfjliaaGreatDoorCoreSeC

section
open Go.Proofs
namespace Go.Ev
def el (l : D) (i : Nat) : D := nthD l.asList i
def sAt (l : D) (i : Nat) : List UInt8 := (nthD l.asList i).asStr
def cK (d : D) : Int := (d.fld 0).asInt
def cA (d : D) : List UInt8 := (d.fld 1).asStr
def cL (d : D) : Prop := (d.fld 2).asProp
def cNm (d : D) : D := d.fld 3
def cN (d : D) : Int := (d.fld 4).asInt
structure nameP (s : List UInt8) : Prop where
 out : 1 ≤ s.length ∧ s.length ≤ 12 ∧ ∀ i, i < s.length → 97 ≤ byteAt s i ∧ byteAt s i ≤ 122
structure hasP (l : D) (s : List UInt8) : Prop where
 out : ∃ i, i < l.len ∧ sAt l i = s
structure badNm (l : D) : Prop where
 out : ∃ i, i < l.len ∧ ¬ nameP (sAt l i)
structure twiceP (l : D) : Prop where
 out : ∃ i k, k < i ∧ i < l.len ∧ sAt l k = sAt l i
structure listedP (c : D) (n : Nat) (s : List UInt8) : Prop where
 out : ∃ k, k < n ∧ cK (el c k) = 1 ∧ hasP (cNm (el c k)) s
structure eqS (a b : D) : Prop where
 out : a.len = b.len ∧ ∀ i, i < a.len → sAt a i = sAt b i
structure formP (k : Int) (a : List UInt8) (la : Prop) (m : Nat) (n : Int) : Prop where
 out : (k = 1 ∧ 1 ≤ m ∧ m ≤ 16 ∧ n = 0 ∧ ¬ la ∧ a = []) ∨ ((k = 2 ∨ k = 3 ∨ k = 8 ∨ k = 9) ∧ m = 0 ∧ n = 0 ∧ ¬ la) ∨
  (k = 4 ∧ m = 0 ∧ 1 ≤ n ∧ n ≤ 2) ∨ (k = 5 ∧ m = 0 ∧ n = 0) ∨ ((k = 6 ∨ k = 7) ∧ 1 ≤ m ∧ m ≤ 16 ∧ n = 0) ∨ (k = 10 ∧ m = 0 ∧ 0 ≤ n ∧ n ≤ 63 ∧ ¬ la)
open Classical in
noncomputable def errC (c : D) (i : Nat) (k : Int) (a : List UInt8) (la : Prop) (nm : D) (n : Int) : Int :=
 if ¬ formP k a la nm.len n then 30 else if badNm nm ∨ (a ≠ [] ∧ ¬ nameP a) then 4 else if twiceP nm then 5 else if a ≠ [] ∧ ¬ listedP c i a then 31 else 0
noncomputable def err1 (c : D) (i : Nat) : Int := errC c i (cK (el c i)) (cA (el c i)) (cL (el c i)) (cNm (el c i)) (cN (el c i))
open Classical in
noncomputable def scanZ (l : D) : Nat → Nat → Int × Int
 | 0, _ => (0, 0)
 | f + 1, i => if err1 l i ≠ 0 then ((i : Nat), err1 l i) else scanZ l f (i + 1)
open Classical in
noncomputable def badZ (l : D) : Int × Int := if 32 < l.len then (0, 7) else scanZ l l.len 0
structure smallC (c : D) : Prop where
 out : c.len ≤ 100 ∧ ∀ i, i < c.len → (cNm (el c i)).len ≤ 100
structure fewC (d : D) : Prop where
 out : (cA d).length ≤ 40 ∧ (cNm d).len ≤ 20 ∧ ∀ i, i < (cNm d).len → (sAt (cNm d) i).length ≤ 40
structure fewD (c : D) : Prop where
 out : c.len ≤ 40 ∧ ∀ i, i < c.len → fewC (el c i)
def listD (l : List D) : D := match l with | [] => .nil | l => .list l
def copyC (d : D) : D := .sct [.int (cK d), .str (cA d), .bool (cL d), .list (cNm d).asList, .int (cN d)]
def copyL (l : D) (n : Nat) : List D := (List.range n).map fun i => copyC (el l i)
def copyD (l : D) : D := listD (copyL l l.len)
structure sameC (a b : D) : Prop where
 out : cK a = cK b ∧ cA a = cA b ∧ (cL a ↔ cL b) ∧ cN a = cN b ∧ eqS (cNm a) (cNm b)
structure sameAll (a b : D) : Prop where
 out : a.len = b.len ∧ ∀ i, i < a.len → sameC (el a i) (el b i)
def setN (x : Nat) : List D := (List.range 256).map fun k => D.bool (97 ≤ k ∧ k < 97 + x)
def letsB : List UInt8 := [97, 98, 99, 100, 101, 102, 103, 104, 105, 106, 107, 108, 109, 110, 111, 112, 113, 114, 115, 116, 117, 118, 119, 120, 121, 122]
def formsL : List D := [.sct [.str [], .int 0, .int 0, .bool (false = true), .bool (false = true), .bool (false = true)],
 .sct [.str [114, 97, 110, 107], .int 0, .int 0, .bool (false = true), .bool (true = true), .bool (true = true)],
 .sct [.str [101, 108, 100, 101, 114], .int 0, .int 0, .bool (false = true), .bool (false = true), .bool (false = true)],
 .sct [.str [121, 111, 117, 116, 104], .int 0, .int 0, .bool (false = true), .bool (false = true), .bool (false = true)],
 .sct [.str [115, 105, 100, 101], .int 1, .int 2, .bool (true = true), .bool (false = true), .bool (false = true)],
 .sct [.str [104, 111, 115, 116], .int 0, .int 0, .bool (true = true), .bool (false = true), .bool (false = true)],
 .sct [.str [116, 111, 110, 103, 117, 101], .int 0, .int 0, .bool (true = true), .bool (true = true), .bool (false = true)],
 .sct [.str [99, 111, 117, 114, 116], .int 0, .int 0, .bool (true = true), .bool (true = true), .bool (false = true)],
 .sct [.str [110, 97, 109, 101], .int 0, .int 0, .bool (false = true), .bool (false = true), .bool (false = true)],
 .sct [.str [108, 105, 115, 116], .int 0, .int 0, .bool (false = true), .bool (false = true), .bool (false = true)],
 .sct [.str [108, 111, 116], .int 0, .int 63, .bool (false = true), .bool (false = true), .bool (false = true)]]
noncomputable def con86 : Con := fun | [.dat 32 l, .str s] => some (l.len ≤ 100, .prop (hasP l s)) | _ => none
noncomputable def con66 : Con := fun | [.str s] => some (True, .prop (nameP s)) | _ => none
noncomputable def con68 : Con := fun | [.dat 32 a, .dat 32 b] => some (a.len ≤ 100, .prop (eqS a b)) | _ => none
noncomputable def con65 : Con := fun | [.agg [.int .u8 k, .str a, .prop la, .dat 32 nm, .int .i64 n]] => some (True, .prop (formP k a la nm.len n)) | _ => none
noncomputable def con63 : Con := fun | [.dat 32 l] => some (l.len ≤ 100, .prop (twiceP l)) | _ => none
noncomputable def con64 : Con := fun | [.dat 22 c, .str s] => some (smallC c, .prop (listedP c c.len s)) | _ => none
noncomputable def con39 : Con := fun | [.dat 22 b, .agg [.int .u8 k, .str a, .prop la, .dat 32 nm, .int .i64 n]] => some (smallC b ∧ nm.len ≤ 100, .int .i64 (errC b b.len k a la nm n)) | _ => none
noncomputable def con40 : Con := fun | [.dat 22 c, .int .i64 i] => some ((0 ≤ i ∧ i < c.len) ∧ smallC c, .int .i64 (err1 c i.toNat)) | _ => none
noncomputable def con21 : Con := fun | [.dat 22 c] => some (smallC c, .tup [.int .i64 (badZ c).1, .int .i64 (badZ c).2]) | _ => none
noncomputable def con42 : Con := fun
 | [.agg [.int .u8 k, .str a, .prop la, .dat 32 nm, .int .i64 n], .agg [.int .u8 k', .str a', .prop la', .dat 32 nm', .int .i64 n']] => some (nm.len ≤ 100, .prop (k = k' ∧ a = a' ∧ (la ↔ la') ∧ n = n' ∧ eqS nm nm'))
 | _ => none
noncomputable def con23 : Con := fun | [.dat 22 a, .dat 22 b] => some (smallC a, .prop (sameAll a b)) | _ => none
noncomputable def con20 : Con := fun | [.dat 22 c] => some (smallC c, .dat 22 (copyD c)) | _ => none
noncomputable def con7 : Con := fun | [.dat 22 c] => some (True, .prop (fewD c)) | _ => none
noncomputable def con8 : Con := fun | [.dat 22 c] => some (fewD c, .prop True) | _ => none
noncomputable def con3 : Con := fun | [.dat 22 _] => some (True, .prop True) | _ => none
noncomputable def cc1 : FuncId → Option Con
 | 86 => some con86
 | 67 => some con86
 | 66 => some con66
 | 61 => some con66
 | 68 => some con68
 | 65 => some con65
 | 62 => some con65
 | _ => none
noncomputable def conN : Con := fun | [_, _] => some (False, .str []) | _ => none
noncomputable def cc0 : FuncId → Option Con
 | 122 => some conN
 | 123 => some conN
 | _ => none
noncomputable def cc2 : FuncId → Option Con
 | 63 => some con63
 | 64 => some con64
 | 42 => some con42
 | g => cc1 g
noncomputable def cc3 : FuncId → Option Con
 | 39 => some con39
 | 40 => some con40
 | 23 => some con23
 | 20 => some con20
 | 7 => some con7
 | g => cc2 g
noncomputable def cc4 : FuncId → Option Con
 | 21 => some con21
 | 22 => some con21
 | g => cc3 g
noncomputable def cc5 : FuncId → Option Con
 | 8 => some con8
 | g => cc4 g
noncomputable def ccAnn : FuncId → Nat → Option Ann
 | 124, 2 => some { τ := Nat, slots := fun _ _ x => [(8, .int .i64 x)], blks := fun _ _ _ => [], inv := fun S _ x => x ≤ (slD S 0).len ∧ ∀ i, i < x → sAt (slD S 0) i ≠ slS S 1, meas := fun S _ x => (slD S 0).len - x }
 | 67, 2 => some { τ := Nat, slots := fun _ _ x => [(5, .int .i64 x)], blks := fun _ _ _ => [], inv := fun S _ x => x ≤ (slD S 0).len ∧ ∀ i, i < x → sAt (slD S 0) i ≠ slS S 1, meas := fun S _ x => (slD S 0).len - x }
 | 66, 4 => some { τ := Nat, slots := fun _ _ x => [(3, .int .i64 x)], blks := fun _ _ _ => [], inv := fun S _ x => x ≤ (slS S 0).length ∧ ∀ i, i < x → 97 ≤ byteAt (slS S 0) i ∧ byteAt (slS S 0) i ≤ 122, meas := fun S _ x => (slS S 0).length - x }
 | 68, 4 => some { τ := Nat, slots := fun _ _ x => [(13, .int .i64 x)], blks := fun _ _ _ => [], inv := fun S _ x => x ≤ (slD S 0).len ∧ ∀ i, i < x → sAt (slD S 0) i = sAt (slD S 1) i, meas := fun S _ x => (slD S 0).len - x }
 | 63, 2 => some { τ := Nat, slots := fun _ _ x => [(7, .int .i64 x)], blks := fun _ _ _ => [], inv := fun S _ x => x ≤ (slD S 0).len ∧ ∀ i k, k < i → i < x → sAt (slD S 0) k ≠ sAt (slD S 0) i, meas := fun S _ x => (slD S 0).len - x }
 | 37, 2 => some { τ := Nat, slots := fun _ _ x => [(8, .int .i64 x)], blks := fun _ _ _ => [], inv := fun S _ x => x ≤ (slD S 0).len ∧ ∀ i, i < x → nameP (sAt (slD S 0) i), meas := fun S _ x => (slD S 0).len - x }
 | 40, 6 => some { τ := Nat, slots := fun _ _ x => [(5, .int .i64 x)], blks := fun _ _ _ => [], inv := fun S _ x => x ≤ (cNm (el (slD S 0) (slI S 1).toNat)).len ∧ ∀ i, i < x → nameP (sAt (cNm (el (slD S 0) (slI S 1).toNat)) i), meas := fun S _ x => (cNm (el (slD S 0) (slI S 1).toNat)).len - x }
 | 40, 11 => some { τ := Nat, slots := fun _ _ x => [(6, .int .i64 x)], blks := fun _ _ _ => [], inv := fun S _ x => x ≤ (cNm (el (slD S 0) (slI S 1).toNat)).len ∧ ∀ i k, k < i → i < x → sAt (cNm (el (slD S 0) (slI S 1).toNat)) k ≠ sAt (cNm (el (slD S 0) (slI S 1).toNat)) i, meas := fun S _ x => (cNm (el (slD S 0) (slI S 1).toNat)).len - x }
 | 40, 18 => some { τ := Nat, slots := fun _ _ x => [(7, .int .i64 x)], blks := fun _ _ _ => [], inv := fun S _ x => x ≤ (slI S 1).toNat ∧ ∀ k, k < x → ¬ (cK (el (slD S 0) k) = 1 ∧ hasP (cNm (el (slD S 0) k)) (cA (el (slD S 0) (slI S 1).toNat))), meas := fun S _ x => (slI S 1).toNat - x }
 | 21, 4 => some { τ := Nat, slots := fun _ _ x => [(12, .int .i64 x)], blks := fun _ _ _ => [], inv := fun S _ x => x ≤ (slD S 0).len ∧ scanZ (slD S 0) ((slD S 0).len - x) x = scanZ (slD S 0) (slD S 0).len 0, meas := fun S _ x => (slD S 0).len - x }
 | 22, 4 => some { τ := Nat, slots := fun _ _ x => [(4, .int .i64 x)], blks := fun _ _ _ => [], inv := fun S _ x => x ≤ (slD S 0).len ∧ scanZ (slD S 0) ((slD S 0).len - x) x = scanZ (slD S 0) (slD S 0).len 0, meas := fun S _ x => (slD S 0).len - x }
 | 41, 4 => some { τ := Nat, slots := fun _ _ x => [(17, .int .i64 x)], blks := fun _ _ _ => [], inv := fun S _ x => x ≤ (slD S 0).len ∧ ∀ i, i < x → sameC (el (slD S 0) i) (el (slD S 1) i), meas := fun S _ x => (slD S 0).len - x }
 | 20, 3 => some { hs := 2, τ := Nat, slots := fun _ i x => match i with | 0 => [(8, .int .i64 0), (3, .val (.slice none 0 0))] | _ => [(8, .int .i64 x), (3, .slc 60 (.lit 0) (.sym x) none)],
                   blks := fun S i x => match i with | 0 => [] | _ => [(60, .arr 34 (copyL (slD S 0) x))], inv := fun S i x => match i with | 0 => x = 0 | _ => 0 < x ∧ x ≤ (slD S 0).len, meas := fun S _ x => (slD S 0).len - x }
 | 119, 2 => some { τ := Nat, slots := fun _ _ x => [(4, .int .i64 x)], blks := fun _ _ x => [(0, .grd 141 4 (setN x))], inv := fun _ _ x => x ≤ 26, meas := fun _ _ x => 26 - x }
 | 121, 1 => some { τ := Nat, slots := fun S _ x => [(0, .str ((slS S 0).take x))], blks := fun _ _ _ => [(1, .grd 141 4 (setN 26))], inv := fun S _ x => x ≤ (slS S 0).length ∧ ∀ i, x ≤ i → i < (slS S 0).length → 97 ≤ byteAt (slS S 0) i ∧ byteAt (slS S 0) i ≤ 122, meas := fun _ _ x => x }
 | 120, 1 => some { τ := Nat, slots := fun S _ x => [(0, .str ((slS S 0).drop x))], blks := fun _ _ _ => [(1, .grd 141 4 (setN 26))], inv := fun S _ x => x ≤ (slS S 0).length ∧ ∀ i, i < x → 97 ≤ byteAt (slS S 0) i ∧ byteAt (slS S 0) i ≤ 122, meas := fun S _ x => (slS S 0).length - x }
 | _, _ => none
noncomputable def fewAnn : FuncId → Nat → Option Ann
 | 37, 2 => some { τ := Nat, slots := fun _ _ x => [(8, .int .i64 x)], blks := fun _ _ _ => [], inv := fun S _ x => x ≤ (slD S 0).len ∧ ∀ i, i < x → (sAt (slD S 0) i).length ≤ 40, meas := fun S _ x => (slD S 0).len - x }
 | 36, 2 => some { τ := Nat, slots := fun _ _ x => [(8, .int .i64 x)], blks := fun _ _ _ => [], inv := fun S _ x => x ≤ (slD S 0).len ∧ ∀ i, i < x → fewC (el (slD S 0) i), meas := fun S _ x => (slD S 0).len - x }
 | _, _ => none
noncomputable def lstAnn (s : List UInt8) : FuncId → Nat → Option Ann
 | 36, 2 => some { τ := Nat, slots := fun _ _ x => [(8, .int .i64 x)], blks := fun _ _ _ => [], inv := fun S _ x => x ≤ (slD S 0).len ∧ ∀ k, k < x → ¬ (cK (el (slD S 0) k) = 1 ∧ hasP (cNm (el (slD S 0) k)) s), meas := fun S _ x => (slD S 0).len - x }
 | _, _ => none
noncomputable def ctx (con : FuncId → Option Con) (ann : FuncId → Nat → Option Ann) : Ctx := { P := Tryz.prog, con := con, ora := fun g => cond (Nat.beq g 9) (some (.bool true)) none, bits := 842498333348457493583344221469363458551160763204392890034487820287, ann := ann }
end Go.Ev

end

section
open Go.Proofs
namespace Go.Ev
def spB : List UInt8 := [32]
def nlB : List UInt8 := [10]
def amB : List UInt8 := [97, 109, 111, 110, 103]
def lastW : List UInt8 := [108, 97, 115, 116]
def firstW : List UInt8 := [102, 105, 114, 115, 116]
def wordB (k : Int) : List UInt8 := ((nthD formsL k.toNat).fld 0).asStr
def digB (n : Int) : UInt8 := UInt8.ofNat (48 + n.toNat)
def decB (n : Int) : List UInt8 := if n < 10 then [digB n] else [digB (n / 10), digB (n % 10)]
def hasN (k : Int) : Prop := k = 4 ∨ k = 10
def hasL (k : Int) : Prop := 4 ≤ k ∧ k ≤ 7
open Classical in
noncomputable def amongB (a : List UInt8) : List UInt8 := if a = [] then [] else amB ++ spB ++ a ++ spB
open Classical in
noncomputable def numB (k n : Int) : List UInt8 := if hasN k then spB ++ decB n else []
open Classical in
noncomputable def lastB (k : Int) (la : Prop) : List UInt8 := if hasL k then (if la then spB ++ lastW else spB ++ firstW) else []
def namesB (nm : D) : Nat → List UInt8
 | 0 => []
 | n + 1 => namesB nm n ++ (spB ++ sAt nm n)
noncomputable def head1 (x : D) : List UInt8 := amongB (cA x) ++ wordB (cK x)
noncomputable def head2 (x : D) : List UInt8 := head1 x ++ numB (cK x) (cN x)
noncomputable def head3 (x : D) : List UInt8 := head2 x ++ lastB (cK x) (cL x)
noncomputable def lineB (x : D) : List UInt8 := head3 x ++ namesB (cNm x) (cNm x).len ++ nlB
noncomputable def fmtL (c : D) : Nat → List UInt8
 | 0 => []
 | n + 1 => fmtL c n ++ lineB (el c n)
open Classical in
noncomputable def textD (c : D) : List UInt8 := if (badZ c).2 = 0 then fmtL c c.len else []
open Classical in
noncomputable def wordsL (k : Int) (a : List UInt8) (la : Prop) (nm : D) (n : Int) : List D :=
 (if a = [] then [] else [.str amB, .str a]) ++ [.str (wordB k)] ++ (if hasN k then [.str (decB n)] else []) ++ (if hasL k then [.str (if la then lastW else firstW)] else []) ++ nm.asList
def catB (l : D) (s : List UInt8) : Nat → List UInt8
 | 0 => []
 | n + 1 => catB l s n ++ (s ++ sAt l (n + 1))
def joinB (l : D) (s : List UInt8) : List UInt8 := if l.len = 0 then [] else sAt l 0 ++ catB l s (l.len - 1)
structure joinP (l : D) (s : List UInt8) : Prop where
 out : l.len ≤ 100 ∧ (1 ≤ s.length ∧ s.length ≤ 100) ∧ ∀ i, i < l.len → 1 ≤ (sAt l i).length ∧ (sAt l i).length ≤ 100
structure rightC (k : Int) (a : List UInt8) (la : Prop) (nm : D) (n : Int) : Prop where
 out : formP k a la nm.len n ∧ ¬ badNm nm ∧ (a = [] ∨ nameP a)
structure rightD (c : D) : Prop where
 out : smallC c ∧ ∀ i, i < c.len → rightC (cK (el c i)) (cA (el c i)) (cL (el c i)) (cNm (el c i)) (cN (el c i))
theorem f_w0 (k : Int) : ((nthD formsL k.toNat).fld 0).asStr = wordB k := rfl
noncomputable def con58 : Con := fun | [.int .i64 k] => some (1 ≤ k ∧ k ≤ 10, .str (wordB k)) | _ => none
noncomputable def con59 : Con := fun | [.int .i64 n] => some (0 ≤ n ∧ n ≤ 99, .str (decB n)) | _ => none
noncomputable def con56 : Con := fun | [.agg [.int .u8 k, .str a, .prop la, .dat 32 nm, .int .i64 n]] => some (rightC k a la nm n, .dat 32 (.list (wordsL k a la nm n))) | _ => none
noncomputable def con55 : Con := fun | [.dat 32 l, .str s] => some (joinP l s, .str (joinB l s)) | _ => none
noncomputable def con30 : Con := fun | [.dat 22 c] => some (smallC c, .str (textD c)) | _ => none
noncomputable def con35 : Con := fun | [.dat 22 c] => some (rightD c, .str (fmtL c c.len)) | _ => none
noncomputable def con34 : Con := fun | [.dat 22 c] => some (smallC c, .prop ((badZ c).2 = 0)) | _ => none
noncomputable def con15 : Con := fun | [.dat 22 c] => some (fewD c, .prop True) | _ => none
noncomputable def con6 : Con := fun | [.dat 22 _] => some (True, .prop True) | _ => none
noncomputable def conF : Con := fun | [_] => some (False, .val (.int .i64 0)) | _ => none
noncomputable def cf0 : FuncId → Option Con
 | 165 => some conF
 | _ => none
noncomputable def cf1 : FuncId → Option Con
 | 58 => some con58
 | 59 => some con59
 | 84 => some con59
 | g => cc4 g
noncomputable def extC0 (c : Con) : Con := fun us => c (us.map fun v => match v with | .val (.string b) => .str b.data.toList | v => v)
noncomputable def cf2 : FuncId → Option Con
 | 56 => some con56
 | 55 => some (extC0 con55)
 | 34 => some con34
 | g => cf1 g
noncomputable def cf3 : FuncId → Option Con
 | 30 => some con30
 | 35 => some con35
 | g => cf2 g
noncomputable def cf4 : FuncId → Option Con
 | 15 => some con15
 | g => cf3 g
noncomputable def bkRow (S : SS) (b o r : Nat) : Nat := match bkV S b o with | .slc b _ _ _ => b | _ => r
noncomputable def bldBox (r n : Nat) : SB := .box 88 [.ptr 0 0, .slc r (.lit 0) (.sym n) none]
noncomputable def bldRow (s : List UInt8) : SB := .arr 5 (strD s)
noncomputable def cfAnn : FuncId → Nat → Option Ann
 | 55, 12 => some { τ := Nat × Int, slots := fun _ _ x => [(41, .int .i64 x.1), (5, .int .i64 x.2)], blks := fun _ _ _ => [],
                    inv := fun S _ x => x.1 ≤ (slD S 0).len ∧ 0 ≤ x.2 ∧ x.2 ≤ 10000 + 100 * x.1 ∧ (0 < x.1 → 1 ≤ x.2), meas := fun S _ x => (slD S 0).len - x.1 }
 | 55, 22 => some { τ := Nat, slots := fun _ _ x => [(65, .int .i64 x)],
                    blks := fun S _ x => [(0, bldBox (bkRow S 0 1 70) (sAt (slD S 0) 0 ++ catB (slD S 0) (slS S 1) x).length), (bkRow S 0 1 70, bldRow (sAt (slD S 0) 0 ++ catB (slD S 0) (slS S 1) x))],
                    inv := fun S _ x => x ≤ (slD S 0).len - 1, meas := fun S _ x => (slD S 0).len - x }
 | 30, 5 => some { hs := 2, τ := Nat, slots := fun _ i x => match i with | 0 => [(11, .int .i64 0)] | _ => [(11, .int .i64 x)],
                   blks := fun S i x => match i with | 0 => [(0, .box 88 [.val (.pointer none), .val (.slice none 0 0)])] | _ => [(0, bldBox 60 (fmtL (slD S 0) x).length), (60, bldRow (fmtL (slD S 0) x))],
                   inv := fun S i x => match i with | 0 => x = 0 | _ => 0 < x ∧ x ≤ (slD S 0).len, meas := fun S _ x => (slD S 0).len - x }
 | 35, 3 => some { τ := Nat, slots := fun S _ x => [(4, .int .i64 x), (3, .str (fmtL (slD S 0) x))], blks := fun _ _ _ => [], inv := fun S _ x => x ≤ (slD S 0).len, meas := fun S _ x => (slD S 0).len - x }
 | 35, 15 => some { τ := Nat, slots := fun S _ j => [(5, .int .i64 j), (3, .str (fmtL (slD S 0) (slI S 4).toNat ++ (head3 (el (slD S 0) (slI S 4).toNat) ++ namesB (cNm (el (slD S 0) (slI S 4).toNat)) j)))], blks := fun _ _ _ => [],
                    inv := fun S _ j => j ≤ (cNm (el (slD S 0) (slI S 4).toNat)).len, meas := fun S _ j => (cNm (el (slD S 0) (slI S 4).toNat)).len - j }
 | _, _ => none
noncomputable def cfJoin : FuncId → Nat → Option Ann
 | 35, 7 => some { τ := Unit, slots := fun S _ _ => [(3, .str (fmtL (slD S 0) (slI S 4).toNat ++ amongB (cA (el (slD S 0) (slI S 4).toNat))))], blks := fun _ _ _ => [], inv := fun _ _ _ => True, meas := fun _ _ _ => 0 }
 | 35, 10 => some { τ := Unit, slots := fun S _ _ => [(3, .str (fmtL (slD S 0) (slI S 4).toNat ++ head2 (el (slD S 0) (slI S 4).toNat)))], blks := fun _ _ _ => [], inv := fun _ _ _ => True, meas := fun _ _ _ => 0 }
 | 35, 14 => some { τ := Unit, slots := fun S _ _ => [(3, .str (fmtL (slD S 0) (slI S 4).toNat ++ head3 (el (slD S 0) (slI S 4).toNat)))], blks := fun _ _ _ => [], inv := fun _ _ _ => True, meas := fun _ _ _ => 0 }
 | _, _ => none
noncomputable def ctxF (con : FuncId → Option Con) : Ctx := { ctx con cfAnn with join := cfJoin }
end Go.Ev

end

section
open Go.Proofs
namespace Go.Ev
set_option maxRecDepth 100000
set_option maxHeartbeats 4000000
theorem sub_len (l : D) (n : Nat) (h : n ≤ l.len) : (l.sub 0 n).len = n := by
 cases l <;> simp [D.sub, D.len, D.asList] at h ⊢ <;> omega
theorem sub_el (l : D) (n i : Nat) (h : i < n) : el (l.sub 0 n) i = el l i := by
 cases l <;> simp [D.sub, el, D.asList, nthD, List.getElem?_take, h]
theorem sub_sAt (l : D) (n i : Nat) (h : i < n) : sAt (l.sub 0 n) i = sAt l i := congrArg D.asStr (sub_el l n i h)
theorem sub_has (l : D) (x : Nat) (h : x ≤ l.len) (s : List UInt8) : hasP (l.sub 0 x) s ↔ ∃ k, k < x ∧ sAt l k = s := by
 constructor
 ·rintro ⟨k, h1, h2⟩
  rw [sub_len l x h] at h1
  rw [sub_sAt l x k h1] at h2
  exact ⟨k, h1, h2⟩
 ·rintro ⟨k, h1, h2⟩
  exact ⟨k, by rw [sub_len l x h]; exact h1, by rw [sub_sAt l x k h1]; exact h2⟩
theorem vc86 : ∀ (l : D) (s : List UInt8), symFun (ctx (fun _ => none) ccAnn) (3 : Nat) (86 : FuncId) [V.dat (32 : TypeId) l, V.str s] (V.prop (hasP l s)) = ((∃ (x : Nat), (x ≤ l.len ∧ ∀ (i : Nat), i
< x → sAt l i = s → False) ∧ ((0 : Int) = (↑x : Int) ∧ True) ∧ True) ∧ ∀ (x : Nat), (x ≤ l.len ∧ ∀ (i : Nat), i < x → sAt l i = s → False) → l.len - x < LIM ∧ ((↑x : Int) < (↑l.len : Int) → (0 : Int)
≤ (↑x : Int) ∧ (↑x : Int) < (↑l.len : Int) ∧ (s = sAt l x → ((0 : Int) ≤ (↑x : Int) ↔ hasP l s)) ∧ ((s = sAt l x → False) → ((-9223372036854775808 : Int) ≤ (↑x : Int) + (1 : Int) ∧ (↑x : Int) + (1 :
Int) < (9223372036854775808 : Int)) ∧ ∃ (y : Nat), (y ≤ l.len ∧ ∀ (i : Nat), i < y → sAt l i = s → False) ∧ l.len - y < l.len - x ∧ ((↑x : Int) + (1 : Int) = (↑y : Int) ∧ True) ∧ True)) ∧ (((↑x : Int)
< (↑l.len : Int) → False) → (false = true ↔ hasP l s))) := by intros; kernel_rfl
theorem vc67 : ∀ (l : D) (s : List UInt8), symFun (ctx (fun _ => none) ccAnn) (3 : Nat) (67 : FuncId) [V.dat (32 : TypeId) l, V.str s] (V.prop (hasP l s)) = ((∃ (x : Nat), (x ≤ l.len ∧ ∀ (i : Nat), i
< x → sAt l i = s → False) ∧ ((0 : Int) = (↑x : Int) ∧ True) ∧ True) ∧ ∀ (x : Nat), (x ≤ l.len ∧ ∀ (i : Nat), i < x → sAt l i = s → False) → l.len - x < LIM ∧ ((↑x : Int) < (↑l.len : Int) → (0 : Int)
≤ (↑x : Int) ∧ (↑x : Int) < (↑l.len : Int) ∧ (sAt l x = s → (true = true ↔ hasP l s)) ∧ ((sAt l x = s → False) → ((-9223372036854775808 : Int) ≤ (↑x : Int) + (1 : Int) ∧ (↑x : Int) + (1 : Int) <
(9223372036854775808 : Int)) ∧ ∃ (y : Nat), (y ≤ l.len ∧ ∀ (i : Nat), i < y → sAt l i = s → False) ∧ l.len - y < l.len - x ∧ ((↑x : Int) + (1 : Int) = (↑y : Int) ∧ True) ∧ True)) ∧ (((↑x : Int) <
(↑l.len : Int) → False) → (false = true ↔ hasP l s))) := by intros; kernel_rfl
theorem vc66 : ∀ (s : List UInt8), symFun (ctx (fun _ => none) ccAnn) (3 : Nat) (66 : FuncId) [V.str s] (V.prop (nameP s)) = ((((↑s.length : Int) < (1 : Int) → False) → ((12 : Int) < (↑s.length : Int)
→ (false = true ↔ nameP s)) ∧ (((12 : Int) < (↑s.length : Int) → False) → (∃ (x : Nat), (x ≤ s.length ∧ ∀ (i : Nat), i < x → (97 : Int) ≤ byteAt s i ∧ byteAt s i ≤ (122 : Int)) ∧ ((0 : Int) = (↑x :
Int) ∧ True) ∧ True) ∧ ∀ (x : Nat), (x ≤ s.length ∧ ∀ (i : Nat), i < x → (97 : Int) ≤ byteAt s i ∧ byteAt s i ≤ (122 : Int)) → s.length - x < LIM ∧ ((↑x : Int) < (↑s.length : Int) → (0 : Int) ≤ (↑x :
Int) ∧ (↑x : Int) < (↑s.length : Int) ∧ ((byteAt s x < (97 : Int) → False) → (0 : Int) ≤ (↑x : Int) ∧ (↑x : Int) < (↑s.length : Int) ∧ ((122 : Int) < byteAt s x → (false = true ↔ nameP s)) ∧ (((122 :
Int) < byteAt s x → False) → ((-9223372036854775808 : Int) ≤ (↑x : Int) + (1 : Int) ∧ (↑x : Int) + (1 : Int) < (9223372036854775808 : Int)) ∧ ∃ (y : Nat), (y ≤ s.length ∧ ∀ (i : Nat), i < y → (97 :
Int) ≤ byteAt s i ∧ byteAt s i ≤ (122 : Int)) ∧ s.length - y < s.length - x ∧ ((↑x : Int) + (1 : Int) = (↑y : Int) ∧ True) ∧ True)) ∧ (byteAt s x < (97 : Int) → (false = true ↔ nameP s))) ∧ (((↑x :
Int) < (↑s.length : Int) → False) → (true = true ↔ nameP s)))) ∧ ((↑s.length : Int) < (1 : Int) → (false = true ↔ nameP s))) := by intros; kernel_rfl
theorem vc68 : ∀ (a b : D), symFun (ctx (fun _ => none) ccAnn) (3 : Nat) (68 : FuncId) [V.dat (32 : TypeId) a, V.dat (32 : TypeId) b] (V.prop (eqS a b)) = ((((↑a.len : Int) = (↑b.len : Int) → False) →
(false = true ↔ eqS a b)) ∧ ((((↑a.len : Int) = (↑b.len : Int) → False) → False) → (∃ (x : Nat), (x ≤ a.len ∧ ∀ (i : Nat), i < x → sAt a i = sAt b i) ∧ ((0 : Int) = (↑x : Int) ∧ True) ∧ True) ∧ ∀ (x :
Nat), (x ≤ a.len ∧ ∀ (i : Nat), i < x → sAt a i = sAt b i) → a.len - x < LIM ∧ ((↑x : Int) < (↑a.len : Int) → (0 : Int) ≤ (↑x : Int) ∧ (↑x : Int) < (↑a.len : Int) ∧ (0 : Int) ≤ (↑x : Int) ∧ (↑x : Int)
< (↑b.len : Int) ∧ ((sAt a x = sAt b x → False) → (false = true ↔ eqS a b)) ∧ (((sAt a x = sAt b x → False) → False) → ((-9223372036854775808 : Int) ≤ (↑x : Int) + (1 : Int) ∧ (↑x : Int) + (1 : Int) <
(9223372036854775808 : Int)) ∧ ∃ (y : Nat), (y ≤ a.len ∧ ∀ (i : Nat), i < y → sAt a i = sAt b i) ∧ a.len - y < a.len - x ∧ ((↑x : Int) + (1 : Int) = (↑y : Int) ∧ True) ∧ True)) ∧ (((↑x : Int) <
(↑a.len : Int) → False) → (true = true ↔ eqS a b)))) := by intros; kernel_rfl
theorem vc65 : ∀ (k : Int) (a : List UInt8) (la : Prop) (nm : D) (n : Int), symFun (ctx (fun _ => none) ccAnn) (3 : Nat) (65 : FuncId) [V.agg [V.int IntKind.u8 k, V.str a, V.prop la, V.dat (32 :
TypeId) nm, V.int IntKind.i64 n]] (V.prop (formP k a la nm.len n)) = ((k = (1 : Int) → ((1 : Int) ≤ (↑nm.len : Int) → ((↑nm.len : Int) ≤ (16 : Int) → (n = (0 : Int) → ((la → False) → (a = [] ↔ formP k
a la nm.len n)) ∧ (((la → False) → False) → (false = true ↔ formP k a la nm.len n))) ∧ ((n = (0 : Int) → False) → (false = true ↔ formP k a la nm.len n))) ∧ (((↑nm.len : Int) ≤ (16 : Int) → False) →
(false = true ↔ formP k a la nm.len n))) ∧ (((1 : Int) ≤ (↑nm.len : Int) → False) → (false = true ↔ formP k a la nm.len n))) ∧ ((k = (1 : Int) → False) → (k = (2 : Int) → ((↑nm.len : Int) = (0 : Int)
→ (n = (0 : Int) → (la → False ↔ formP k a la nm.len n)) ∧ ((n = (0 : Int) → False) → (false = true ↔ formP k a la nm.len n))) ∧ (((↑nm.len : Int) = (0 : Int) → False) → (false = true ↔ formP k a la
nm.len n))) ∧ ((k = (2 : Int) → False) → (k = (3 : Int) → ((↑nm.len : Int) = (0 : Int) → (n = (0 : Int) → (la → False ↔ formP k a la nm.len n)) ∧ ((n = (0 : Int) → False) → (false = true ↔ formP k a
la nm.len n))) ∧ (((↑nm.len : Int) = (0 : Int) → False) → (false = true ↔ formP k a la nm.len n))) ∧ ((k = (3 : Int) → False) → (k = (8 : Int) → ((↑nm.len : Int) = (0 : Int) → (n = (0 : Int) → (la →
False ↔ formP k a la nm.len n)) ∧ ((n = (0 : Int) → False) → (false = true ↔ formP k a la nm.len n))) ∧ (((↑nm.len : Int) = (0 : Int) → False) → (false = true ↔ formP k a la nm.len n))) ∧ ((k = (8 :
Int) → False) → (k = (9 : Int) → ((↑nm.len : Int) = (0 : Int) → (n = (0 : Int) → (la → False ↔ formP k a la nm.len n)) ∧ ((n = (0 : Int) → False) → (false = true ↔ formP k a la nm.len n))) ∧
(((↑nm.len : Int) = (0 : Int) → False) → (false = true ↔ formP k a la nm.len n))) ∧ ((k = (9 : Int) → False) → (k = (4 : Int) → ((↑nm.len : Int) = (0 : Int) → ((1 : Int) ≤ n → (n ≤ (2 : Int) ↔ formP k
a la nm.len n)) ∧ (((1 : Int) ≤ n → False) → (false = true ↔ formP k a la nm.len n))) ∧ (((↑nm.len : Int) = (0 : Int) → False) → (false = true ↔ formP k a la nm.len n))) ∧ ((k = (4 : Int) → False) →
(k = (5 : Int) → ((↑nm.len : Int) = (0 : Int) → (n = (0 : Int) ↔ formP k a la nm.len n)) ∧ (((↑nm.len : Int) = (0 : Int) → False) → (false = true ↔ formP k a la nm.len n))) ∧ ((k = (5 : Int) → False)
→ (k = (6 : Int) → ((1 : Int) ≤ (↑nm.len : Int) → ((↑nm.len : Int) ≤ (16 : Int) → (n = (0 : Int) ↔ formP k a la nm.len n)) ∧ (((↑nm.len : Int) ≤ (16 : Int) → False) → (false = true ↔ formP k a la
nm.len n))) ∧ (((1 : Int) ≤ (↑nm.len : Int) → False) → (false = true ↔ formP k a la nm.len n))) ∧ ((k = (6 : Int) → False) → (k = (7 : Int) → ((1 : Int) ≤ (↑nm.len : Int) → ((↑nm.len : Int) ≤ (16 :
Int) → (n = (0 : Int) ↔ formP k a la nm.len n)) ∧ (((↑nm.len : Int) ≤ (16 : Int) → False) → (false = true ↔ formP k a la nm.len n))) ∧ (((1 : Int) ≤ (↑nm.len : Int) → False) → (false = true ↔ formP k
a la nm.len n))) ∧ ((k = (7 : Int) → False) → (k = (10 : Int) → ((↑nm.len : Int) = (0 : Int) → ((0 : Int) ≤ n → (n ≤ (63 : Int) → (la → False ↔ formP k a la nm.len n)) ∧ ((n ≤ (63 : Int) → False) →
(false = true ↔ formP k a la nm.len n))) ∧ (((0 : Int) ≤ n → False) → (false = true ↔ formP k a la nm.len n))) ∧ (((↑nm.len : Int) = (0 : Int) → False) → (false = true ↔ formP k a la nm.len n))) ∧ ((k
= (10 : Int) → False) → (false = true ↔ formP k a la nm.len n)))))))))))) := by intros; kernel_rfl
theorem vc63 : ∀ (l : D), symFun (ctx cc1 ccAnn) (3 : Nat) (63 : FuncId) [V.dat (32 : TypeId) l] (V.prop (twiceP l)) = ((∃ (x : Nat), (x ≤ l.len ∧ ∀ (i k : Nat), k < i → i < x → sAt l k = sAt l i →
False) ∧ ((0 : Int) = (↑x : Int) ∧ True) ∧ True) ∧ ∀ (x : Nat), (x ≤ l.len ∧ ∀ (i k : Nat), k < i → i < x → sAt l k = sAt l i → False) → l.len - x < LIM ∧ ((↑x : Int) < (↑l.len : Int) → (0 : Int) ≤
(↑x : Int) ∧ (↑x : Int) < (↑l.len : Int) ∧ (0 : Int) ≤ (0 : Int) ∧ (0 : Int) ≤ (↑x : Int) ∧ (↑x : Int) ≤ (↑l.len : Int) ∧ (l.sub (0 : Nat) x).len ≤ (100 : Nat) ∧ (hasP (l.sub (0 : Nat) x) (sAt l x) →
(true = true ↔ twiceP l)) ∧ ((hasP (l.sub (0 : Nat) x) (sAt l x) → False) → ((-9223372036854775808 : Int) ≤ (↑x : Int) + (1 : Int) ∧ (↑x : Int) + (1 : Int) < (9223372036854775808 : Int)) ∧ ∃ (y :
Nat), (y ≤ l.len ∧ ∀ (i k : Nat), k < i → i < y → sAt l k = sAt l i → False) ∧ l.len - y < l.len - x ∧ ((↑x : Int) + (1 : Int) = (↑y : Int) ∧ True) ∧ True)) ∧ (((↑x : Int) < (↑l.len : Int) → False) →
(false = true ↔ twiceP l))) := by intros; kernel_rfl
theorem vc64 : ∀ (c : D) (s : List UInt8), symFun (ctx cc1 (lstAnn s)) (6 : Nat) (64 : FuncId) [V.dat (22 : TypeId) c, V.str s] (V.prop (listedP c c.len s)) = ((∃ (x : Nat), (x ≤ c.len ∧ ∀ (k : Nat),
k < x → cK (el c k) = (1 : Int) ∧ hasP (cNm (el c k)) s → False) ∧ ((0 : Int) = (↑x : Int) ∧ True) ∧ True) ∧ ∀ (x : Nat), (x ≤ c.len ∧ ∀ (k : Nat), k < x → cK (el c k) = (1 : Int) ∧ hasP (cNm (el c
k)) s → False) → c.len - x < LIM ∧ ((↑x : Int) < (↑c.len : Int) → (0 : Int) ≤ (↑x : Int) ∧ (↑x : Int) < (↑c.len : Int) ∧ (cK (el c x) = (1 : Int) → (cNm (el c x)).len ≤ (100 : Nat) ∧ (hasP (cNm (el c
x)) s → ((0 : Int) ≤ (↑x : Int) ↔ listedP c c.len s)) ∧ ((hasP (cNm (el c x)) s → False) → ((-9223372036854775808 : Int) ≤ (↑x : Int) + (1 : Int) ∧ (↑x : Int) + (1 : Int) < (9223372036854775808 :
Int)) ∧ ∃ (y : Nat), (y ≤ c.len ∧ ∀ (k : Nat), k < y → cK (el c k) = (1 : Int) ∧ hasP (cNm (el c k)) s → False) ∧ c.len - y < c.len - x ∧ ((↑x : Int) + (1 : Int) = (↑y : Int) ∧ True) ∧ True)) ∧ ((cK
(el c x) = (1 : Int) → False) → ((-9223372036854775808 : Int) ≤ (↑x : Int) + (1 : Int) ∧ (↑x : Int) + (1 : Int) < (9223372036854775808 : Int)) ∧ ∃ (y : Nat), (y ≤ c.len ∧ ∀ (k : Nat), k < y → cK (el c
k) = (1 : Int) ∧ hasP (cNm (el c k)) s → False) ∧ c.len - y < c.len - x ∧ ((↑x : Int) + (1 : Int) = (↑y : Int) ∧ True) ∧ True)) ∧ (((↑x : Int) < (↑c.len : Int) → False) → (false = true ↔ listedP c
c.len s))) := by intros; kernel_rfl
theorem vc42 : ∀ (k : Int) (a : List UInt8) (la : Prop) (nm : D) (n k' : Int) (a' : List UInt8) (la' : Prop) (nm' : D) (n' : Int), symFun (ctx cc1 ccAnn) (3 : Nat) (42 : FuncId) [V.agg [V.int
IntKind.u8 k, V.str a, V.prop la, V.dat (32 : TypeId) nm, V.int IntKind.i64 n], V.agg [V.int IntKind.u8 k', V.str a', V.prop la', V.dat (32 : TypeId) nm', V.int IntKind.i64 n']] (V.prop (k = k' ∧ a =
a' ∧ (la ↔ la') ∧ n = n' ∧ eqS nm nm')) = ((k = k' → (a = a' → ((la ↔ la') → (n = n' → nm.len ≤ (100 : Nat) ∧ (eqS nm nm' ↔ k = k' ∧ a = a' ∧ (la ↔ la') ∧ n = n' ∧ eqS nm nm')) ∧ ((n = n' → False) →
(false = true ↔ k = k' ∧ a = a' ∧ (la ↔ la') ∧ n = n' ∧ eqS nm nm'))) ∧ (((la ↔ la') → False) → (false = true ↔ k = k' ∧ a = a' ∧ (la ↔ la') ∧ n = n' ∧ eqS nm nm'))) ∧ ((a = a' → False) → (false =
true ↔ k = k' ∧ a = a' ∧ (la ↔ la') ∧ n = n' ∧ eqS nm nm'))) ∧ ((k = k' → False) → (false = true ↔ k = k' ∧ a = a' ∧ (la ↔ la') ∧ n = n' ∧ eqS nm nm'))) := by intros; kernel_rfl
theorem nm_no {s : List UInt8} {x : Nat} (hx : x < s.length) (hn : ¬ (97 ≤ byteAt s x ∧ byteAt s x ≤ 122)) : ¬ nameP s := fun h => hn (h.out.2.2 x hx)
theorem s86 (l : D) (s : List UInt8) (h : l.len ≤ 100) : symFun (ctx (fun _ => none) ccAnn) 3 86 [.dat 32 l, .str s] (.prop (hasP l s)) := by
 rw [vc86]
 simp only [imp_false, Classical.not_not, true_and, and_true]
 refine ⟨⟨0, ⟨by omega, fun i hi => by omega⟩, rfl⟩, fun x ⟨hx, hinv⟩ => ⟨by unfold LIM; omega, fun hlt => ⟨by omega, hlt, fun he => ⟨fun _ => ⟨x, by omega, he.symm⟩, fun _ => by omega⟩, fun hn => ⟨by omega, x + 1, ⟨by omega, fun i hi => ?_⟩, by omega, by omega⟩⟩, fun hge => ⟨fun h => by simp at h, fun h => ?_⟩⟩⟩
 ·by_cases e : i = x
  ·subst e; exact fun h => hn h.symm
  ·exact hinv i (by omega)
 ·obtain ⟨i, h1, h2⟩ := h.out; exact absurd h2 (hinv i (by omega))
theorem s67 (l : D) (s : List UInt8) (h : l.len ≤ 100) : symFun (ctx (fun _ => none) ccAnn) 3 67 [.dat 32 l, .str s] (.prop (hasP l s)) := by
 rw [vc67]
 simp only [imp_false, Classical.not_not, true_and, and_true]
 refine ⟨⟨0, ⟨by omega, fun i hi => by omega⟩, rfl⟩, fun x ⟨hx, hinv⟩ => ⟨by unfold LIM; omega, fun hlt => ⟨by omega, hlt, fun he => ⟨fun _ => ⟨x, by omega, he⟩, fun _ => by first | rfl | trivial⟩, fun hn => ⟨by omega, x + 1, ⟨by omega, fun i hi => ?_⟩, by omega, by omega⟩⟩, fun hge => ⟨fun h => by simp at h, fun h => ?_⟩⟩⟩
 ·by_cases e : i = x
  ·subst e; exact hn
  ·exact hinv i (by omega)
 ·obtain ⟨i, h1, h2⟩ := h.out; exact absurd h2 (hinv i (by omega))
theorem s66 (s : List UInt8) : symFun (ctx (fun _ => none) ccAnn) 3 66 [.str s] (.prop (nameP s)) := by
 rw [vc66]
 simp only [imp_false, Classical.not_not, true_and, and_true]
 have no : ∀ x, x < s.length → ¬ (97 ≤ byteAt s x ∧ byteAt s x ≤ 122) → (false = true ↔ nameP s) := fun x hx hn => ⟨fun h => by simp at h, fun h => absurd (h.out.2.2 x hx) hn⟩
 have bad : ¬ (1 ≤ s.length ∧ s.length ≤ 12) → (false = true ↔ nameP s) := fun hn => ⟨fun h => by simp at h, fun h => absurd ⟨h.out.1, h.out.2.1⟩ hn⟩
 refine ⟨fun h1 => ⟨fun h2 => bad (by omega), fun h2 => ⟨⟨0, ⟨by omega, fun i hi => by omega⟩, rfl⟩, fun x ⟨hx, hinv⟩ => ⟨by unfold LIM; omega, fun hlt => ⟨by omega, by omega, fun h3 => ⟨by omega, by omega, fun h4 => no x (by omega) (by omega), fun h4 => ⟨by omega, x + 1, ⟨by omega, fun i hi => ?_⟩, by omega, by omega⟩⟩, fun h3 => no x (by omega) (by omega)⟩, fun hge => ⟨fun _ => ⟨by omega, by omega, fun i hi => hinv i (by omega)⟩, fun _ => by first | rfl | trivial⟩⟩⟩⟩, fun h1 => bad (by omega)⟩
 by_cases e : i = x
 ·subst e; exact ⟨by omega, by omega⟩
 ·exact hinv i (by omega)
theorem s68 (a b : D) (h : a.len ≤ 100) : symFun (ctx (fun _ => none) ccAnn) 3 68 [.dat 32 a, .dat 32 b] (.prop (eqS a b)) := by
 rw [vc68]
 simp only [imp_false, Classical.not_not, true_and, and_true]
 refine ⟨fun hne => ⟨fun h => by simp at h, fun h => absurd (by rw [h.out.1]) hne⟩, fun heq => ⟨⟨0, ⟨by omega, fun i hi => by omega⟩, rfl⟩, fun x ⟨hx, hinv⟩ => ⟨by unfold LIM; omega, fun hlt => ⟨by omega, hlt, by omega, by omega, fun hn => ⟨fun h => by simp at h, fun h => absurd (h.out.2 x (by omega)) hn⟩, fun hs => ⟨by omega, x + 1, ⟨by omega, fun i hi => ?_⟩, by omega, by omega⟩⟩, fun hge => ⟨fun _ => ⟨by omega, fun i hi => hinv i (by omega)⟩, fun _ => by first | rfl | trivial⟩⟩⟩⟩
 by_cases e : i = x
 ·subst e; exact hs
 ·exact hinv i (by omega)
theorem form_iff (k : Int) (a : List UInt8) (la : Prop) (m : Nat) (n : Int) : formP k a la m n ↔ ((k = 1 ∧ 1 ≤ m ∧ m ≤ 16 ∧ n = 0 ∧ ¬ la ∧ a = []) ∨ ((k = 2 ∨ k = 3 ∨ k = 8 ∨ k = 9) ∧ m = 0 ∧ n = 0 ∧ ¬ la) ∨
  (k = 4 ∧ m = 0 ∧ 1 ≤ n ∧ n ≤ 2) ∨ (k = 5 ∧ m = 0 ∧ n = 0) ∨ ((k = 6 ∨ k = 7) ∧ 1 ≤ m ∧ m ≤ 16 ∧ n = 0) ∨ (k = 10 ∧ m = 0 ∧ 0 ≤ n ∧ n ≤ 63 ∧ ¬ la)) := ⟨fun h => h.out, fun h => ⟨h⟩⟩
set_option maxHeartbeats 8000000 in
theorem s65 (k : Int) (a : List UInt8) (la : Prop) (nm : D) (n : Int) : symFun (ctx (fun _ => none) ccAnn) 3 65 [.agg [.int .u8 k, .str a, .prop la, .dat 32 nm, .int .i64 n]] (.prop (formP k a la nm.len n)) := by
 rw [vc65]
 simp only [form_iff, imp_false, Classical.not_not, Bool.false_eq_true, false_iff]
 generalize (a = []) = A at *
 by_cases hA : A <;> by_cases hla : la <;> simp only [hA, hla, not_true_eq_false, not_false_eq_true, true_implies, false_implies, true_and, and_true, and_false, false_and, true_iff, false_iff, or_false, false_or] <;> (repeat' (first | refine And.intro ?_ ?_ | intro _)) <;> omega
theorem s63 (l : D) (h : l.len ≤ 100) : symFun (ctx cc1 ccAnn) 3 63 [.dat 32 l] (.prop (twiceP l)) := by
 rw [vc63]
 simp only [imp_false, Classical.not_not, true_and, and_true]
 refine ⟨⟨0, ⟨by omega, fun i k hk hi => by omega⟩, rfl⟩, fun x ⟨hx, hinv⟩ => ⟨by unfold LIM; omega, fun hlt => ?_, fun hge => ⟨fun h => by simp at h, fun h => ?_⟩⟩⟩
 ·have hs := sub_has l x (by omega) (sAt l x)
  refine ⟨by omega, hlt, by omega, by omega, by omega, by rw [sub_len l x (by omega)]; omega, fun hh => ⟨fun _ => ?_, fun _ => by first | rfl | trivial⟩, fun hn => ⟨by omega, x + 1, ⟨by omega, fun i k hk hi => ?_⟩, by omega, by omega⟩⟩
  ·obtain ⟨k, h1, h2⟩ := hs.1 hh; exact ⟨x, k, h1, by omega, h2⟩
  ·by_cases e : i = x
   ·subst e; exact fun h => hn (hs.2 ⟨k, hk, h⟩)
   ·exact hinv i k hk (by omega)
 ·obtain ⟨i, k, h1, h2, h3⟩ := h.out; exact absurd h3 (hinv i k h1 (by omega))
theorem s64 (c : D) (s : List UInt8) (h : smallC c) : symFun (ctx cc1 (lstAnn s)) 6 64 [.dat 22 c, .str s] (.prop (listedP c c.len s)) := by
 have hlen := h.out.1
 rw [vc64]
 simp only [imp_false, Classical.not_not, true_and, and_true]
 have go : ∀ x, x < c.len → (∀ k, k < x → ¬ (cK (el c k) = 1 ∧ hasP (cNm (el c k)) s)) → ¬ (cK (el c x) = 1 ∧ hasP (cNm (el c x)) s) → ∃ y, (y ≤ c.len ∧ ∀ k, k < y → ¬ (cK (el c k) = 1 ∧ hasP (cNm (el c k)) s)) ∧ c.len - y < c.len - x ∧ (x : Int) + 1 = (y : Int) := fun x hx hinv hn => ⟨x + 1, ⟨by omega, fun k hk => by
  by_cases e : k = x
  ·subst e; exact hn
  ·exact hinv k (by omega)⟩, by omega, by omega⟩
 refine ⟨⟨0, ⟨by omega, fun i hi => by omega⟩, rfl⟩, fun x ⟨hx, hinv⟩ => ⟨by unfold LIM; omega, fun hlt => ⟨by omega, hlt, fun hk => ⟨h.out.2 x (by omega), fun hh => ⟨fun _ => ⟨x, by omega, hk, hh⟩, fun _ => by omega⟩, fun hn => ⟨by omega, go x (by omega) hinv fun h => hn h.2⟩⟩, fun hk => ⟨by omega, go x (by omega) hinv fun h => hk h.1⟩⟩, fun hge => ⟨fun h => by simp at h, fun h => ?_⟩⟩⟩
 obtain ⟨k, h1, h2⟩ := h.out; exact absurd h2 (hinv k (by omega))
theorem s42 (k : Int) (a : List UInt8) (la : Prop) (nm : D) (n : Int) (k' : Int) (a' : List UInt8) (la' : Prop) (nm' : D) (n' : Int) (h : nm.len ≤ 100) : symFun (ctx cc1 ccAnn) 3 42 [.agg [.int .u8 k, .str a, .prop la, .dat 32 nm, .int .i64 n], .agg [.int .u8 k', .str a', .prop la', .dat 32 nm', .int .i64 n']] (.prop (k = k' ∧ a = a' ∧ (la ↔ la') ∧ n = n' ∧ eqS nm nm')) := by
 rw [vc42]
 repeat' (first | refine And.intro ?_ ?_ | intro _)
 all_goals simp_all
end Go.Ev

end

section
open Go.Proofs
namespace Go.Ev
set_option maxRecDepth 100000
set_option maxHeartbeats 4000000
def leftC (s u : List UInt8) : Prop := (∃ (x_1 : Nat), (x_1 ≤ u.length ∧ ∀ (i : Nat), i < x_1 → (97 : Int) ≤ byteAt u i ∧ byteAt u i ≤ (122 : Int)) ∧ (u = List.drop x_1 u ∧ True) ∧ setN (26 : Nat) = setN (26 : Nat) ∧ True) ∧ ∀ (x_1 : Nat),
(x_1 ≤ u.length ∧ ∀ (i : Nat), i < x_1 → (97 : Int) ≤ byteAt u i ∧ byteAt u i ≤ (122 : Int)) → u.length - x_1 < LIM ∧ ((0 : Int) < (↑(List.drop x_1 u).length : Int) → (0 : Int) ≤ (0 : Int) ∧ (0 : Int)
< (↑(List.drop x_1 u).length : Int) ∧ (0 : Int) ≤ byteAt (List.drop x_1 u) (0 : Nat) ∧ byteAt (List.drop x_1 u) (0 : Nat) < (256 : Int) ∧ (byteAt (List.drop x_1 u) (0 : Nat)).toNat * 1 < (setN (26 :
Nat)).length ∧ (((nthD (setN (26 : Nat)) ((byteAt (List.drop x_1 u) (0 : Nat)).toNat * 1)).asProp → False) → (List.drop x_1 u = [] ↔ nameP s)) ∧ ((((nthD (setN (26 : Nat)) ((byteAt (List.drop x_1 u)
(0 : Nat)).toNat * 1)).asProp → False) → False) → (0 : Int) ≤ (1 : Int) ∧ (1 : Int) ≤ (↑(List.drop x_1 u).length : Int) ∧ (↑(List.drop x_1 u).length : Int) ≤ (↑(List.drop x_1 u).length : Int) ∧ ∃ (y :
Nat), (y ≤ u.length ∧ ∀ (i : Nat), i < y → (97 : Int) ≤ byteAt u i ∧ byteAt u i ≤ (122 : Int)) ∧ u.length - y < u.length - x_1 ∧ (List.take ((List.drop x_1 u).length - Int.toNat (1 : Int)) (List.drop
(Int.toNat (1 : Int)) (List.drop x_1 u)) = List.drop y u ∧ True) ∧ setN (26 : Nat) = setN (26 : Nat) ∧ True)) ∧ (((0 : Int) < (↑(List.drop x_1 u).length : Int) → False) → (List.drop x_1 u = [] ↔ nameP
s))
theorem vc61 : ∀ (s : List UInt8), symFun (ctx cc0 ccAnn) (6 : Nat) (61 : FuncId) [V.str s] (V.prop (nameP s)) = (((s = [] → False) → ((↑s.length : Int) ≤ (12 : Int) → ((s = [] → False) → (∃ (x :
Nat), x.le (26 : Nat) ∧ ((0 : Int) = (↑x : Int) ∧ True) ∧ List.replicate (256 : Nat) (D.bool False) = setN x ∧ True) ∧ ∀ (x : Nat), x.le (26 : Nat) → (26 : Nat) - x < LIM ∧ ((↑x : Int) < (26 : Int) →
(0 : Int) ≤ (↑x : Int) ∧ (↑x : Int) < (26 : Int) ∧ ((128 : Int) ≤ byteAt letsB x → False ∧ False ∧ (([] : List UInt8) = [] ↔ nameP s)) ∧ (((128 : Int) ≤ byteAt letsB x → False) → (0 : Int) ≤ byteAt
letsB x ∧ byteAt letsB x < (256 : Int) ∧ (byteAt letsB x).toNat * 1 < (setN x).length ∧ ((-9223372036854775808 : Int) ≤ (↑x : Int) + (1 : Int) ∧ (↑x : Int) + (1 : Int) < (9223372036854775808 : Int)) ∧
∃ (y : Nat), y.le (26 : Nat) ∧ (26 : Nat) - y < (26 : Nat) - x ∧ ((↑x : Int) + (1 : Int) = (↑y : Int) ∧ True) ∧ (setN x).set ((byteAt letsB x).toNat * 1) (D.bool (true = true)) = setN y ∧ True)) ∧
(((↑x : Int) < (26 : Int) → False) → (∃ (x_1 : Nat), (x_1 ≤ s.length ∧ ∀ (i : Nat), x_1 ≤ i → i < s.length → (97 : Int) ≤ byteAt s i ∧ byteAt s i ≤ (122 : Int)) ∧ (s = List.take x_1 s ∧ True) ∧ setN x
= setN (26 : Nat) ∧ True) ∧ ∀ (x : Nat), (x ≤ s.length ∧ ∀ (i : Nat), x ≤ i → i < s.length → (97 : Int) ≤ byteAt s i ∧ byteAt s i ≤ (122 : Int)) → x < LIM ∧ ((0 : Int) < (↑(List.take x s).length :
Int) → ((-9223372036854775808 : Int) ≤ (↑(List.take x s).length : Int) - (1 : Int) ∧ (↑(List.take x s).length : Int) - (1 : Int) < (9223372036854775808 : Int)) ∧ (0 : Int) ≤ (↑(List.take x s).length :
Int) - (1 : Int) ∧ (↑(List.take x s).length : Int) - (1 : Int) < (↑(List.take x s).length : Int) ∧ (0 : Int) ≤ byteAt (List.take x s) ((↑(List.take x s).length : Int) - (1 : Int)).toNat ∧ byteAt
(List.take x s) ((↑(List.take x s).length : Int) - (1 : Int)).toNat < (256 : Int) ∧ (byteAt (List.take x s) ((↑(List.take x s).length : Int) - (1 : Int)).toNat).toNat * 1 < (setN (26 : Nat)).length ∧
(((nthD (setN (26 : Nat)) ((byteAt (List.take x s) ((↑(List.take x s).length : Int) - (1 : Int)).toNat).toNat * 1)).asProp → False) → leftC s (List.take x s)) ∧ ((((nthD (setN (26 : Nat)) ((byteAt
(List.take x s) ((↑(List.take x s).length : Int) - (1 : Int)).toNat).toNat * 1)).asProp → False) → False) → ((-9223372036854775808 : Int) ≤ (↑(List.take x s).length : Int) - (1 : Int) ∧ (↑(List.take x
s).length : Int) - (1 : Int) < (9223372036854775808 : Int)) ∧ (0 : Int) ≤ (0 : Int) ∧ (0 : Int) ≤ (↑(List.take x s).length : Int) - (1 : Int) ∧ (↑(List.take x s).length : Int) - (1 : Int) ≤
(↑(List.take x s).length : Int) ∧ ∃ (y : Nat), (y ≤ s.length ∧ ∀ (i : Nat), y ≤ i → i < s.length → (97 : Int) ≤ byteAt s i ∧ byteAt s i ≤ (122 : Int)) ∧ y < x ∧ (List.take ((↑(List.take x s).length :
Int) - (1 : Int)).toNat (List.drop (0 : Nat) (List.take x s)) = List.take y s ∧ True) ∧ setN (26 : Nat) = setN (26 : Nat) ∧ True)) ∧ (((0 : Int) < (↑(List.take x s).length : Int) → False) → leftC s
(List.take x s)))) ∧ (s = [] → (s = [] ↔ nameP s))) ∧ (((↑s.length : Int) ≤ (12 : Int) → False) → (false = true ↔ nameP s))) ∧ (((s = [] → False) → False) → (false = true ↔ nameP s))) := by intros; kernel_rfl
theorem vc62 : ∀ (k : Int) (a : List UInt8) (la : Prop) (nm : D) (n : Int), symFun (ctx (fun _ => none) ccAnn) (3 : Nat) (62 : FuncId) [V.agg [V.int IntKind.u8 k, V.str a, V.prop la, V.dat (32 :
TypeId) nm, V.int IntKind.i64 n]] (V.prop (formP k a la nm.len n)) = (((k < (1 : Int) → False) → ((10 : Int) < k → (false = true ↔ formP k a la nm.len n)) ∧ (((10 : Int) < k → False) → (0 : Int) ≤ k ∧
k < (↑(11 : Nat) : Int) ∧ ((((nthD formsL k.toNat).fld (4 : Nat)).asProp ↔ (0 : Int) < (↑nm.len : Int)) → ((↑nm.len : Int) ≤ (16 : Int) → (((nthD formsL k.toNat).fld (1 : Nat)).asInt ≤ n → (n ≤ ((nthD
formsL k.toNat).fld (2 : Nat)).asInt → (((cNm (nthD formsL k.toNat)).asProp → False) → ((la → False) → (((nthD formsL k.toNat).fld (5 : Nat)).asProp → ((a = [] → False) → False ↔ formP k a la nm.len
n)) ∧ ((((nthD formsL k.toNat).fld (5 : Nat)).asProp → False) → ((!false) = true ↔ formP k a la nm.len n))) ∧ (((la → False) → False) → (false = true ↔ formP k a la nm.len n))) ∧ ((cNm (nthD formsL
k.toNat)).asProp → (((nthD formsL k.toNat).fld (5 : Nat)).asProp → ((a = [] → False) → False ↔ formP k a la nm.len n)) ∧ ((((nthD formsL k.toNat).fld (5 : Nat)).asProp → False) → ((!false) = true ↔
formP k a la nm.len n)))) ∧ ((n ≤ ((nthD formsL k.toNat).fld (2 : Nat)).asInt → False) → (false = true ↔ formP k a la nm.len n))) ∧ ((((nthD formsL k.toNat).fld (1 : Nat)).asInt ≤ n → False) → (false
= true ↔ formP k a la nm.len n))) ∧ (((↑nm.len : Int) ≤ (16 : Int) → False) → (false = true ↔ formP k a la nm.len n))) ∧ (((((nthD formsL k.toNat).fld (4 : Nat)).asProp ↔ (0 : Int) < (↑nm.len : Int))
→ False) → (false = true ↔ formP k a la nm.len n)))) ∧ (k < (1 : Int) → (false = true ↔ formP k a la nm.len n))) := by intros; kernel_rfl
theorem setN_len (x : Nat) : (setN x).length = 256 := by unfold setN; simp
theorem setN_zero : List.replicate 256 (D.bool False) = setN 0 := by
 unfold setN
 have : (fun k : Nat => D.bool (97 ≤ k ∧ k < 97 + 0)) = fun _ => D.bool False := funext fun k => congrArg D.bool (propext ⟨fun h => by omega, fun h => h.elim⟩)
 rw [this, List.map_const', List.length_range]
theorem setN_get (y : Nat) {i : Nat} (h : i < 256) : (setN y)[i]? = some (D.bool (97 ≤ i ∧ i < 97 + y)) := by
 unfold setN; rw [List.getElem?_map, List.getElem?_range h]; rfl
theorem setN_set (x : Nat) (hx : x < 26) : (setN x).set (97 + x) (D.bool True) = setN (x + 1) := by
 refine List.ext_getElem? fun i => ?_
 rw [List.getElem?_set]
 by_cases hi : i < 256
 ·rw [setN_get x hi, setN_get (x + 1) hi]
  split
  ·rw [if_pos (by rw [setN_len]; omega)]
   exact congrArg (fun p => some (D.bool p)) (propext ⟨fun _ => by omega, fun _ => trivial⟩)
  ·exact congrArg (fun p => some (D.bool p)) (propext ⟨fun _ => by omega, fun _ => by omega⟩)
 ·rw [if_neg (by omega), List.getElem?_eq_none (by rw [setN_len]; omega), List.getElem?_eq_none (by rw [setN_len]; omega)]
theorem setN_at {n : Nat} (h : n < 256) : (nthD (setN 26) n).asProp = (97 ≤ n ∧ n < 97 + 26) := by
 unfold nthD setN
 rw [List.getElem?_map, List.getElem?_range h]; rfl
theorem lets_at : ∀ x : Nat, x < 26 → byteAt letsB x = 97 + x := by decide +kernel
theorem byte_lt (s : List UInt8) (i : Nat) : 0 ≤ byteAt s i ∧ byteAt s i < 256 := by
 unfold byteAt
 have := ((s[i]?).getD 0).toNat_lt
 omega
theorem byte_take (s : List UInt8) (x i : Nat) (h : i < x) : byteAt (s.take x) i = byteAt s i := by
 unfold byteAt; rw [List.getElem?_take_of_lt h]
theorem byte_drop (s : List UInt8) (y : Nat) : byteAt (s.drop y) 0 = byteAt s y := by
 unfold byteAt; rw [List.getElem?_drop]; rfl
theorem mark_at {s : List UInt8} {i : Nat} : (nthD (setN 26) ((byteAt s i).toNat * 1)).asProp ↔ (97 ≤ byteAt s i ∧ byteAt s i ≤ 122) := by
 have := byte_lt s i
 rw [setN_at (by omega)]
 omega
theorem drop_nil {u : List UInt8} {y : Nat} : u.drop y = [] ↔ u.length ≤ y := List.drop_eq_nil_iff
theorem left_ok {s u : List UInt8} (hl : u.length ≤ 12) (h : (u = [] ∧ nameP s) ∨ (0 < u.length ∧ ¬ nameP s ∧ ¬ (97 ≤ byteAt u (u.length - 1) ∧ byteAt u (u.length - 1) ≤ 122))) : leftC s u := by
 have stop : ∀ y, y ≤ u.length → (∀ i, i < y → 97 ≤ byteAt u i ∧ byteAt u i ≤ 122) → (u.drop y = [] ↔ nameP s) := fun y hy hinv => by
  rw [drop_nil]
  rcases h with ⟨h1, h2⟩ | ⟨h1, h2, h3⟩
  ·subst h1; exact ⟨fun _ => h2, fun _ => Nat.zero_le _⟩
  ·exact ⟨fun hh => absurd (hinv _ (by omega)) h3, fun hh => absurd hh h2⟩
 unfold leftC
 simp only [imp_false, Classical.not_not, true_and, and_true, mark_at, setN_len]
 refine ⟨⟨0, ⟨by omega, fun i hi => by omega⟩, rfl⟩, fun x ⟨hx, hinv⟩ => ⟨by unfold LIM; omega, fun hlt => ?_, fun hge => stop x hx hinv⟩⟩
 have hb := byte_lt (u.drop x) 0
 have hd : (u.drop x).length = u.length - x := List.length_drop
 refine ⟨by omega, hlt, by omega, by omega, by omega, fun hn => stop x hx hinv, fun hm => ⟨by omega, by omega, by omega, x + 1, ⟨by omega, fun i hi => ?_⟩, by omega, ?_⟩⟩
 ·by_cases e : i = x
  ·subst e; rw [byte_drop] at hm; exact hm
  ·exact hinv i (by omega)
 ·rw [List.drop_drop, List.take_of_length_le (by rw [List.length_drop, List.length_drop]; simp; omega)]
  first | rfl | (congr 1; simp; omega)
theorem s61 (s : List UInt8) : symFun (ctx cc0 ccAnn) 6 61 [.str s] (.prop (nameP s)) := by
 rw [vc61]
 simp only [imp_false, Classical.not_not, and_true, mark_at, setN_len]
 have bad : ¬ (1 ≤ s.length ∧ s.length ≤ 12) → (false = true ↔ nameP s) := fun hn => ⟨fun h => by simp at h, fun h => absurd ⟨h.out.1, h.out.2.1⟩ hn⟩
 refine ⟨fun hne => ⟨fun hl => ⟨fun _ => ⟨⟨0, Nat.zero_le _, rfl, setN_zero⟩, fun x hx => ?_⟩, fun h => absurd h hne⟩, fun hl => bad (by omega)⟩, fun he => bad (by rw [he]; simp)⟩
 have hx : x ≤ 26 := hx
 have hpos : 0 < s.length := List.length_pos_iff.2 hne
 refine ⟨by unfold LIM; omega, fun hlt => ?_, fun hge => ?_⟩
 ·have hb := lets_at x (by omega)
  refine ⟨by omega, hlt, fun h => by omega, fun _ => ⟨by omega, by omega, by omega, by omega, x + 1, show x + 1 ≤ 26 by omega, by omega, by omega, ?_⟩⟩
  rw [hb, show ((97 : Int) + (x : Int)).toNat * 1 = 97 + x by omega]
  exact setN_set x (by omega)
 ·have hx26 : x = 26 := by omega
  subst hx26
  refine ⟨⟨s.length, ⟨Nat.le_refl _, fun i h1 h2 => by omega⟩, (List.take_of_length_le (Nat.le_refl _)).symm, rfl⟩, fun x ⟨hx, hinv⟩ => ?_⟩
  have ht : (s.take x).length = x := List.length_take_of_le hx
  have hb := byte_lt (s.take x) (((s.take x).length : Int) - 1).toNat
  rw [ht] at hb ⊢
  have hlast : 0 < x → byteAt (s.take x) ((x : Int) - 1).toNat = byteAt s (x - 1) := fun h => by
   rw [show ((x : Int) - 1).toNat = x - 1 by omega, byte_take s x (x - 1) (by omega)]
  refine ⟨by unfold LIM; omega, fun hlt => ⟨by omega, by omega, by omega, hb.1, hb.2, by omega, fun hn => ?_, fun hm => ⟨by omega, by omega, by omega, by omega, x - 1, ⟨by omega, fun i h1 h2 => ?_⟩, by omega, ?_⟩⟩, fun hge => ?_⟩
  ·have hl := hlast (by omega)
   rw [hl] at hn
   refine left_ok (by omega) (.inr ⟨by omega, nm_no (show x - 1 < s.length by omega) hn, ?_⟩)
   rw [ht, byte_take s x (x - 1) (by omega)]; exact hn
  ·by_cases e : i = x - 1
   ·subst e; rw [hlast (by omega)] at hm; exact hm
   ·exact hinv i (by omega) h2
  ·rw [List.drop_zero, List.take_take]; congr 1; omega
  ·have : x = 0 := by omega
   subst this
   exact left_ok (by simp) (.inl ⟨rfl, ⟨by omega, by omega, fun i hi => hinv i (by omega) hi⟩⟩)
theorem fm4 : ∀ k : Int, 1 ≤ k → k ≤ 10 → (((nthD formsL k.toNat).fld 4).asProp ↔ (k = 1 ∨ k = 6 ∨ k = 7)) := fun k h1 h2 => by
 have : k = 1 ∨ k = 2 ∨ k = 3 ∨ k = 4 ∨ k = 5 ∨ k = 6 ∨ k = 7 ∨ k = 8 ∨ k = 9 ∨ k = 10 := by omega
 rcases this with rfl | rfl | rfl | rfl | rfl | rfl | rfl | rfl | rfl | rfl <;> first | (show (true = true ↔ _); simp; done) | (show (false = true ↔ _); simp; done)
theorem fm3 : ∀ k : Int, 1 ≤ k → k ≤ 10 → ((cNm (nthD formsL k.toNat)).asProp ↔ (k = 4 ∨ k = 5 ∨ k = 6 ∨ k = 7)) := fun k h1 h2 => by
 have : k = 1 ∨ k = 2 ∨ k = 3 ∨ k = 4 ∨ k = 5 ∨ k = 6 ∨ k = 7 ∨ k = 8 ∨ k = 9 ∨ k = 10 := by omega
 rcases this with rfl | rfl | rfl | rfl | rfl | rfl | rfl | rfl | rfl | rfl <;> first | (show (true = true ↔ _); simp; done) | (show (false = true ↔ _); simp; done)
theorem fm5 : ∀ k : Int, 1 ≤ k → k ≤ 10 → (((nthD formsL k.toNat).fld 5).asProp ↔ k = 1) := fun k h1 h2 => by
 have : k = 1 ∨ k = 2 ∨ k = 3 ∨ k = 4 ∨ k = 5 ∨ k = 6 ∨ k = 7 ∨ k = 8 ∨ k = 9 ∨ k = 10 := by omega
 rcases this with rfl | rfl | rfl | rfl | rfl | rfl | rfl | rfl | rfl | rfl <;> first | (show (true = true ↔ _); simp; done) | (show (false = true ↔ _); simp; done)
theorem fm1 : ∀ k : Int, 1 ≤ k → k ≤ 10 → ((nthD formsL k.toNat).fld 1).asInt = if k = 4 then 1 else 0 := fun k h1 h2 => by
 have : k = 1 ∨ k = 2 ∨ k = 3 ∨ k = 4 ∨ k = 5 ∨ k = 6 ∨ k = 7 ∨ k = 8 ∨ k = 9 ∨ k = 10 := by omega
 rcases this with rfl | rfl | rfl | rfl | rfl | rfl | rfl | rfl | rfl | rfl <;> rfl
theorem fm2 : ∀ k : Int, 1 ≤ k → k ≤ 10 → ((nthD formsL k.toNat).fld 2).asInt = if k = 4 then 2 else if k = 10 then 63 else 0 := fun k h1 h2 => by
 have : k = 1 ∨ k = 2 ∨ k = 3 ∨ k = 4 ∨ k = 5 ∨ k = 6 ∨ k = 7 ∨ k = 8 ∨ k = 9 ∨ k = 10 := by omega
 rcases this with rfl | rfl | rfl | rfl | rfl | rfl | rfl | rfl | rfl | rfl <;> rfl
set_option maxHeartbeats 8000000 in
theorem s62 (k : Int) (a : List UInt8) (la : Prop) (nm : D) (n : Int) : symFun (ctx (fun _ => none) ccAnn) 3 62 [.agg [.int .u8 k, .str a, .prop la, .dat 32 nm, .int .i64 n]] (.prop (formP k a la nm.len n)) := by
 rw [vc62]
 simp only [form_iff, imp_false, Classical.not_not, Bool.false_eq_true, false_iff, Bool.not_false]
 refine ⟨fun h1 => ⟨fun h2 => by omega, fun h2 => ⟨by omega, by omega, ?_⟩⟩, fun h1 => by omega⟩
 rw [fm1 k (by omega) (by omega), fm2 k (by omega) (by omega)]
 simp only [fm3 k (by omega) (by omega), fm4 k (by omega) (by omega), fm5 k (by omega) (by omega)]
 generalize (a = []) = A at *
 generalize nm.len = m
 have hk : k = 1 ∨ k = 2 ∨ k = 3 ∨ k = 4 ∨ k = 5 ∨ k = 6 ∨ k = 7 ∨ k = 8 ∨ k = 9 ∨ k = 10 := by omega
 clear h1 h2
 rcases hk with rfl | rfl | rfl | rfl | rfl | rfl | rfl | rfl | rfl | rfl <;> by_cases hA : A <;> by_cases hla : la <;> simp [hA, hla] <;> omega
end Go.Ev

end
