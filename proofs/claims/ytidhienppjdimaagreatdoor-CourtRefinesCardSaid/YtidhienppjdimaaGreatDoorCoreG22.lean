/-
  Part of the engine that the claim is proved with: it states nothing of the document by itself.
-/
import Derived.Test.YtidhienppjdimaaGreatDoorProg
import Derived.Test.YtidhienppjdimaaGreatDoorCoreG0
import Derived.Test.YtidhienppjdimaaGreatDoorCoreSeC

section
open Go.Proofs
namespace Go.Ev
def el (l : D) (i : Nat) : D := nthD l.asList i
def sAt (l : D) (i : Nat) : List UInt8 := (nthD l.asList i).asStr
def cK (d : D) : Int := (d.fld 0).asInt
def cA (d : D) : List UInt8 := (d.fld 1).asStr
def cL (d : D) : Prop := (d.fld 2).asProp
def cNm (d : D) : D := d.fld 3
def cN (d : D) : Int := (d.fld 4).asInt
structure nameP (s : List UInt8) : Prop where
 out : 1 ≤ s.length ∧ s.length ≤ 12 ∧ ∀ i, i < s.length → 97 ≤ byteAt s i ∧ byteAt s i ≤ 122
structure hasP (l : D) (s : List UInt8) : Prop where
 out : ∃ i, i < l.len ∧ sAt l i = s
structure badNm (l : D) : Prop where
 out : ∃ i, i < l.len ∧ ¬ nameP (sAt l i)
structure twiceP (l : D) : Prop where
 out : ∃ i k, k < i ∧ i < l.len ∧ sAt l k = sAt l i
structure listedP (c : D) (n : Nat) (s : List UInt8) : Prop where
 out : ∃ k, k < n ∧ cK (el c k) = 1 ∧ hasP (cNm (el c k)) s
structure eqS (a b : D) : Prop where
 out : a.len = b.len ∧ ∀ i, i < a.len → sAt a i = sAt b i
structure formP (k : Int) (a : List UInt8) (la : Prop) (m : Nat) (n : Int) : Prop where
 out : (k = 1 ∧ 1 ≤ m ∧ m ≤ 16 ∧ n = 0 ∧ ¬ la ∧ a = []) ∨ ((k = 2 ∨ k = 3 ∨ k = 8 ∨ k = 9) ∧ m = 0 ∧ n = 0 ∧ ¬ la) ∨
  (k = 4 ∧ m = 0 ∧ 1 ≤ n ∧ n ≤ 2) ∨ (k = 5 ∧ m = 0 ∧ n = 0) ∨ ((k = 6 ∨ k = 7) ∧ 1 ≤ m ∧ m ≤ 16 ∧ n = 0) ∨ (k = 10 ∧ m = 0 ∧ 0 ≤ n ∧ n ≤ 63 ∧ ¬ la)
open Classical in
noncomputable def errC (c : D) (i : Nat) (k : Int) (a : List UInt8) (la : Prop) (nm : D) (n : Int) : Int :=
 if ¬ formP k a la nm.len n then 30 else if badNm nm ∨ (a ≠ [] ∧ ¬ nameP a) then 4 else if twiceP nm then 5 else if a ≠ [] ∧ ¬ listedP c i a then 31 else 0
noncomputable def err1 (c : D) (i : Nat) : Int := errC c i (cK (el c i)) (cA (el c i)) (cL (el c i)) (cNm (el c i)) (cN (el c i))
open Classical in
noncomputable def scanZ (l : D) : Nat → Nat → Int × Int
 | 0, _ => (0, 0)
 | f + 1, i => if err1 l i ≠ 0 then ((i : Nat), err1 l i) else scanZ l f (i + 1)
open Classical in
noncomputable def badZ (l : D) : Int × Int := if 32 < l.len then (0, 7) else scanZ l l.len 0
structure smallC (c : D) : Prop where
 out : c.len ≤ 100 ∧ ∀ i, i < c.len → (cNm (el c i)).len ≤ 100
structure fewC (d : D) : Prop where
 out : (cA d).length ≤ 40 ∧ (cNm d).len ≤ 20 ∧ ∀ i, i < (cNm d).len → (sAt (cNm d) i).length ≤ 40
structure fewD (c : D) : Prop where
 out : c.len ≤ 40 ∧ ∀ i, i < c.len → fewC (el c i)
def listD (l : List D) : D := match l with | [] => .nil | l => .list l
def copyC (d : D) : D := .sct [.int (cK d), .str (cA d), .bool (cL d), .list (cNm d).asList, .int (cN d)]
def copyL (l : D) (n : Nat) : List D := (List.range n).map fun i => copyC (el l i)
def copyD (l : D) : D := listD (copyL l l.len)
structure sameC (a b : D) : Prop where
 out : cK a = cK b ∧ cA a = cA b ∧ (cL a ↔ cL b) ∧ cN a = cN b ∧ eqS (cNm a) (cNm b)
structure sameAll (a b : D) : Prop where
 out : a.len = b.len ∧ ∀ i, i < a.len → sameC (el a i) (el b i)
def setN (x : Nat) : List D := (List.range 256).map fun k => D.bool (97 ≤ k ∧ k < 97 + x)
def letsB : List UInt8 := [97, 98, 99, 100, 101, 102, 103, 104, 105, 106, 107, 108, 109, 110, 111, 112, 113, 114, 115, 116, 117, 118, 119, 120, 121, 122]
def formsL : List D := [.sct [.str [], .int 0, .int 0, .bool (false = true), .bool (false = true), .bool (false = true)],
 .sct [.str [114, 97, 110, 107], .int 0, .int 0, .bool (false = true), .bool (true = true), .bool (true = true)],
 .sct [.str [101, 108, 100, 101, 114], .int 0, .int 0, .bool (false = true), .bool (false = true), .bool (false = true)],
 .sct [.str [121, 111, 117, 116, 104], .int 0, .int 0, .bool (false = true), .bool (false = true), .bool (false = true)],
 .sct [.str [115, 105, 100, 101], .int 1, .int 2, .bool (true = true), .bool (false = true), .bool (false = true)],
 .sct [.str [104, 111, 115, 116], .int 0, .int 0, .bool (true = true), .bool (false = true), .bool (false = true)],
 .sct [.str [116, 111, 110, 103, 117, 101], .int 0, .int 0, .bool (true = true), .bool (true = true), .bool (false = true)],
 .sct [.str [99, 111, 117, 114, 116], .int 0, .int 0, .bool (true = true), .bool (true = true), .bool (false = true)],
 .sct [.str [110, 97, 109, 101], .int 0, .int 0, .bool (false = true), .bool (false = true), .bool (false = true)],
 .sct [.str [108, 105, 115, 116], .int 0, .int 0, .bool (false = true), .bool (false = true), .bool (false = true)],
 .sct [.str [108, 111, 116], .int 0, .int 63, .bool (false = true), .bool (false = true), .bool (false = true)]]
noncomputable def con107 : Con := fun | [.dat 23 l, .str s] => some (l.len ≤ 100, .prop (hasP l s)) | _ => none
noncomputable def con115 : Con := fun | [.str s] => some (True, .prop (nameP s)) | _ => none
noncomputable def con77 : Con := fun | [.dat 23 a, .dat 23 b] => some (a.len ≤ 100, .prop (eqS a b)) | _ => none
noncomputable def con114 : Con := fun | [.agg [.int .u8 k, .str a, .prop la, .dat 23 nm, .int .i64 n]] => some (True, .prop (formP k a la nm.len n)) | _ => none
noncomputable def con92 : Con := fun | [.dat 23 l] => some (l.len ≤ 100, .prop (twiceP l)) | _ => none
noncomputable def con93 : Con := fun | [.dat 22 c, .str s] => some (smallC c, .prop (listedP c c.len s)) | _ => none
noncomputable def con65 : Con := fun | [.dat 22 b, .agg [.int .u8 k, .str a, .prop la, .dat 23 nm, .int .i64 n]] => some (smallC b ∧ nm.len ≤ 100, .int .i64 (errC b b.len k a la nm n)) | _ => none
noncomputable def con72 : Con := fun | [.dat 22 c, .int .i64 i] => some ((0 ≤ i ∧ i < c.len) ∧ smallC c, .int .i64 (err1 c i.toNat)) | _ => none
noncomputable def con45 : Con := fun | [.dat 22 c] => some (smallC c, .tup [.int .i64 (badZ c).1, .int .i64 (badZ c).2]) | _ => none
noncomputable def con55 : Con := fun
 | [.agg [.int .u8 k, .str a, .prop la, .dat 23 nm, .int .i64 n], .agg [.int .u8 k', .str a', .prop la', .dat 23 nm', .int .i64 n']] => some (nm.len ≤ 100, .prop (k = k' ∧ a = a' ∧ (la ↔ la') ∧ n = n' ∧ eqS nm nm'))
 | _ => none
noncomputable def con32 : Con := fun | [.dat 22 a, .dat 22 b] => some (smallC a, .prop (sameAll a b)) | _ => none
noncomputable def con28 : Con := fun | [.dat 22 c] => some (smallC c, .dat 22 (copyD c)) | _ => none
noncomputable def con7 : Con := fun | [.dat 22 c] => some (True, .prop (fewD c)) | _ => none
noncomputable def cc1 : FuncId → Option Con
 | 107 => some con107
 | 116 => some con107
 | 115 => some con115
 | 90 => some con115
 | 77 => some con77
 | 114 => some con114
 | 91 => some con114
 | _ => none
noncomputable def conN : Con := fun | [_, _] => some (False, .str []) | _ => none
noncomputable def cc0 : FuncId → Option Con
 | 159 => some conN
 | 160 => some conN
 | _ => none
noncomputable def cc2 : FuncId → Option Con
 | 92 => some con92
 | 93 => some con93
 | 55 => some con55
 | g => cc1 g
noncomputable def cc3 : FuncId → Option Con
 | 65 => some con65
 | 72 => some con72
 | 32 => some con32
 | 28 => some con28
 | 7 => some con7
 | g => cc2 g
noncomputable def cc4 : FuncId → Option Con
 | 45 => some con45
 | 52 => some con45
 | g => cc3 g
noncomputable def ccAnn : FuncId → Nat → Option Ann
 | 132, 2 => some { τ := Nat, slots := fun _ _ x => [(8, .int .i64 x)], blks := fun _ _ _ => [], inv := fun S _ x => x ≤ (slD S 0).len ∧ ∀ i, i < x → sAt (slD S 0) i ≠ slS S 1, meas := fun S _ x => (slD S 0).len - x }
 | 116, 2 => some { τ := Nat, slots := fun _ _ x => [(5, .int .i64 x)], blks := fun _ _ _ => [], inv := fun S _ x => x ≤ (slD S 0).len ∧ ∀ i, i < x → sAt (slD S 0) i ≠ slS S 1, meas := fun S _ x => (slD S 0).len - x }
 | 115, 4 => some { τ := Nat, slots := fun _ _ x => [(3, .int .i64 x)], blks := fun _ _ _ => [], inv := fun S _ x => x ≤ (slS S 0).length ∧ ∀ i, i < x → 97 ≤ byteAt (slS S 0) i ∧ byteAt (slS S 0) i ≤ 122, meas := fun S _ x => (slS S 0).length - x }
 | 77, 4 => some { τ := Nat, slots := fun _ _ x => [(13, .int .i64 x)], blks := fun _ _ _ => [], inv := fun S _ x => x ≤ (slD S 0).len ∧ ∀ i, i < x → sAt (slD S 0) i = sAt (slD S 1) i, meas := fun S _ x => (slD S 0).len - x }
 | 92, 2 => some { τ := Nat, slots := fun _ _ x => [(7, .int .i64 x)], blks := fun _ _ _ => [], inv := fun S _ x => x ≤ (slD S 0).len ∧ ∀ i k, k < i → i < x → sAt (slD S 0) k ≠ sAt (slD S 0) i, meas := fun S _ x => (slD S 0).len - x }
 | 48, 2 => some { τ := Nat, slots := fun _ _ x => [(8, .int .i64 x)], blks := fun _ _ _ => [], inv := fun S _ x => x ≤ (slD S 0).len ∧ ∀ i, i < x → nameP (sAt (slD S 0) i), meas := fun S _ x => (slD S 0).len - x }
 | 72, 6 => some { τ := Nat, slots := fun _ _ x => [(5, .int .i64 x)], blks := fun _ _ _ => [], inv := fun S _ x => x ≤ (cNm (el (slD S 0) (slI S 1).toNat)).len ∧ ∀ i, i < x → nameP (sAt (cNm (el (slD S 0) (slI S 1).toNat)) i), meas := fun S _ x => (cNm (el (slD S 0) (slI S 1).toNat)).len - x }
 | 72, 11 => some { τ := Nat, slots := fun _ _ x => [(6, .int .i64 x)], blks := fun _ _ _ => [], inv := fun S _ x => x ≤ (cNm (el (slD S 0) (slI S 1).toNat)).len ∧ ∀ i k, k < i → i < x → sAt (cNm (el (slD S 0) (slI S 1).toNat)) k ≠ sAt (cNm (el (slD S 0) (slI S 1).toNat)) i, meas := fun S _ x => (cNm (el (slD S 0) (slI S 1).toNat)).len - x }
 | 72, 18 => some { τ := Nat, slots := fun _ _ x => [(7, .int .i64 x)], blks := fun _ _ _ => [], inv := fun S _ x => x ≤ (slI S 1).toNat ∧ ∀ k, k < x → ¬ (cK (el (slD S 0) k) = 1 ∧ hasP (cNm (el (slD S 0) k)) (cA (el (slD S 0) (slI S 1).toNat))), meas := fun S _ x => (slI S 1).toNat - x }
 | 45, 4 => some { τ := Nat, slots := fun _ _ x => [(12, .int .i64 x)], blks := fun _ _ _ => [], inv := fun S _ x => x ≤ (slD S 0).len ∧ scanZ (slD S 0) ((slD S 0).len - x) x = scanZ (slD S 0) (slD S 0).len 0, meas := fun S _ x => (slD S 0).len - x }
 | 52, 4 => some { τ := Nat, slots := fun _ _ x => [(4, .int .i64 x)], blks := fun _ _ _ => [], inv := fun S _ x => x ≤ (slD S 0).len ∧ scanZ (slD S 0) ((slD S 0).len - x) x = scanZ (slD S 0) (slD S 0).len 0, meas := fun S _ x => (slD S 0).len - x }
 | 54, 4 => some { τ := Nat, slots := fun _ _ x => [(17, .int .i64 x)], blks := fun _ _ _ => [], inv := fun S _ x => x ≤ (slD S 0).len ∧ ∀ i, i < x → sameC (el (slD S 0) i) (el (slD S 1) i), meas := fun S _ x => (slD S 0).len - x }
 | 28, 3 => some { hs := 2, τ := Nat, slots := fun _ i x => match i with | 0 => [(8, .int .i64 0), (3, .val (.slice none 0 0))] | _ => [(8, .int .i64 x), (3, .slc 60 (.lit 0) (.sym x) none)],
                   blks := fun S i x => match i with | 0 => [] | _ => [(60, .arr 57 (copyL (slD S 0) x))], inv := fun S i x => match i with | 0 => x = 0 | _ => 0 < x ∧ x ≤ (slD S 0).len, meas := fun S _ x => (slD S 0).len - x }
 | 156, 2 => some { τ := Nat, slots := fun _ _ x => [(4, .int .i64 x)], blks := fun _ _ x => [(0, .grd 175 4 (setN x))], inv := fun _ _ x => x ≤ 26, meas := fun _ _ x => 26 - x }
 | 158, 1 => some { τ := Nat, slots := fun S _ x => [(0, .str ((slS S 0).take x))], blks := fun _ _ _ => [(1, .grd 175 4 (setN 26))], inv := fun S _ x => x ≤ (slS S 0).length ∧ ∀ i, x ≤ i → i < (slS S 0).length → 97 ≤ byteAt (slS S 0) i ∧ byteAt (slS S 0) i ≤ 122, meas := fun _ _ x => x }
 | 157, 1 => some { τ := Nat, slots := fun S _ x => [(0, .str ((slS S 0).drop x))], blks := fun _ _ _ => [(1, .grd 175 4 (setN 26))], inv := fun S _ x => x ≤ (slS S 0).length ∧ ∀ i, i < x → 97 ≤ byteAt (slS S 0) i ∧ byteAt (slS S 0) i ≤ 122, meas := fun S _ x => (slS S 0).length - x }
 | _, _ => none
noncomputable def fewAnn : FuncId → Nat → Option Ann
 | 48, 2 => some { τ := Nat, slots := fun _ _ x => [(8, .int .i64 x)], blks := fun _ _ _ => [], inv := fun S _ x => x ≤ (slD S 0).len ∧ ∀ i, i < x → (sAt (slD S 0) i).length ≤ 40, meas := fun S _ x => (slD S 0).len - x }
 | 47, 2 => some { τ := Nat, slots := fun _ _ x => [(8, .int .i64 x)], blks := fun _ _ _ => [], inv := fun S _ x => x ≤ (slD S 0).len ∧ ∀ i, i < x → fewC (el (slD S 0) i), meas := fun S _ x => (slD S 0).len - x }
 | _, _ => none
noncomputable def lstAnn (s : List UInt8) : FuncId → Nat → Option Ann
 | 47, 2 => some { τ := Nat, slots := fun _ _ x => [(8, .int .i64 x)], blks := fun _ _ _ => [], inv := fun S _ x => x ≤ (slD S 0).len ∧ ∀ k, k < x → ¬ (cK (el (slD S 0) k) = 1 ∧ hasP (cNm (el (slD S 0) k)) s), meas := fun S _ x => (slD S 0).len - x }
 | _, _ => none
noncomputable def ctx (con : FuncId → Option Con) (ann : FuncId → Nat → Option Ann) : Ctx := { P := Tryz.prog, con := con, ora := fun g => cond (Nat.beq g 10) (some (.bool true)) none, bits := 13803492693581127574869511724554050904902217944340773110325048447598591, ann := ann }
instance (con : FuncId → Option Con) (ann : FuncId → Nat → Option Ann) : Nonempty (NoF (ctx con ann)) := ⟨⟨fun _ _ h => noneF h⟩⟩
end Go.Ev

end

section
open Go.Proofs
namespace Go.Ev
structure GD where
 nm : List UInt8
 rk : List UInt8
 ct : List UInt8
 si : Int
 sd : Int
 di : List UInt8
 ho : Prop
 ac : Prop
 tg : D
def gV (g : GD) : V := .agg [.str g.nm, .str g.rk, .str g.ct, .int .i64 g.si, .int .i64 g.sd, .str g.di, .prop g.ho, .prop g.ac, .dat 23 g.tg]
def pV (g : GD) (p : Int) : V := .agg [.str g.nm, .str g.rk, .str g.ct, .int .i64 g.si, .int .i64 g.sd, .str g.di, .prop g.ho, .prop g.ac, .dat 23 g.tg, .int .i64 p]
def gOf : V → Option GD
 | .agg [.str nm, .str rk, .str ct, .int .i64 si, .int .i64 sd, .str di, .prop ho, .prop ac, .dat 23 tg] => some ⟨nm, rk, ct, si, sd, di, ho, ac, tg⟩
 | _ => none
def pOf : V → Option (GD × Int)
 | .agg [.str nm, .str rk, .str ct, .int .i64 si, .int .i64 sd, .str di, .prop ho, .prop ac, .dat 23 tg, .int .i64 p] => some (⟨nm, rk, ct, si, sd, di, ho, ac, tg⟩, p)
 | _ => none
def cmpI (x y : Int) : Int := if x < y then -1 else if y < x then 1 else 0
open Classical in
noncomputable def cmpS (x y : List UInt8) : Int := if sLt x y then -1 else if sLt y x then 1 else 0
open Classical in
noncomputable def scanI (l : D) (s : List UInt8) : Nat → Nat → Nat
 | 0, i => i
 | f + 1, i => if sAt l i = s then i else scanI l s f (i + 1)
noncomputable def idx (l : D) (s : List UInt8) : Nat := scanI l s l.len 0
noncomputable def idxZ (l : D) (s : List UInt8) : Int := if idx l s < l.len then idx l s else -1
structure anyP (tg nm : D) : Prop where
 out : ∃ i, i < tg.len ∧ hasP nm (sAt tg i)
open Classical in
noncomputable def namZ (p q la : Prop) : Int := if (p ↔ q) then 0 else if ¬ (p ↔ la) then -1 else 1
def orZ (x y : Int) : Int := if x ≠ 0 then x else y
structure inB (p : Int) : Prop where
 out : 0 ≤ p ∧ p < 64
def idD : D → Nat | .fn g _ _ => g | _ => 0
def capD (d : D) (i : Nat) : D := match d with | .fn _ _ ds => nthD ds i | _ => .nil
structure okR (d : D) : Prop where
 out : ∃ nm : D, d = .fn 131 [23] [nm] ∧ nm.len ≤ 100
structure okN (d : D) : Prop where
 out : (∃ x : D, d = .fn 103 [57] [x]) ∨ d = .fn 104 [] [] ∨ (∃ x : D, d = .fn 105 [57] [x] ∧ (cNm x).len ≤ 100) ∨ (∃ x : D, d = .fn 108 [57] [x] ∧ (cNm x).len ≤ 100) ∨ d = .fn 134 [] []
structure okC (d : D) : Prop where
 out : d = .fn 100 [] [] ∨ d = .fn 101 [] []
structure okK (d : D) : Prop where
 out : d = .fn 112 [] [] ∨ ∃ x : D, d = .fn 113 [57] [x] ∧ 0 ≤ cN x ∧ cN x ≤ 63
structure okT1 (d : D) : Prop where
 out : (∃ r : D, d = .fn 133 [165] [r] ∧ okR r) ∨ (∃ (n : D) (la : Prop), d = .fn 138 [149, 4] [n, .bool la] ∧ okN n) ∨ d = .fn 109 [] [] ∨ (∃ k : D, d = .fn 141 [167, 153] [.fn 140 [] [], k] ∧ okK k)
structure okT2 (d : D) : Prop where
 out : okT1 d ∨ ∃ (u c : D), d = .fn 135 [121, 127] [u, c] ∧ okT1 u ∧ okC c
structure okA (d : D) : Prop where
 out : ∃ (s : List UInt8) (t : D), d = .fn 97 [9, 121] [.str s, t] ∧ okT2 t
noncomputable def runR (d : D) (g : GD) : Int := idx (capD d 0) g.rk
structure runN (d : D) (g : GD) : Prop where
 out : (idD d = 103 ∧ g.sd = cN (capD d 0)) ∨ (idD d = 104 ∧ g.ho) ∨ (idD d = 105 ∧ anyP g.tg (cNm (capD d 0))) ∨ (idD d = 108 ∧ hasP (cNm (capD d 0)) g.ct) ∨ (idD d = 134 ∧ g.si = 0)
def runC (d : D) (x y : Int) : Int := if idD d = 100 then cmpI x y else cmpI y x
def keyZ (p n : Int) : Int := (p * (2 * n + 1) + n).tmod 64
def runK (d : D) (p : Int) : Int := if idD d = 112 then p else keyZ p (cN (capD d 0))
open Classical in
noncomputable def runT1 (d : D) (a b : GD) (i j : Int) : Int :=
 if idD d = 133 then cmpI (runR (capD d 0) a) (runR (capD d 0) b)
 else if idD d = 138 then namZ (runN (capD d 0) a) (runN (capD d 0) b) (capD d 1).asProp
 else if idD d = 109 then cmpS a.nm b.nm
 else if inB i ∧ inB j then cmpI (runK (capD d 1) i) (runK (capD d 1) j) else 0
noncomputable def runT2 (d : D) (a b : GD) (i j : Int) : Int :=
 if idD d = 135 then orZ (runT1 (capD d 0) a b i j) (runC (capD d 1) a.si b.si) else runT1 d a b i j
open Classical in
noncomputable def ambZ (s : List UInt8) (t : D) (a b : GD) (i j : Int) : Int := if s ≠ [] ∧ (a.rk ≠ s ∨ b.rk ≠ s) then 0 else runT2 t a b i j
noncomputable def runA (d : D) (a b : GD) (i j : Int) : Int := ambZ (capD d 0).asStr (capD d 1) a b i j
def nameT (la : Prop) (n : D) : D := .fn 138 [149, 4] [n, .bool la]
def yearT (c : D) : D := .fn 135 [121, 127] [nameT (true = true) (.fn 134 [] []), c]
def placeT (k : D) : D := .fn 141 [167, 153] [.fn 140 [] [], k]
def xD (k : Int) (a : List UInt8) (la : Prop) (nm : D) (n : Int) : D := .sct [.int k, .str a, .bool la, nm, .int n]
def testD (k : Int) (a : List UInt8) (la : Prop) (nm : D) (n : Int) : D :=
 if k = 1 then .fn 133 [165] [.fn 131 [23] [nm]] else if k = 2 then yearT (.fn 100 [] []) else if k = 3 then yearT (.fn 101 [] []) else if k = 4 then nameT la (.fn 103 [57] [xD k a la nm n])
 else if k = 5 then nameT la (.fn 104 [] []) else if k = 6 then nameT la (.fn 105 [57] [xD k a la nm n]) else if k = 7 then nameT la (.fn 108 [57] [xD k a la nm n]) else if k = 8 then .fn 109 [] []
 else if k = 9 then placeT (.fn 112 [] []) else placeT (.fn 113 [57] [xD k a la nm n])
def amongT (s : List UInt8) (t : D) : D := .fn 97 [9, 121] [.str s, t]
def testE (c : D) (i : Nat) : D := amongT (cA (el c i)) (testD (cK (el c i)) (cA (el c i)) (cL (el c i)) (cNm (el c i)) (cN (el c i)))
def testsL (c : D) (n : Nat) : List D := (List.range n).map fun i => testE c i
open Classical in
noncomputable def sepF (f : Nat → Int) : Nat → Nat → Int × Int
 | 0, _ => (-1, 0)
 | m + 1, i => if f i ≠ 0 then ((i : Nat), f i) else sepF f m (i + 1)
noncomputable def con100 : Con := fun | [.int .i64 x, .int .i64 y] => some (True, .int .i64 (cmpI x y)) | _ => none
noncomputable def con101 : Con := fun | [.int .i64 x, .int .i64 y] => some (True, .int .i64 (cmpI y x)) | _ => none
noncomputable def con110 : Con := fun | [.str x, .str y] => some (True, .int .i64 (cmpS x y)) | _ => none
noncomputable def con132 : Con := fun | [.dat 23 l, .str s] => some (l.len ≤ 100, .int .i64 (idxZ l s)) | _ => none
noncomputable def con73 : Con := fun | [.dat 23 l, .str s] => some (l.len ≤ 100, .int .i64 (idx l s)) | _ => none
noncomputable def con131 : Con := fun | [p, .dpt 23 nm] => (match pOf p with | some (g, _) => some (nm.len ≤ 100, .int .i64 (idx nm g.rk)) | none => none) | _ => none
noncomputable def con103 : Con := fun | [p, .dpt 57 x] => (match pOf p with | some (g, _) => some (True, .prop (g.sd = cN x)) | none => none) | _ => none
noncomputable def con104 : Con := fun | [p] => (match pOf p with | some (g, _) => some (True, .prop g.ho) | none => none) | _ => none
noncomputable def con134 : Con := fun | [p] => (match pOf p with | some (g, _) => some (True, .prop (g.si = 0)) | none => none) | _ => none
noncomputable def con105 : Con := fun | [p, .dpt 57 x] => (match pOf p with | some (g, _) => some (g.tg.len ≤ 100 ∧ (cNm x).len ≤ 100, .prop (anyP g.tg (cNm x))) | none => none) | _ => none
noncomputable def con108 : Con := fun | [p, .dpt 57 x] => (match pOf p with | some (g, _) => some ((cNm x).len ≤ 100, .prop (hasP (cNm x) g.ct)) | none => none) | _ => none
noncomputable def con112 : Con := fun | [.int .i64 p] => some (True, .int .i64 p) | _ => none
noncomputable def con113 : Con := fun | [.int .i64 p, .dpt 57 x] => some (inB p ∧ 0 ≤ cN x ∧ cN x ≤ 63, .int .i64 (keyZ p (cN x))) | _ => none
noncomputable def con140 : Con := fun | [.int .i64 p] => some (True, .prop (inB p)) | _ => none
noncomputable def conR : D → Con := fun d => fun | [p] => (match pOf p with | some (g, _) => some (okR d, .int .i64 (runR d g)) | none => none) | _ => none
noncomputable def conNm : D → Con := fun d => fun | [p] => (match pOf p with | some (g, _) => some (okN d ∧ g.tg.len ≤ 100, .prop (runN d g)) | none => none) | _ => none
noncomputable def conC : D → Con := fun d => fun | [.int .i64 x, .int .i64 y] => some (okC d, .int .i64 (runC d x y)) | _ => none
noncomputable def conK : D → Con := fun d => fun | [.int .i64 p] => some (okK d ∧ inB p, .int .i64 (runK d p)) | _ => none
noncomputable def conB : D → Con := fun d => fun | [.int .i64 p] => some (d = .fn 140 [] [], .prop (inB p)) | _ => none
noncomputable def con133 : Con := fun | [p, q, .dpt 165 r] => (match pOf p, pOf q with | some (a, _), some (b, _) => some (okR r, .int .i64 (cmpI (runR r a) (runR r b))) | _, _ => none) | _ => none
noncomputable def con138 : Con := fun | [p, q, .dpt 149 n, .dpt 4 la] => (match pOf p, pOf q with | some (a, _), some (b, _) => some (okN n ∧ a.tg.len ≤ 100 ∧ b.tg.len ≤ 100, .int .i64 (namZ (runN n a) (runN n b) la.asProp)) | _, _ => none) | _ => none
noncomputable def con109 : Con := fun | [p, q] => (match pOf p, pOf q with | some (a, _), some (b, _) => some (True, .int .i64 (cmpS a.nm b.nm)) | _, _ => none) | _ => none
open Classical in
noncomputable def con141 : Con := fun | [p, q, .dpt 167 e, .dpt 153 k] => (match pOf p, pOf q with | some (_, i), some (_, j) => some (e = .fn 140 [] [] ∧ okK k, .int .i64 (if inB i ∧ inB j then cmpI (runK k i) (runK k j) else 0)) | _, _ => none) | _ => none
noncomputable def conT1 : D → Con := fun d => fun | [p, q] => (match pOf p, pOf q with | some (a, i), some (b, j) => some (okT1 d ∧ a.tg.len ≤ 100 ∧ b.tg.len ≤ 100, .int .i64 (runT1 d a b i j)) | _, _ => none) | _ => none
noncomputable def con135 : Con := fun | [p, q, .dpt 121 u, .dpt 127 c] => (match pOf p, pOf q with | some (a, i), some (b, j) => some (okT1 u ∧ okC c ∧ a.tg.len ≤ 100 ∧ b.tg.len ≤ 100, .int .i64 (orZ (runT1 u a b i j) (runC c a.si b.si))) | _, _ => none) | _ => none
noncomputable def conT2 : D → Con := fun d => fun | [p, q] => (match pOf p, pOf q with | some (a, i), some (b, j) => some (okT2 d ∧ a.tg.len ≤ 100 ∧ b.tg.len ≤ 100, .int .i64 (runT2 d a b i j)) | _, _ => none) | _ => none
noncomputable def con97 : Con := fun | [p, q, .dpt 9 s, .dpt 121 t] => (match pOf p, pOf q with | some (a, i), some (b, j) => some (okT2 t ∧ a.tg.len ≤ 100 ∧ b.tg.len ≤ 100, .int .i64 (ambZ s.asStr t a b i j)) | _, _ => none) | _ => none
noncomputable def conA : D → Con := fun d => fun | [p, q] => (match pOf p, pOf q with | some (a, i), some (b, j) => some (okA d ∧ a.tg.len ≤ 100 ∧ b.tg.len ≤ 100, .int .i64 (runA d a b i j)) | _, _ => none) | _ => none
noncomputable def con71 : Con := fun | [.agg [.int .u8 k, .str a, .prop la, .dat 23 nm, .int .i64 n]] => some (True, .fnd 121 (testD k a la nm n)) | _ => none
noncomputable def con70 : Con := fun | [.str s, .fnd 121 t] => some (True, .fnd 121 (amongT s t)) | _ => none
noncomputable def con43 : Con := fun | [.dat 22 c] => some (c.len ≤ 100, .dat 82 (.list (testsL c c.len))) | _ => none
noncomputable def con42 : Con := fun
 | [.dat 82 ts, p, q] => (match pOf p, pOf q with
  | some (a, i), some (b, j) => some ((ts.len ≤ 100 ∧ ∀ k, k < ts.len → okA (el ts k)) ∧ a.tg.len ≤ 100 ∧ b.tg.len ≤ 100, .tup [.int .i64 (sepF (fun k => runA (el ts k) a b i j) ts.len 0).1, .int .i64 (sepF (fun k => runA (el ts k) a b i j) ts.len 0).2])
  | _, _ => none)
 | _ => none
noncomputable def cm0 : FuncId → Option Con
 | 107 => some con107
 | 100 => some con100
 | 110 => some con110
 | 132 => some con132
 | _ => none
noncomputable def cF1 : TypeId → Option (D → Con)
 | 165 => some conR
 | 149 => some conNm
 | 127 => some conC
 | 153 => some conK
 | 167 => some conB
 | _ => none
noncomputable def cF2 : TypeId → Option (D → Con)
 | 121 => some conT1
 | t => cF1 t
noncomputable def cF3 : TypeId → Option (D → Con)
 | 121 => some conT2
 | _ => none
noncomputable def cF4 : TypeId → Option (D → Con)
 | 121 => some conA
 | _ => none
noncomputable def tgAnn (nm : D) : FuncId → Nat → Option Ann
 | 48, 2 => some { τ := Nat, slots := fun _ _ x => [(8, .int .i64 x)], blks := fun _ _ _ => [], inv := fun S _ x => x ≤ (slD S 0).len ∧ ∀ i, i < x → ¬ hasP nm (sAt (slD S 0) i), meas := fun S _ x => (slD S 0).len - x }
 | _, _ => none
noncomputable def cmAnn : FuncId → Nat → Option Ann
 | 132, 2 => some { τ := Nat, slots := fun _ _ x => [(8, .int .i64 x)], blks := fun _ _ _ => [], inv := fun S _ x => x ≤ (slD S 0).len ∧ scanI (slD S 0) (slS S 1) ((slD S 0).len - x) x = idx (slD S 0) (slS S 1), meas := fun S _ x => (slD S 0).len - x }
 | 73, 2 => some { τ := Nat, slots := fun _ _ x => [(5, .int .i64 x)], blks := fun _ _ _ => [], inv := fun S _ x => x ≤ (slD S 0).len ∧ scanI (slD S 0) (slS S 1) ((slD S 0).len - x) x = idx (slD S 0) (slS S 1), meas := fun S _ x => (slD S 0).len - x }
 | _, _ => none
noncomputable def ctxm (con : FuncId → Option Con) (cf : TypeId → Option (D → Con)) (ann : FuncId → Nat → Option Ann) : Ctx := { ctx con ann with conF := cf }
end Go.Ev

end

section
open Go.Proofs
namespace Go.Ev
set_option maxRecDepth 100000
set_option maxHeartbeats 4000000
theorem vc100 : ∀ (x y : Int), symFun (ctxm (fun _ => none) (fun _ => none) cmAnn) (4 : Nat) (100 : FuncId) [V.int IntKind.i64 x, V.int IntKind.i64 y] (V.int IntKind.i64 (cmpI x y)) = (((x = x →
 False) → ((y = y → False) → (0 : Int) = cmpI x y) ∧ (((y = y → False) → False) → (-1 : Int) = cmpI x y)) ∧ (((x = x → False) → False) → ((y = y → False) → (1 : Int) = cmpI x y) ∧ (((y = y → False) →
 False) → (x < y → (-1 : Int) = cmpI x y) ∧ ((x < y → False) → (y < x → (1 : Int) = cmpI x y) ∧ ((y < x → False) → (0 : Int) = cmpI x y))))) := by intros; kernel_rfl
theorem vc101 : ∀ (x y : Int), symFun (ctxm cm0 (fun _ => none) cmAnn) (4 : Nat) (101 : FuncId) [V.int IntKind.i64 x, V.int IntKind.i64 y] (V.int IntKind.i64 (cmpI y x)) = (True ∧ cmpI y x = cmpI y x) := by intros; kernel_rfl
theorem vc110 : ∀ (x y : List UInt8), symFun (ctxm (fun _ => none) (fun _ => none) cmAnn) (4 : Nat) (110 : FuncId) [V.str x, V.str y] (V.int IntKind.i64 (cmpS x y)) = (((x = x → False) → ((y = y →
 False) → (0 : Int) = cmpS x y) ∧ (((y = y → False) → False) → (-1 : Int) = cmpS x y)) ∧ (((x = x → False) → False) → ((y = y → False) → (1 : Int) = cmpS x y) ∧ (((y = y → False) → False) → (sLt x y →
 (-1 : Int) = cmpS x y) ∧ ((sLt x y → False) → ((sLt x y ∨ x = y → False) → (1 : Int) = cmpS x y) ∧ (((sLt x y ∨ x = y → False) → False) → (0 : Int) = cmpS x y))))) := by intros; kernel_rfl
theorem vc132 : ∀ (l : D) (s : List UInt8), symFun (ctxm (fun _ => none) (fun _ => none) cmAnn) (3 : Nat) (132 : FuncId) [V.dat (23 : TypeId) l, V.str s] (V.int IntKind.i64 (idxZ l s)) = ((∃ (x :
 Nat), (x ≤ l.len ∧ scanI l s (l.len - x) x = idx l s) ∧ ((0 : Int) = (↑x : Int) ∧ True) ∧ True) ∧ ∀ (x : Nat), x ≤ l.len ∧ scanI l s (l.len - x) x = idx l s → l.len - x < LIM ∧ ((↑x : Int) < (↑l.len :
 Int) → (0 : Int) ≤ (↑x : Int) ∧ (↑x : Int) < (↑l.len : Int) ∧ (s = sAt l x → (↑x : Int) = idxZ l s) ∧ ((s = sAt l x → False) → ((-9223372036854775808 : Int) ≤ (↑x : Int) + (1 : Int) ∧ (↑x : Int) + (1
 : Int) < (9223372036854775808 : Int)) ∧ ∃ (y : Nat), (y ≤ l.len ∧ scanI l s (l.len - y) y = idx l s) ∧ l.len - y < l.len - x ∧ ((↑x : Int) + (1 : Int) = (↑y : Int) ∧ True) ∧ True)) ∧ (((↑x : Int) <
 (↑l.len : Int) → False) → (-1 : Int) = idxZ l s)) := by intros; kernel_rfl
theorem vc73 : ∀ (l : D) (s : List UInt8), symFun (ctxm (fun _ => none) (fun _ => none) cmAnn) (3 : Nat) (73 : FuncId) [V.dat (23 : TypeId) l, V.str s] (V.int IntKind.i64 (↑(idx l s) : Int)) = ((∃ (x
 : Nat), (x ≤ l.len ∧ scanI l s (l.len - x) x = idx l s) ∧ ((0 : Int) = (↑x : Int) ∧ True) ∧ True) ∧ ∀ (x : Nat), x ≤ l.len ∧ scanI l s (l.len - x) x = idx l s → l.len - x < LIM ∧ ((↑x : Int) < (↑l.len
 : Int) → (0 : Int) ≤ (↑x : Int) ∧ (↑x : Int) < (↑l.len : Int) ∧ (sAt l x = s → (↑x : Int) = (↑(idx l s) : Int)) ∧ ((sAt l x = s → False) → ((-9223372036854775808 : Int) ≤ (↑x : Int) + (1 : Int) ∧ (↑x
 : Int) + (1 : Int) < (9223372036854775808 : Int)) ∧ ∃ (y : Nat), (y ≤ l.len ∧ scanI l s (l.len - y) y = idx l s) ∧ l.len - y < l.len - x ∧ ((↑x : Int) + (1 : Int) = (↑y : Int) ∧ True) ∧ True)) ∧ (((↑x
 : Int) < (↑l.len : Int) → False) → (↑l.len : Int) = (↑(idx l s) : Int))) := by intros; kernel_rfl
theorem vc131 : ∀ (g : GD) (p : Int) (nm : D), symFun (ctxm cm0 (fun _ => none) cmAnn) (3 : Nat) (131 : FuncId) [pV g p, V.dpt (23 : TypeId) nm] (V.int IntKind.i64 (↑(idx nm g.rk) : Int)) = (nm.len ≤
 (100 : Nat) ∧ ((0 : Int) ≤ idxZ nm g.rk → idxZ nm g.rk = (↑(idx nm g.rk) : Int)) ∧ (((0 : Int) ≤ idxZ nm g.rk → False) → (↑nm.len : Int) = (↑(idx nm g.rk) : Int))) := by intros; kernel_rfl
theorem vc103 : ∀ (g : GD) (p : Int) (x : D), symFun (ctxm cm0 (fun _ => none) cmAnn) (3 : Nat) (103 : FuncId) [pV g p, V.dpt (57 : TypeId) x] (V.prop (g.sd = cN x)) = (g.sd = cN x ↔ g.sd = cN x) := by intros; kernel_rfl
theorem vc104 : ∀ (g : GD) (p : Int), symFun (ctxm cm0 (fun _ => none) cmAnn) (3 : Nat) (104 : FuncId) [pV g p] (V.prop g.ho) = (g.ho ↔ g.ho) := by intros; kernel_rfl
theorem vc134 : ∀ (g : GD) (p : Int), symFun (ctxm cm0 (fun _ => none) cmAnn) (3 : Nat) (134 : FuncId) [pV g p] (V.prop (g.si = (0 : Int))) = (g.si = (0 : Int) ↔ g.si = (0 : Int)) := by intros; kernel_rfl
theorem vc105 : ∀ (g : GD) (p : Int) (x : D), symFun (ctxm cm0 (fun _ => none) (tgAnn (cNm x))) (6 : Nat) (105 : FuncId) [pV g p, V.dpt (57 : TypeId) x] (V.prop (anyP g.tg (cNm x))) = ((∃ (x_1 : Nat),
 (x_1 ≤ g.tg.len ∧ ∀ (i : Nat), i < x_1 → hasP (cNm x) (sAt g.tg i) → False) ∧ ((0 : Int) = (↑x_1 : Int) ∧ True) ∧ True) ∧ ∀ (x_1 : Nat), (x_1 ≤ g.tg.len ∧ ∀ (i : Nat), i < x_1 → hasP (cNm x) (sAt g.tg
 i) → False) → g.tg.len - x_1 < LIM ∧ ((↑x_1 : Int) < (↑g.tg.len : Int) → (0 : Int) ≤ (↑x_1 : Int) ∧ (↑x_1 : Int) < (↑g.tg.len : Int) ∧ (cNm x).len ≤ (100 : Nat) ∧ (hasP (cNm x) (sAt g.tg x_1) → ((0 :
 Int) ≤ (↑x_1 : Int) ↔ anyP g.tg (cNm x))) ∧ ((hasP (cNm x) (sAt g.tg x_1) → False) → ((-9223372036854775808 : Int) ≤ (↑x_1 : Int) + (1 : Int) ∧ (↑x_1 : Int) + (1 : Int) < (9223372036854775808 : Int))
 ∧ ∃ (y : Nat), (y ≤ g.tg.len ∧ ∀ (i : Nat), i < y → hasP (cNm x) (sAt g.tg i) → False) ∧ g.tg.len - y < g.tg.len - x_1 ∧ ((↑x_1 : Int) + (1 : Int) = (↑y : Int) ∧ True) ∧ True)) ∧ (((↑x_1 : Int) <
 (↑g.tg.len : Int) → False) → (false = true ↔ anyP g.tg (cNm x)))) := by intros; kernel_rfl
theorem vc108 : ∀ (g : GD) (p : Int) (x : D), symFun (ctxm cm0 (fun _ => none) cmAnn) (3 : Nat) (108 : FuncId) [pV g p, V.dpt (57 : TypeId) x] (V.prop (hasP (cNm x) g.ct)) = ((cNm x).len ≤ (100 : Nat)
 ∧ (hasP (cNm x) g.ct ↔ hasP (cNm x) g.ct)) := by intros; kernel_rfl
theorem vc112 : ∀ (p : Int), symFun (ctxm cm0 (fun _ => none) cmAnn) (3 : Nat) (112 : FuncId) [V.int IntKind.i64 p] (V.int IntKind.i64 p) = (p = p) := by intros; kernel_rfl
theorem vc113 : ∀ (p : Int) (x : D), symFun (ctxm cm0 (fun _ => none) cmAnn) (3 : Nat) (113 : FuncId) [V.int IntKind.i64 p, V.dpt (57 : TypeId) x] (V.int IntKind.i64 (keyZ p (cN x))) =
 (((-9223372036854775808 : Int) ≤ (2 : Int) * cN x ∧ (2 : Int) * cN x < (9223372036854775808 : Int)) ∧ ((-9223372036854775808 : Int) ≤ (2 : Int) * cN x + (1 : Int) ∧ (2 : Int) * cN x + (1 : Int) <
 (9223372036854775808 : Int)) ∧ ((-9223372036854775808 : Int) ≤ p * ((2 : Int) * cN x + (1 : Int)) ∧ p * ((2 : Int) * cN x + (1 : Int)) < (9223372036854775808 : Int)) ∧ ((-9223372036854775808 : Int) ≤
 p * ((2 : Int) * cN x + (1 : Int)) + cN x ∧ p * ((2 : Int) * cN x + (1 : Int)) + cN x < (9223372036854775808 : Int)) ∧ ((64 : Int) = (0 : Int) → False) ∧ (p * ((2 : Int) * cN x + (1 : Int)) + cN
 x).tmod (64 : Int) = keyZ p (cN x)) := by intros; kernel_rfl
theorem vc140 : ∀ (p : Int), symFun (ctxm cm0 (fun _ => none) cmAnn) (3 : Nat) (140 : FuncId) [V.int IntKind.i64 p] (V.prop (inB p)) = (((0 : Int) ≤ p → (p < (64 : Int) ↔ inB p)) ∧ (((0 : Int) ≤ p →
 False) → (false = true ↔ inB p))) := by intros; kernel_rfl
theorem vc133 : ∀ (a b : GD) (i j : Int) (r : D), symFun (ctxm cm0 cF1 cmAnn) (3 : Nat) (133 : FuncId) [pV a i, pV b j, V.dpt (165 : TypeId) r] (V.int IntKind.i64 (cmpI (runR r a) (runR r b))) = (okR
 r ∧ okR r ∧ True ∧ cmpI (runR r a) (runR r b) = cmpI (runR r a) (runR r b)) := by intros; kernel_rfl
theorem vc138 : ∀ (a b : GD) (i j : Int) (n la : D), symFun (ctxm cm0 cF1 cmAnn) (3 : Nat) (138 : FuncId) [pV a i, pV b j, V.dpt (149 : TypeId) n, V.dpt (4 : TypeId) la] (V.int IntKind.i64 (namZ (runN
 n a) (runN n b) la.asProp)) = ((okN n ∧ a.tg.len ≤ (100 : Nat)) ∧ (okN n ∧ b.tg.len ≤ (100 : Nat)) ∧ ((runN n a ↔ runN n b) → (0 : Int) = namZ (runN n a) (runN n b) la.asProp) ∧ (((runN n a ↔ runN n
 b) → False) → (((runN n a ↔ la.asProp) → False) → (-1 : Int) = namZ (runN n a) (runN n b) la.asProp) ∧ ((((runN n a ↔ la.asProp) → False) → False) → (1 : Int) = namZ (runN n a) (runN n b) la.asProp))) := by intros; kernel_rfl
theorem vc109 : ∀ (a b : GD) (i j : Int), symFun (ctxm cm0 cF1 cmAnn) (3 : Nat) (109 : FuncId) [pV a i, pV b j] (V.int IntKind.i64 (cmpS a.nm b.nm)) = (True ∧ cmpS a.nm b.nm = cmpS a.nm b.nm) := by intros; kernel_rfl
theorem vc141 : ∀ (a b : GD) (i j r : Int) (e k : D), symFun (ctxm cm0 cF1 cmAnn) (3 : Nat) (141 : FuncId) [pV a i, pV b j, V.dpt (167 : TypeId) e, V.dpt (153 : TypeId) k] (V.int IntKind.i64 r) = (e =
 D.fn (140 : FuncId) [] [] ∧ (((inB i → False) → False) → e = D.fn (140 : FuncId) [] [] ∧ ((inB j → False) → (0 : Int) = r) ∧ (((inB j → False) → False) → (okK k ∧ inB i) ∧ (okK k ∧ inB j) ∧ True ∧
 cmpI (runK k i) (runK k j) = r)) ∧ ((inB i → False) → (0 : Int) = r)) := by intros; kernel_rfl
theorem vc135 : ∀ (a b : GD) (i j : Int) (u c : D), symFun (ctxm cm0 cF2 cmAnn) (4 : Nat) (135 : FuncId) [pV a i, pV b j, V.dpt (121 : TypeId) u, V.dpt (127 : TypeId) c] (V.int IntKind.i64 (orZ (runT1
 u a b i j) (runC c a.si b.si))) = ((okT1 u ∧ a.tg.len ≤ (100 : Nat) ∧ b.tg.len ≤ (100 : Nat)) ∧ okC c ∧ (0 : Int) ≤ (0 : Int) ∧ (0 : Int) < (↑(2 : Nat) : Int) ∧ (0 : Nat) + (0 : Nat) < [D.int (runT1 u
 a b i j), D.int (runC c a.si b.si)].length ∧ (((nthD [D.int (runT1 u a b i j), D.int (runC c a.si b.si)] ((0 : Nat) + (0 : Nat))).asInt = (0 : Int) → False) → (nthD [D.int (runT1 u a b i j), D.int
 (runC c a.si b.si)] ((0 : Nat) + (0 : Nat))).asInt = orZ (runT1 u a b i j) (runC c a.si b.si)) ∧ ((((nthD [D.int (runT1 u a b i j), D.int (runC c a.si b.si)] ((0 : Nat) + (0 : Nat))).asInt = (0 : Int)
 → False) → False) → (0 : Int) ≤ Int.ofNat (1 : Nat) ∧ Int.ofNat (1 : Nat) < (↑(2 : Nat) : Int) ∧ (0 : Nat) + (Int.ofNat (1 : Nat)).toNat < [D.int (runT1 u a b i j), D.int (runC c a.si b.si)].length ∧
 (((nthD [D.int (runT1 u a b i j), D.int (runC c a.si b.si)] ((0 : Nat) + (Int.ofNat (1 : Nat)).toNat)).asInt = (0 : Int) → False) → (nthD [D.int (runT1 u a b i j), D.int (runC c a.si b.si)] ((0 : Nat)
 + (Int.ofNat (1 : Nat)).toNat)).asInt = orZ (runT1 u a b i j) (runC c a.si b.si)) ∧ ((((nthD [D.int (runT1 u a b i j), D.int (runC c a.si b.si)] ((0 : Nat) + (Int.ofNat (1 : Nat)).toNat)).asInt = (0 :
 Int) → False) → False) → (0 : Int) = orZ (runT1 u a b i j) (runC c a.si b.si)))) := by intros; kernel_rfl
theorem vc97 : ∀ (a b : GD) (i j : Int) (s t : D), symFun (ctxm cm0 cF3 cmAnn) (3 : Nat) (97 : FuncId) [pV a i, pV b j, V.dpt (9 : TypeId) s, V.dpt (121 : TypeId) t] (V.int IntKind.i64 (ambZ s.asStr t
 a b i j)) = (((s.asStr = [] → False) → (((a.rk = s.asStr → False) → False) → ((b.rk = s.asStr → False) → (0 : Int) = ambZ s.asStr t a b i j) ∧ (((b.rk = s.asStr → False) → False) → (okT2 t ∧ a.tg.len
 ≤ (100 : Nat) ∧ b.tg.len ≤ (100 : Nat)) ∧ runT2 t a b i j = ambZ s.asStr t a b i j)) ∧ ((a.rk = s.asStr → False) → (0 : Int) = ambZ s.asStr t a b i j)) ∧ (((s.asStr = [] → False) → False) → (okT2 t ∧
 a.tg.len ≤ (100 : Nat) ∧ b.tg.len ≤ (100 : Nat)) ∧ runT2 t a b i j = ambZ s.asStr t a b i j)) := by intros; kernel_rfl
theorem vc71 : ∀ (k : Int) (a : List UInt8) (la : Prop) (nm : D) (n : Int), symFun (ctxm cm0 (fun _ => none) cmAnn) (5 : Nat) (71 : FuncId) [V.agg [V.int IntKind.u8 k, V.str a, V.prop la, V.dat (23 :
 TypeId) nm, V.int IntKind.i64 n]] (V.fnd (121 : TypeId) (testD k a la nm n)) = ((k = (1 : Int) → D.fn (133 : Nat) [(165 : Nat)] [D.fn (131 : Nat) [(23 : Nat)] [nm]] = testD k a la nm n) ∧ ((k = (1 :
 Int) → False) → (k = (2 : Int) → D.fn (135 : Nat) [(121 : Nat), (127 : Nat)] [D.fn (138 : Nat) [(149 : Nat), (4 : Nat)] [D.fn (134 : Nat) [] [], D.bool (true = true)], D.fn (100 : Nat) [] []] = testD
 k a la nm n) ∧ ((k = (2 : Int) → False) → (k = (3 : Int) → D.fn (135 : Nat) [(121 : Nat), (127 : Nat)] [D.fn (138 : Nat) [(149 : Nat), (4 : Nat)] [D.fn (134 : Nat) [] [], D.bool (true = true)], D.fn
 (101 : Nat) [] []] = testD k a la nm n) ∧ ((k = (3 : Int) → False) → (k = (4 : Int) → D.fn (138 : Nat) [(149 : Nat), (4 : Nat)] [D.fn (103 : Nat) [(57 : Nat)] [D.sct [D.int k, D.str a, D.bool la, nm,
 D.int n]], D.bool la] = testD k a la nm n) ∧ ((k = (4 : Int) → False) → (k = (5 : Int) → D.fn (138 : Nat) [(149 : Nat), (4 : Nat)] [D.fn (104 : Nat) [] [], D.bool la] = testD k a la nm n) ∧ ((k = (5 :
 Int) → False) → (k = (6 : Int) → D.fn (138 : Nat) [(149 : Nat), (4 : Nat)] [D.fn (105 : Nat) [(57 : Nat)] [D.sct [D.int k, D.str a, D.bool la, nm, D.int n]], D.bool la] = testD k a la nm n) ∧ ((k = (6
 : Int) → False) → (k = (7 : Int) → D.fn (138 : Nat) [(149 : Nat), (4 : Nat)] [D.fn (108 : Nat) [(57 : Nat)] [D.sct [D.int k, D.str a, D.bool la, nm, D.int n]], D.bool la] = testD k a la nm n) ∧ ((k =
 (7 : Int) → False) → (k = (8 : Int) → D.fn (109 : Nat) [] [] = testD k a la nm n) ∧ ((k = (8 : Int) → False) → (k = (9 : Int) → D.fn (141 : Nat) [(167 : Nat), (153 : Nat)] [D.fn (140 : Nat) [] [],
 D.fn (112 : Nat) [] []] = testD k a la nm n) ∧ ((k = (9 : Int) → False) → D.fn (141 : Nat) [(167 : Nat), (153 : Nat)] [D.fn (140 : Nat) [] [], D.fn (113 : Nat) [(57 : Nat)] [D.sct [D.int k, D.str a,
 D.bool la, nm, D.int n]]] = testD k a la nm n)))))))))) := by intros; kernel_rfl
theorem vc70 : ∀ (s : List UInt8) (t : D), symFun (ctxm cm0 (fun _ => none) cmAnn) (3 : Nat) (70 : FuncId) [V.str s, V.fnd (121 : TypeId) t] (V.fnd (121 : TypeId) (amongT s t)) = (D.fn (97 : Nat) [(9
 : Nat), (121 : Nat)] [D.str s, t] = amongT s t) := by intros; kernel_rfl
theorem sLt_total : ∀ (x y : List UInt8), Op.bytesLess x y = false → x ≠ y → Op.bytesLess y x = true
 | [], [], _, h => absurd rfl h
 | [], b :: y, h, _ => by simp [Op.bytesLess] at h
 | a :: x, [], _, _ => rfl
 | a :: x, b :: y, h, hn => by
  unfold Op.bytesLess at h ⊢
  by_cases e : a = b
  ·subst e
   have hn' : x ≠ y := fun e => hn (by rw [e])
   simp only [Bool.or_eq_false_iff, Bool.and_eq_false_iff, beq_self_eq_true, Bool.true_eq_false, false_or] at h
   simp [sLt_total x y h.2 hn']
  ·simp only [Bool.or_eq_false_iff, decide_eq_false_iff_not] at h
   have h1 : ¬ a.toNat < b.toNat := fun k => h.1 (UInt8.lt_iff_toNat_lt.2 k)
   have h2 : a.toNat ≠ b.toNat := fun k => e (UInt8.toNat_inj.1 k)
   have h3 : b < a := UInt8.lt_iff_toNat_lt.2 (by omega)
   simp [h3]
theorem cmpI_if {x y : Int} {p q : Prop} [Decidable p] [Decidable q] (h1 : p ↔ x < y) (h2 : q ↔ y < x) : cmpI x y = if p then -1 else if q then 1 else 0 := by
 unfold cmpI
 by_cases a : x < y
 ·rw [if_pos a, if_pos (h1.2 a)]
 ·rw [if_neg a, if_neg (fun k => a (h1.1 k))]
  by_cases b : y < x
  ·rw [if_pos b, if_pos (h2.2 b)]
  ·rw [if_neg b, if_neg (fun k => b (h2.1 k))]
theorem cmpS_if {x y : List UInt8} {p q : Prop} [Decidable p] [Decidable q] (h1 : p ↔ sLt x y) (h2 : q ↔ sLt y x) : cmpS x y = if p then -1 else if q then 1 else 0 := by
 unfold cmpS
 by_cases a : sLt x y
 ·rw [if_pos a, if_pos (h1.2 a)]
 ·rw [if_neg a, if_neg (fun k => a (h1.1 k))]
  by_cases b : sLt y x
  ·rw [if_pos b, if_pos (h2.2 b)]
  ·rw [if_neg b, if_neg (fun k => b (h2.1 k))]
theorem scanI_step {l : D} {s : List UInt8} {x : Nat} (h : x < l.len) (hs : scanI l s (l.len - x) x = idx l s) : (sAt l x = s → idx l s = x) ∧ (sAt l x ≠ s → scanI l s (l.len - (x + 1)) (x + 1) = idx l s) := by
 have e : l.len - x = (l.len - (x + 1)) + 1 := by omega
 rw [e] at hs
 unfold scanI at hs
 constructor
 ·intro k; rw [if_pos k] at hs; exact hs.symm
 ·intro k; rw [if_neg k] at hs; exact hs
theorem scanI_end {l : D} {s : List UInt8} {x : Nat} (h : x = l.len) (hs : scanI l s (l.len - x) x = idx l s) : idx l s = l.len := by
 subst h
 rw [Nat.sub_self] at hs
 exact hs.symm
theorem scanI_le (l : D) (s : List UInt8) : ∀ (f i : Nat), scanI l s f i ≤ i + f
 | 0, i => Nat.le_refl _
 | f + 1, i => by
  unfold scanI
  split
  ·omega
  ·have := scanI_le l s f (i + 1); omega
theorem idx_le (l : D) (s : List UInt8) : idx l s ≤ l.len := by have := scanI_le l s l.len 0; unfold idx; omega
theorem x_end {x n : Nat} (hx : x ≤ n) (h : (x : Int) < n → False) : x = n := by have h : ¬ ((x : Int) < n) := h; omega
theorem n_lim {a b : Nat} (h : a ≤ 100) : a - b < LIM := by unfold LIM; omega
theorem s100 (x y : Int) : symFun (ctxm (fun _ => none) (fun _ => none) cmAnn) 4 100 [.int .i64 x, .int .i64 y] (.int .i64 (cmpI x y)) := by
 rw [vc100]
 exact ⟨fun h => absurd rfl h, fun _ => ⟨fun h => absurd rfl h, fun _ => ⟨fun h => by unfold cmpI; rw [if_pos h], fun h1 => ⟨fun h2 => by unfold cmpI; rw [if_neg h1, if_pos h2], fun h2 => by unfold cmpI; rw [if_neg h1, if_neg h2]⟩⟩⟩⟩
theorem s101 (x y : Int) : symFun (ctxm cm0 (fun _ => none) cmAnn) 4 101 [.int .i64 x, .int .i64 y] (.int .i64 (cmpI y x)) := by
 rw [vc101]; exact ⟨trivial, rfl⟩
theorem s110 (x y : List UInt8) : symFun (ctxm (fun _ => none) (fun _ => none) cmAnn) 4 110 [.str x, .str y] (.int .i64 (cmpS x y)) := by
 rw [vc110]
 refine ⟨fun h => absurd rfl h, fun _ => ⟨fun h => absurd rfl h, fun _ => ⟨fun h => by unfold cmpS; rw [if_pos h], fun h1 => ⟨fun h2 => ?_, fun h2 => ?_⟩⟩⟩⟩
 ·have h3 : sLt y x := ⟨sLt_total x y (by cases hb : Op.bytesLess x y with | false => rfl | true => exact (h1 ⟨hb⟩).elim) (fun e => h2 (.inr e))⟩
  unfold cmpS; rw [if_neg h1, if_pos h3]
 ·rcases Classical.byContradiction h2 with h | h
  ·exact (h1 h).elim
  ·subst h; unfold cmpS; rw [if_neg h1, if_neg h1]
theorem s132 (l : D) (s : List UInt8) (hl : l.len ≤ 100) : symFun (ctxm (fun _ => none) (fun _ => none) cmAnn) 3 132 [.dat 23 l, .str s] (.int .i64 (idxZ l s)) := by
 rw [vc132]
 refine ⟨⟨0, ⟨Nat.zero_le _, rfl⟩, ⟨rfl, trivial⟩, trivial⟩, fun x hx => ⟨n_lim hl, fun h => ⟨by omega, h, fun e => ?_, fun e => ⟨by omega, x + 1, ⟨by omega, (scanI_step (by omega) hx.2).2 fun k => e k.symm⟩, by omega, ⟨by omega, trivial⟩, trivial⟩⟩, fun h => ?_⟩⟩
 ·have := (scanI_step (by omega) hx.2).1 e.symm
  unfold idxZ; rw [this, if_pos (by omega)]
 ·have := scanI_end (x_end hx.1 h) hx.2
  unfold idxZ; rw [this, if_neg (by omega)]
theorem s73 (l : D) (s : List UInt8) (hl : l.len ≤ 100) : symFun (ctxm (fun _ => none) (fun _ => none) cmAnn) 3 73 [.dat 23 l, .str s] (.int .i64 (idx l s)) := by
 rw [vc73]
 refine ⟨⟨0, ⟨Nat.zero_le _, rfl⟩, ⟨rfl, trivial⟩, trivial⟩, fun x hx => ⟨n_lim hl, fun h => ⟨by omega, h, fun e => ?_, fun e => ⟨by omega, x + 1, ⟨by omega, (scanI_step (by omega) hx.2).2 e⟩, by omega, ⟨by omega, trivial⟩, trivial⟩⟩, fun h => ?_⟩⟩
 ·rw [(scanI_step (by omega) hx.2).1 e]
 ·rw [scanI_end (x_end hx.1 h) hx.2]
theorem s131 (g : GD) (p : Int) (nm : D) (hl : nm.len ≤ 100) : symFun (ctxm cm0 (fun _ => none) cmAnn) 3 131 [pV g p, .dpt 23 nm] (.int .i64 (idx nm g.rk)) := by
 rw [vc131]
 have := idx_le nm g.rk
 refine ⟨hl, fun h => ?_, fun h => ?_⟩
 ·unfold idxZ at h ⊢; split at h
  ·rename_i k; rw [if_pos k]
  ·omega
 ·have h : ¬ 0 ≤ idxZ nm g.rk := h
  unfold idxZ at h; split at h <;> omega
theorem s103 (g : GD) (p : Int) (x : D) : symFun (ctxm cm0 (fun _ => none) cmAnn) 3 103 [pV g p, .dpt 57 x] (.prop (g.sd = cN x)) := by rw [vc103]
theorem s104 (g : GD) (p : Int) : symFun (ctxm cm0 (fun _ => none) cmAnn) 3 104 [pV g p] (.prop g.ho) := by rw [vc104]
theorem s134 (g : GD) (p : Int) : symFun (ctxm cm0 (fun _ => none) cmAnn) 3 134 [pV g p] (.prop (g.si = 0)) := by rw [vc134]
theorem s105 (g : GD) (p : Int) (x : D) (h1 : g.tg.len ≤ 100) (h2 : (cNm x).len ≤ 100) : symFun (ctxm cm0 (fun _ => none) (tgAnn (cNm x))) 6 105 [pV g p, .dpt 57 x] (.prop (anyP g.tg (cNm x))) := by
 rw [vc105]
 exact ⟨⟨0, ⟨Nat.zero_le _, fun i hi => absurd hi (Nat.not_lt_zero _)⟩, ⟨rfl, trivial⟩, trivial⟩, fun y hy => ⟨n_lim h1, fun h => ⟨by omega, h, h2, fun k => ⟨fun _ => ⟨y, by omega, k⟩, fun _ => by omega⟩,
  fun k => ⟨by omega, y + 1, ⟨by omega, fun i hi => by rcases Nat.lt_or_ge i y with q | q; exact hy.2 i q; have : i = y := by omega
                                                       subst this; exact k⟩, by omega, ⟨by omega, trivial⟩, trivial⟩⟩,
  fun h => ⟨fun e => (by cases e), fun e => (by obtain ⟨i, a, b⟩ := e.out; have := x_end hy.1 h; exact (hy.2 i (by omega) b).elim)⟩⟩⟩
theorem s108 (g : GD) (p : Int) (x : D) (h2 : (cNm x).len ≤ 100) : symFun (ctxm cm0 (fun _ => none) cmAnn) 3 108 [pV g p, .dpt 57 x] (.prop (hasP (cNm x) g.ct)) := by
 rw [vc108]; exact ⟨h2, Iff.rfl⟩
theorem s112 (p : Int) : symFun (ctxm cm0 (fun _ => none) cmAnn) 3 112 [.int .i64 p] (.int .i64 p) := by rw [vc112]
theorem key_bnd {p n : Int} (h : inB p) (h1 : 0 ≤ n) (h2 : n ≤ 63) : 0 ≤ p * (2 * n + 1) ∧ p * (2 * n + 1) ≤ 63 * 127 := by
 obtain ⟨a, b⟩ := h.out
 exact ⟨Int.mul_nonneg a (by omega), Int.mul_le_mul (by omega) (by omega) (by omega) (by omega)⟩
theorem s113 (p : Int) (x : D) (h : inB p) (h1 : 0 ≤ cN x) (h2 : cN x ≤ 63) : symFun (ctxm cm0 (fun _ => none) cmAnn) 3 113 [.int .i64 p, .dpt 57 x] (.int .i64 (keyZ p (cN x))) := by
 rw [vc113]
 obtain ⟨a, b⟩ := key_bnd h h1 h2
 refine ⟨by omega, by omega, by omega, by omega, fun e => absurd e (by decide), rfl⟩
theorem s140 (p : Int) : symFun (ctxm cm0 (fun _ => none) cmAnn) 3 140 [.int .i64 p] (.prop (inB p)) := by
 rw [vc140]
 exact ⟨fun h => ⟨fun k => ⟨h, k⟩, fun k => k.out.2⟩, fun h => ⟨fun e => (by cases e), fun k => (h k.out.1).elim⟩⟩
theorem s133 (a b : GD) (i j : Int) (r : D) (h : okR r) : symFun (ctxm cm0 cF1 cmAnn) 3 133 [pV a i, pV b j, .dpt 165 r] (.int .i64 (cmpI (runR r a) (runR r b))) := by
 rw [vc133]; exact ⟨h, h, trivial, rfl⟩
theorem s138 (a b : GD) (i j : Int) (n la : D) (h : okN n) (ha : a.tg.len ≤ 100) (hb : b.tg.len ≤ 100) : symFun (ctxm cm0 cF1 cmAnn) 3 138 [pV a i, pV b j, .dpt 149 n, .dpt 4 la] (.int .i64 (namZ (runN n a) (runN n b) la.asProp)) := by
 rw [vc138]
 exact ⟨⟨h, ha⟩, ⟨h, hb⟩, fun k => by unfold namZ; rw [if_pos k], fun k => ⟨fun k2 => by unfold namZ; rw [if_neg k, if_pos k2], fun k2 => by unfold namZ; rw [if_neg k, if_neg (fun q => k2 q)]⟩⟩
theorem s109 (a b : GD) (i j : Int) : symFun (ctxm cm0 cF1 cmAnn) 3 109 [pV a i, pV b j] (.int .i64 (cmpS a.nm b.nm)) := by rw [vc109]; exact ⟨trivial, rfl⟩
open Classical in
theorem s141 (a b : GD) (i j : Int) (e k : D) (he : e = .fn 140 [] []) (hk : okK k) : symFun (ctxm cm0 cF1 cmAnn) 3 141 [pV a i, pV b j, .dpt 167 e, .dpt 153 k] (.int .i64 (if inB i ∧ inB j then cmpI (runK k i) (runK k j) else 0)) := by
 rw [vc141]
 exact ⟨he, fun h => ⟨he, fun h2 => by rw [if_neg (fun q => h2 q.2)], fun h2 => ⟨⟨hk, byContradiction h⟩, ⟨hk, byContradiction h2⟩, trivial, by rw [if_pos ⟨byContradiction h, byContradiction h2⟩]⟩⟩, fun h => by rw [if_neg (fun q => h q.1)]⟩
theorem s135 (a b : GD) (i j : Int) (u c : D) (hu : okT1 u) (hc : okC c) (ha : a.tg.len ≤ 100) (hb : b.tg.len ≤ 100) : symFun (ctxm cm0 cF2 cmAnn) 4 135 [pV a i, pV b j, .dpt 121 u, .dpt 127 c] (.int .i64 (orZ (runT1 u a b i j) (runC c a.si b.si))) := by
 rw [vc135]
 refine ⟨⟨hu, ha, hb⟩, hc, by decide, by decide, by simp, fun h => ?_, fun h => ⟨by decide, by decide, by simp, fun h2 => ?_, fun h2 => ?_⟩⟩
 ·have h : ¬ runT1 u a b i j = 0 := h
  unfold orZ; rw [if_pos h]; rfl
 ·have h : runT1 u a b i j = 0 := Classical.byContradiction h
  unfold orZ; rw [if_neg (fun k => k h)]; rfl
 ·have h : runT1 u a b i j = 0 := Classical.byContradiction h
  have h2 : runC c a.si b.si = 0 := Classical.byContradiction h2
  unfold orZ; rw [if_neg (fun k => k h), h2]
theorem s97 (a b : GD) (i j : Int) (s t : D) (ht : okT2 t) (ha : a.tg.len ≤ 100) (hb : b.tg.len ≤ 100) : symFun (ctxm cm0 cF3 cmAnn) 3 97 [pV a i, pV b j, .dpt 9 s, .dpt 121 t] (.int .i64 (ambZ s.asStr t a b i j)) := by
 rw [vc97]
 exact ⟨fun h1 => ⟨fun h2 => ⟨fun h3 => by unfold ambZ; rw [if_pos ⟨h1, .inr h3⟩], fun h3 => ⟨⟨ht, ha, hb⟩, by unfold ambZ; rw [if_neg (fun q => q.2.elim h2 h3)]⟩⟩, fun h2 => by unfold ambZ; rw [if_pos ⟨h1, .inl h2⟩]⟩,
  fun h1 => ⟨⟨ht, ha, hb⟩, by unfold ambZ; rw [if_neg (fun q => h1 q.1)]⟩⟩
theorem s71 (k : Int) (a : List UInt8) (la : Prop) (nm : D) (n : Int) : symFun (ctxm cm0 (fun _ => none) cmAnn) 5 71 [.agg [.int .u8 k, .str a, .prop la, .dat 23 nm, .int .i64 n]] (.fnd 121 (testD k a la nm n)) := by
 rw [vc71]
 refine ⟨fun h => by unfold testD; rw [if_pos h], fun h1 => ⟨fun h => ?_, fun h2 => ⟨fun h => ?_, fun h3 => ⟨fun h => ?_, fun h4 => ⟨fun h => ?_, fun h5 => ⟨fun h => ?_, fun h6 => ⟨fun h => ?_, fun h7 => ⟨fun h => ?_, fun h8 => ⟨fun h => ?_, fun h9 => ?_⟩⟩⟩⟩⟩⟩⟩⟩⟩
 ·unfold testD; rw [if_neg h1, if_pos h]; rfl
 ·unfold testD; rw [if_neg h1, if_neg h2, if_pos h]; rfl
 ·unfold testD; rw [if_neg h1, if_neg h2, if_neg h3, if_pos h]; rfl
 ·unfold testD; rw [if_neg h1, if_neg h2, if_neg h3, if_neg h4, if_pos h]; rfl
 ·unfold testD; rw [if_neg h1, if_neg h2, if_neg h3, if_neg h4, if_neg h5, if_pos h]; rfl
 ·unfold testD; rw [if_neg h1, if_neg h2, if_neg h3, if_neg h4, if_neg h5, if_neg h6, if_pos h]; rfl
 ·unfold testD; rw [if_neg h1, if_neg h2, if_neg h3, if_neg h4, if_neg h5, if_neg h6, if_neg h7, if_pos h]
 ·unfold testD; rw [if_neg h1, if_neg h2, if_neg h3, if_neg h4, if_neg h5, if_neg h6, if_neg h7, if_neg h8, if_pos h]; rfl
 ·unfold testD; rw [if_neg h1, if_neg h2, if_neg h3, if_neg h4, if_neg h5, if_neg h6, if_neg h7, if_neg h8, if_neg h9]; rfl
theorem s70 (s : List UInt8) (t : D) : symFun (ctxm cm0 (fun _ => none) cmAnn) 3 70 [.str s, .fnd 121 t] (.fnd 121 (amongT s t)) := by rw [vc70]; rfl
end Go.Ev

end

section
open Go.Proofs
namespace Go.Ev
structure naP (k : Int) (nm : D) (n : Int) (g : GD) : Prop where
 out : (k = 4 ∧ g.sd = n) ∨ (k = 5 ∧ g.ho) ∨ (k = 7 ∧ hasP nm g.ct) ∨ ((k ≠ 4 ∧ k ≠ 5 ∧ k ≠ 7) ∧ anyP g.tg nm)
structure befP (k : Int) (la : Prop) (nm : D) (n : Int) (a b : GD) (i j : Int) : Prop where
 out : (k = 1 ∧ idx nm a.rk < idx nm b.rk) ∨ (k = 2 ∧ a.si ≠ 0 ∧ (b.si = 0 ∨ a.si < b.si)) ∨ (k = 3 ∧ a.si ≠ 0 ∧ (b.si = 0 ∨ b.si < a.si)) ∨ (k = 8 ∧ sLt a.nm b.nm) ∨ (k = 9 ∧ inB i ∧ inB j ∧ i < j) ∨
  (k = 10 ∧ inB i ∧ inB j ∧ keyZ i n < keyZ j n) ∨ ((k ≠ 1 ∧ k ≠ 2 ∧ k ≠ 3 ∧ k ≠ 8 ∧ k ≠ 9 ∧ k ≠ 10) ∧ ((la ∧ ¬ naP k nm n a ∧ naP k nm n b) ∨ (¬ la ∧ naP k nm n a ∧ ¬ naP k nm n b)))
open Classical in
noncomputable def clZ (k : Int) (s : List UInt8) (la : Prop) (nm : D) (n : Int) (a b : GD) (i j : Int) : Int :=
 if s ≠ [] ∧ (a.rk ≠ s ∨ b.rk ≠ s) then 0 else if befP k la nm n a b i j then -1 else if befP k la nm n b a j i then 1 else 0
noncomputable def clE (c : D) (a b : GD) (i j : Int) (x : Nat) : Int := clZ (cK (el c x)) (cA (el c x)) (cL (el c x)) (cNm (el c x)) (cN (el c x)) a b i j
noncomputable def reaZ (c : D) (a b : GD) (i j : Int) : Int × Int := if (badZ c).2 = 0 then sepF (clE c a b i j) c.len 0 else (0, 0)
def copyWL (l : D) (n : Nat) : List D := (List.range n).map fun i => .str (sAt l i)
def copyW (l : D) : D := listD (copyWL l l.len)
def copyG (g : GD) : GD := { g with tg := copyW g.tg }
structure sameG (a b : GD) : Prop where
 out : a.nm = b.nm ∧ a.rk = b.rk ∧ a.ct = b.ct ∧ a.si = b.si ∧ a.sd = b.sd ∧ a.di = b.di ∧ (a.ho ↔ b.ho) ∧ (a.ac ↔ b.ac) ∧ eqS a.tg b.tg
structure shortL (l : D) : Prop where
 out : ∀ i, i < l.len → (sAt l i).length ≤ 40
structure fewG (d : D) : Prop where
 out : max (max ((d.fld 0).asStr.length : Int) (d.fld 1).asStr.length) (d.fld 2).asStr.length ≤ 40 ∧ (d.fld 8).len ≤ 10 ∧ shortL (d.fld 8)
def gD (g : GD) : D := .sct [.str g.nm, .str g.rk, .str g.ct, .int g.si, .int g.sd, .str g.di, .bool g.ho, .bool g.ac, g.tg]
noncomputable def con41 : Con := fun | [.dat 22 c] => some (smallC c, .prop ((badZ c).2 = 0)) | _ => none
noncomputable def con76 : Con := fun
 | [.agg [.int .u8 k, .str _, .prop _, .dat 23 nm, .int .i64 n], q] => (match gOf q with | some g => some (nm.len ≤ 100 ∧ g.tg.len ≤ 100, .prop (naP k nm n g)) | none => none)
 | _ => none
noncomputable def con53 : Con := fun
 | [.agg [.int .u8 k, .str _, .prop la, .dat 23 nm, .int .i64 n], p, q, .int .i64 i, .int .i64 j] => (match gOf p, gOf q with
  | some a, some b => some (nm.len ≤ 100 ∧ a.tg.len ≤ 100 ∧ b.tg.len ≤ 100 ∧ (k = 10 → 0 ≤ n ∧ n ≤ 63), .prop (befP k la nm n a b i j))
  | _, _ => none)
 | _ => none
noncomputable def con13 : Con := fun
 | [.dat 22 c, p, q, .int .i64 i, .int .i64 j] => (match gOf p, gOf q with
  | some a, some b => some (smallC c ∧ a.tg.len ≤ 100 ∧ b.tg.len ≤ 100, .tup [.int .i64 (reaZ c a b i j).1, .int .i64 (reaZ c a b i j).2])
  | _, _ => none)
 | _ => none
noncomputable def con14 : Con := fun
 | [.dat 22 c, p, q, .int .i64 i, .int .i64 j] => (match gOf p, gOf q with
  | some a, some b => some (smallC c ∧ a.tg.len ≤ 100 ∧ b.tg.len ≤ 100, .int .i64 (reaZ c a b i j).2)
  | _, _ => none)
 | _ => none
noncomputable def con51 : Con := fun | [.dat 23 l] => some (l.len ≤ 100, .dat 23 (copyW l)) | _ => none
noncomputable def con29 : Con := fun | [p] => (match gOf p with | some g => some (g.tg.len ≤ 100, gV (copyG g)) | none => none) | _ => none
noncomputable def con56 : Con := fun | [.dat 23 a, .dat 23 b] => some (a.len ≤ 100, .prop (eqS a b)) | _ => none
noncomputable def con33 : Con := fun | [p, q] => (match gOf p, gOf q with | some a, some b => some (a.tg.len ≤ 100, .prop (sameG a b)) | _, _ => none) | _ => none
noncomputable def con26 : Con := fun
 | [.agg [.str nm, .str rk, .str ct, .int .i64 si, .int .i64 sd, .str di, .prop ho, .prop ac, .dat 23 tg]] => some (True, .prop (¬ fewG (.sct [.str nm, .str rk, .str ct, .int si, .int sd, .str di, .bool ho, .bool ac, tg])))
 | _ => none
noncomputable def cn0 : FuncId → Option Con
 | 71 => some con71
 | 70 => some con70
 | g => cc4 g
noncomputable def cn1 : FuncId → Option Con
 | 71 => some con71
 | 70 => some con70
 | 43 => some con43
 | 42 => some con42
 | 41 => some con41
 | 30 => some con41
 | 73 => some con73
 | 51 => some con51
 | 56 => some con56
 | 76 => some con76
 | g => cc4 g
noncomputable def cn2 : FuncId → Option Con
 | 53 => some con53
 | 29 => some con29
 | 33 => some con33
 | 13 => some con13
 | 26 => some con26
 | g => cn1 g
noncomputable def cnAnn : FuncId → Nat → Option Ann
 | 43, 3 => some { τ := Nat, slots := fun _ _ x => [(11, .int .i64 x)], blks := fun S _ x => [(0, .arr 121 (testsL (slD S 0) x ++ List.replicate ((slD S 0).len - x) .nil))], inv := fun S _ x => x ≤ (slD S 0).len, meas := fun S _ x => (slD S 0).len - x }
 | 56, 4 => some { τ := Nat, slots := fun _ _ x => [(5, .int .i64 x)], blks := fun _ _ _ => [], inv := fun S _ x => x ≤ (slD S 0).len ∧ ∀ i, i < x → sAt (slD S 0) i = sAt (slD S 1) i, meas := fun S _ x => (slD S 0).len - x }
 | 51, 3 => some { hs := 2, τ := Nat, slots := fun _ i x => match i with | 0 => [(4, .int .i64 0), (3, .val (.slice none 0 0))] | _ => [(4, .int .i64 x), (3, .slc 60 (.lit 0) (.sym x) none)],
                   blks := fun S i x => match i with | 0 => [] | _ => [(60, .arr 9 (copyWL (slD S 0) x))], inv := fun S i x => match i with | 0 => x = 0 | _ => 0 < x ∧ x ≤ (slD S 0).len, meas := fun S _ x => (slD S 0).len - x }
 | 49, 2 => some { τ := Nat, slots := fun _ _ x => [(8, .int .i64 x)], blks := fun _ _ _ => [], inv := fun S _ x => x ≤ (slD S 0).len ∧ ∀ i, i < x → fewG (el (slD S 0) i), meas := fun S _ x => (slD S 0).len - x }
 | 48, 2 => some { τ := Nat, slots := fun _ _ x => [(8, .int .i64 x)], blks := fun _ _ _ => [], inv := fun S _ x => x ≤ (slD S 0).len ∧ ∀ i, i < x → (sAt (slD S 0) i).length ≤ 40, meas := fun S _ x => (slD S 0).len - x }
 | _, _ => none
noncomputable def sepAnn (f : Nat → Int) : FuncId → Nat → Option Ann
 | 42, 2 => some { τ := Nat, slots := fun _ _ x => [(13, .int .i64 x)], blks := fun _ _ _ => [], inv := fun S _ x => x ≤ (slD S 0).len ∧ sepF f ((slD S 0).len - x) x = sepF f (slD S 0).len 0, meas := fun S _ x => (slD S 0).len - x }
 | 31, 2 => some { τ := Nat, slots := fun _ _ x => [(12, .int .i64 x)], blks := fun _ _ _ => [], inv := fun S _ x => x ≤ (slD S 0).len ∧ sepF f ((slD S 0).len - x) x = sepF f (slD S 0).len 0, meas := fun S _ x => (slD S 0).len - x }
 | _, _ => none
noncomputable def namAnn (nm tg : D) : FuncId → Nat → Option Ann
 | 76, 9 => some { τ := Nat, slots := fun _ _ x => [(5, .int .i64 x)], blks := fun _ _ _ => [], inv := fun _ _ x => x ≤ tg.len ∧ ∀ i, i < x → ¬ hasP nm (sAt tg i), meas := fun _ _ x => tg.len - x }
 | _, _ => none
end Go.Ev

end
