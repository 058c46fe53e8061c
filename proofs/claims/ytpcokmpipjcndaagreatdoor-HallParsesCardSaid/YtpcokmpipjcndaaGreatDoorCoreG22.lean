/-
  Part of the engine that the claim is proved with: it states nothing of the document by itself.
-/
import Derived.Test.YtpcokmpipjcndaaGreatDoorProg
import Derived.Test.YtpcokmpipjcndaaGreatDoorCoreG0
import Derived.Test.YtpcokmpipjcndaaGreatDoorCoreSeC
import Derived.Test.YtpcokmpipjcndaaGreatDoorCoreStr

section
open Go.Proofs
namespace Go.Ev
def atI (d : D) (k : Nat) : Int := (nthD d.asList k).asInt
def eqD (a b : D) : Prop := a.len = b.len ∧ ∀ i, i < a.len → atI a i = atI b i
def el (l : D) (i : Nat) : D := nthD l.asList i
def tName (d : D) : List UInt8 := (d.fld 0).asStr
def tShape (d : D) : Int := (d.fld 1).asInt
def tA (d : D) : Int := (d.fld 2).asInt
def tB (d : D) : Int := (d.fld 3).asInt
def tOpen (d : D) : D := d.fld 4
def tX (d : D) : Int := (d.fld 5).asInt
def tY (d : D) : Int := (d.fld 6).asInt
structure nameP (s : List UInt8) : Prop where
 out : 1 ≤ s.length ∧ s.length ≤ 12 ∧ ∀ i, i < s.length → 97 ≤ byteAt s i ∧ byteAt s i ≤ 122
open Classical in
noncomputable def sizeZ (sh a b : Int) : Int :=
 if sh = 1 ∧ (1 ≤ a ∧ a ≤ 24) ∧ b = 0 then a
 else if sh = 2 ∧ (1 ≤ a ∧ a ≤ 11) ∧ 0 ≤ b ∧ b ≤ 2 then 2 * a + b
 else if sh = 3 ∧ (1 ≤ a ∧ a ≤ 8) ∧ 1 ≤ b ∧ b ≤ 8 then a + 2 * b
 else if sh = 4 ∧ (1 ≤ a ∧ a ≤ 24) ∧ 0 ≤ b ∧ b ≤ a then a else 0
structure risingP (o : D) (n : Int) : Prop where
 out : ∀ i, i < o.len → 0 ≤ atI o i ∧ atI o i < n ∧ (0 < i → atI o (i - 1) < atI o i)
def placeP (x : Int) : Prop := 0 ≤ x ∧ x ≤ 1000
open Classical in
noncomputable def errZ (nm : List UInt8) (sh a b : Int) (o : D) (x y : Int) : Int :=
 if ¬ nameP nm then 4 else if sizeZ sh a b = 0 then 10 else if ¬ risingP o (sizeZ sh a b) then 11 else if ¬ (placeP x ∧ placeP y) then 2 else 0
noncomputable def errT (d : D) : Int := errZ (tName d) (tShape d) (tA d) (tB d) (tOpen d) (tX d) (tY d)
open Classical in
noncomputable def idxZ (l : D) (s : List UInt8) : Nat → Nat → Int
 | 0, _ => -1
 | f + 1, i => if tName (el l i) = s then i else idxZ l s f (i + 1)
def listD (l : List D) : D := match l with | [] => .nil | l => .list l
structure sameT (a b : D) : Prop where
 out : tName a = tName b ∧ tShape a = tShape b ∧ tA a = tA b ∧ tB a = tB b ∧ tX a = tX b ∧ tY a = tY b ∧ eqD (tOpen a) (tOpen b)
structure sameAll (a b : D) : Prop where
 out : a.len = b.len ∧ ∀ i, i < a.len → sameT (el a i) (el b i)
structure smallD (l : D) : Prop where
 out : l.len ≤ 100 ∧ ∀ i, i < l.len → (tOpen (el l i)).len ≤ 100000
def sAt (l : D) (i : Nat) : List UInt8 := (nthD l.asList i).asStr
def strsD (l : List (List UInt8)) : List D := l.map D.str
def pAt (W : List (List UInt8)) (j : Nat) : List UInt8 := (W[j]?).getD []
def wrd (s : List UInt8) (j : Nat) : List UInt8 := pAt (piecesOf 32 s) j
def tblW : List UInt8 := [116, 97, 98, 108, 101]
def w1B : List UInt8 := [114, 111, 117, 110, 100]
def w2B : List UInt8 := [108, 111, 110, 103]
def w3B : List UInt8 := [104, 111, 114, 115, 101, 115, 104, 111, 101]
def w4B : List UInt8 := [114, 111, 119]
def shapeZ (w : List UInt8) : Int := if w = w1B then 1 else if w = w2B then 2 else if w = w3B then 3 else if w = w4B then 4 else 0
def shapeW (k : Int) : List UInt8 := if k = 1 then w1B else if k = 2 then w2B else if k = 3 then w3B else w4B
def shpN (w : List UInt8) (k : Nat) : Int := if shapeZ w < k then shapeZ w else 0
structure numP (s : List UInt8) : Prop where
 out : 1 ≤ s.length ∧ s.length ≤ 9 ∧ (1 < s.length → byteAt s 0 ≠ 48) ∧ ∀ i, i < s.length → 48 ≤ byteAt s i ∧ byteAt s i ≤ 57
def numV (s : List UInt8) : Nat → Int
 | 0 => 0
 | n + 1 => 10 * numV s n + (byteAt s n - 48)
structure digsP (s : List UInt8) : Prop where
 out : 1 ≤ s.length ∧ s.length ≤ 9 ∧ ∀ i, i < s.length → 48 ≤ byteAt s i ∧ byteAt s i ≤ 57
open Classical in
noncomputable def numZ (s : List UInt8) : Int := if digsP s then numV s s.length else 0
open Classical in
noncomputable def pI (p : Prop) (n : Int) : Int := if p then n else 0
structure okW (s : List UInt8) : Prop where
 out : ∀ w, w ∈ piecesOf 32 s → w ≠ []
structure numsP (l : D) : Prop where
 out : ∀ i, i < l.len → numP (sAt l i)
structure lineP (s : List UInt8) : Prop where
 out : 7 ≤ (piecesOf 32 s).length ∧ wrd s 0 = tblW ∧ wrd s 1 ≠ [] ∧ shapeZ (wrd s 2) ≠ 0 ∧ ∀ j, 3 ≤ j → j < (piecesOf 32 s).length → numP (wrd s j)
structure headP (s : List UInt8) : Prop where
 out : okW s ∧ 7 ≤ (piecesOf 32 s).length ∧ wrd s 0 = tblW
noncomputable def numsL (s : List UInt8) : List D := ((piecesOf 32 s).drop 3).map fun w => .int (numZ w)
noncomputable def restD (s : List UInt8) : D := listD ((numsL s).drop 4)
noncomputable def nAt (s : List UInt8) (j : Nat) : Int := numZ (wrd s (3 + j))
noncomputable def tabD (s : List UInt8) : D := .sct [.str (wrd s 1), .int (shapeZ (wrd s 2)), .int (nAt s 0), .int (nAt s 1), restD s, .int (nAt s 2), .int (nAt s 3)]
open Classical in
noncomputable def pS (p : Prop) (s : List UInt8) : List UInt8 := if p then s else []
open Classical in
noncomputable def pD (p : Prop) (d : D) : D := if p then d else .nil
def cutA (s : List UInt8) : List UInt8 := if 0 ≤ cutI s 10 then s.take (cutI s 10).toNat else s
def cutB (s : List UInt8) : List UInt8 := if 0 ≤ cutI s 10 then s.drop ((cutI s 10).toNat + 1) else []
def lastE (s : List UInt8) : Prop := pAt (piecesOf 10 s) (s.count 10) = []
open Classical in
noncomputable def linesL (s : List UInt8) : List (List UInt8) := if lastE s then (piecesOf 10 s).take (s.count 10) else piecesOf 10 s
noncomputable def lnAt (s : List UInt8) (k : Nat) : List UInt8 := pAt (piecesOf 10 s) k
noncomputable def tabsL (s : List UInt8) (n : Nat) : List D := (List.range n).map fun k => tabD (lnAt s k)
noncomputable def nLines (s : List UInt8) : Nat := (linesL s).length
structure twiceN (l : D) (nm : List UInt8) : Prop where
 out : ∃ k, k < l.len ∧ tName (el l k) = nm
open Classical in
noncomputable def nextZ (l : D) (nm : List UInt8) (sh a b : Int) (o : D) (x y : Int) : Int := if errZ nm sh a b o x y ≠ 0 then errZ nm sh a b o x y else if twiceN l nm then 5 else 0
structure formK (s : List UInt8) (k : Nat) : Prop where
 out : lineP (lnAt s k) ∧ (k < s.count 10)
open Classical in
noncomputable def errK (s : List UInt8) (k : Nat) : Int :=
 if ¬ formK s k then 3 else if errT (tabD (lnAt s k)) ≠ 0 then errT (tabD (lnAt s k)) else if twiceN (.list (tabsL s k)) (wrd (lnAt s k) 1) then 5 else if k = 16 then 7 else 0
open Classical in
noncomputable def scanP (s : List UInt8) : Nat → Nat → Int × Int
 | 0, _ => (0, 0)
 | f + 1, k => if errK s k ≠ 0 then ((k : Nat), errK s k) else scanP s f (k + 1)
noncomputable def endP (s : List UInt8) : Int × Int := scanP s (nLines s) 0
open Classical in
noncomputable def parD (s : List UInt8) : D := if 65536 < s.length then .nil else if (endP s).2 ≠ 0 then .nil else listD (tabsL s (nLines s))
open Classical in
noncomputable def parL (s : List UInt8) : Int := if 65536 < s.length then 0 else (endP s).1
open Classical in
noncomputable def parE (s : List UInt8) : Int := if 65536 < s.length then 7 else (endP s).2
noncomputable def isNl (b : ByteArray) : Bool := b.data.toList == [10]
noncomputable def isSp (b : ByteArray) : Bool := b.data.toList == [32]
noncomputable def con43 : Con := fun | [.dat 37 a, .dat 37 b] => some (a.len ≤ 100000, .prop (eqD a b)) | _ => none
noncomputable def con126 : Con := fun | [.str s] => some (True, .prop (nameP s)) | _ => none
noncomputable def con127 : Con := fun | [.dat 37 o, .int .i64 n] => some (o.len ≤ 100000, .prop (risingP o n)) | _ => none
noncomputable def con63 : Con := fun | [.agg [.str nm, .int .u8 sh, .int .i64 a, .int .i64 b, .dat 37 o, .int .i64 x, .int .i64 y]] => some (o.len ≤ 100000, .int .i64 (errZ nm sh a b o x y)) | _ => none
noncomputable def con28 : Con := fun | [.agg [.str _, .int .u8 sh, .int .i64 a, .int .i64 b, .dat 37 _, .int .i64 _, .int .i64 _]] => some (True, .int .i64 (sizeZ sh a b)) | _ => none
noncomputable def con114 : Con := fun | [.dat 25 l, .str s] => some (l.len ≤ 100, .int .i64 (idxZ l s l.len 0)) | _ => none
noncomputable def con79 : Con := fun
 | [.agg [.str n1, .int .u8 s1, .int .i64 a1, .int .i64 b1, .dat 37 o1, .int .i64 x1, .int .i64 y1], .agg [.str n2, .int .u8 s2, .int .i64 a2, .int .i64 b2, .dat 37 o2, .int .i64 x2, .int .i64 y2]] => some (o1.len ≤ 100000, .prop (n1 = n2 ∧ s1 = s2 ∧ a1 = a2 ∧ b1 = b2 ∧ x1 = x2 ∧ y1 = y2 ∧ eqD o1 o2))
 | _ => none
noncomputable def con60 : Con := fun | [.dat 25 a, .dat 25 b] => some (smallD a, .prop (sameAll a b)) | _ => none
noncomputable def con33 : Con := fun | [.dat 25 l, .agg [.str nm, .int .u8 sh, .int .i64 a, .int .i64 b, .dat 37 o, .int .i64 x, .int .i64 y]] => some (l.len ≤ 100 ∧ o.len ≤ 100000, .int .i64 (nextZ l nm sh a b o x y)) | _ => none
noncomputable def con31 : Con := fun | [.str s, .val (.string b)] => cond (isNl b) (some (s.length ≤ 100000, .tup [.str (cutA s), .str (cutB s), .prop (0 ≤ cutI s 10)])) none | _ => none
noncomputable def con70 : Con := fun | [.str s, .val (.string b)] => cond (isSp b) (some (s.length ≤ 100000, .dat 82 (.list (strsD (piecesOf 32 s))))) none | _ => none
noncomputable def con73 : Con := fun | [.str s] => some (s.length ≤ 100000, .str s) | _ => none
noncomputable def con100 : Con := fun | [.str s] => some (True, .tup [.int .i64 (pI (numP s) (numZ s)), .prop (numP s)]) | _ => none
noncomputable def con78 : Con := fun | [.str s] => some (True, .tup [.int .i64 (numZ s), .prop (numP s)]) | _ => none
noncomputable def con72 : Con := fun | [.dat 82 l] => some (l.len ≤ 100000, .tup [.dat 37 (pD (numsP l) (.list (l.asList.map fun d => .int (numZ d.asStr)))), .prop (numsP l)]) | _ => none
noncomputable def con71 : Con := fun | [.str w] => some (True, .tup [.int .u8 (shapeZ w), .prop (shapeZ w ≠ 0)]) | _ => none
noncomputable def con77 : Con := fun | [.int .u8 k] => some (True, .str (shapeW k)) | _ => none
noncomputable def rowV (p : Prop) (s : List UInt8) : V := .agg [.str (pS p (wrd s 1)), .int .u8 (pI p (shapeZ (wrd s 2))), .int .i64 (pI p (nAt s 0)), .int .i64 (pI p (nAt s 1)), .dat 37 (pD p (restD s)), .int .i64 (pI p (nAt s 2)), .int .i64 (pI p (nAt s 3))]
noncomputable def con32 : Con := fun | [.str s] => some (s.length ≤ 100000, .tup [rowV (lineP s) s, .prop (lineP s)]) | _ => none
noncomputable def con40 : Con := fun | [.str s] => some (s.length ≤ 100000, .tup [rowV (headP s) s, .prop (lineP s)]) | _ => none
noncomputable def con39 : Con := fun | [.str s] => some (s.length ≤ 100000, .tup [.dat 82 (listD (strsD (linesL s))), .prop (¬ lastE s)]) | _ => none
noncomputable def con76 : Con := fun | [.str s] => some (s.length ≤ 100000, .tup [.dat 82 (pD (okW s) (.list (strsD (piecesOf 32 s)))), .prop (okW s)]) | _ => none
noncomputable def con9 : Con := fun | [.str s] => some (s.length ≤ 4000 ∨ 65536 < s.length, .tup [.dat 25 (parD s), .int .i64 (parL s), .int .i64 (parE s)]) | _ => none
noncomputable def con5 : Con := fun | [.str s] => some (s.length ≤ 4000 ∨ 65536 < s.length, .prop True) | _ => none
noncomputable def con3 : Con := fun | [.str _] => some (True, .prop True) | _ => none
noncomputable def hp1 : FuncId → Option Con
 | 21 => some con43
 | 87 => some con126
 | 80 => some con126
 | 88 => some con127
 | 79 => some con28
 | 74 => some con114
 | 73 => some con73
 | 100 => some con100
 | 78 => some con78
 | 71 => some con71
 | 77 => some con77
 | 76 => some con76
 | 39 => some con39
 | 31 => some con31
 | 70 => some con70
 | _ => none
noncomputable def hp2 : FuncId → Option Con
 | 57 => some con63
 | 41 => some con63
 | 35 => some con79
 | 72 => some con72
 | 40 => some con40
 | g => hp1 g
noncomputable def hp3 : FuncId → Option Con
 | 33 => some con33
 | 32 => some con32
 | 10 => some con60
 | g => hp2 g
noncomputable def hp4 : FuncId → Option Con
 | 9 => some con9
 | 12 => some con9
 | g => hp3 g
noncomputable def hp5 : FuncId → Option Con
 | 5 => some con5
 | g => hp4 g
noncomputable def lastZ (o : D) (k : Nat) : Int := match k with | 0 => -1 | k + 1 => atI o k
noncomputable def hpAnn : FuncId → Nat → Option Ann
 | 87, 4 => some { τ := Nat, slots := fun _ _ x => [(14, .int .i64 x)], blks := fun _ _ _ => [], inv := fun S _ x => x ≤ (slS S 0).length ∧ ∀ i, i < x → 97 ≤ byteAt (slS S 0) i ∧ byteAt (slS S 0) i ≤ 122, meas := fun S _ x => (slS S 0).length - x }
 | 80, 4 => some { τ := Nat, slots := fun _ _ x => [(3, .int .i64 x)], blks := fun _ _ _ => [], inv := fun S _ x => x ≤ (slS S 0).length ∧ ∀ i, i < x → 97 ≤ byteAt (slS S 0) i ∧ byteAt (slS S 0) i ≤ 122, meas := fun S _ x => (slS S 0).length - x }
 | 88, 3 => some { τ := Nat, slots := fun S _ x => [(10, .int .i64 x), (5, .int .i64 (lastZ (slD S 0) x))], blks := fun _ _ _ => [], inv := fun S _ x => x ≤ (slD S 0).len ∧ ∀ i, i < x → 0 ≤ atI (slD S 0) i ∧ atI (slD S 0) i < slI S 1 ∧ (0 < i → atI (slD S 0) (i - 1) < atI (slD S 0) i), meas := fun S _ x => (slD S 0).len - x }
 | 74, 2 => some { τ := Nat, slots := fun _ _ x => [(9, .int .i64 x)], blks := fun _ _ _ => [], inv := fun S _ x => x ≤ (slD S 0).len ∧ idxZ (slD S 0) (slS S 1) ((slD S 0).len - x) x = idxZ (slD S 0) (slS S 1) (slD S 0).len 0, meas := fun S _ x => (slD S 0).len - x }
 | 34, 4 => some { τ := Nat, slots := fun _ _ x => [(17, .int .i64 x)], blks := fun _ _ _ => [], inv := fun S _ x => x ≤ (slD S 0).len ∧ ∀ i, i < x → sameT (el (slD S 0) i) (el (slD S 1) i), meas := fun S _ x => (slD S 0).len - x }
 | 21, 4 => some { τ := Nat, slots := fun _ _ x => [(13, .int .i64 x)], blks := fun _ _ _ => [], inv := fun S _ x => x ≤ (slD S 0).len ∧ ∀ i, i < x → atI (slD S 0) i = atI (slD S 1) i, meas := fun S _ x => (slD S 0).len - x }
 | 99, 11 => some { τ := Nat × List UInt8, slots := fun _ _ x => [(10, .int .i64 x.1), (0, .str x.2)],
                     blks := fun S _ x => [(0, .arr 9 (strsD ((piecesOf 32 (slS S 0)).take x.1) ++ List.replicate ((slS S 0).count 32 + 1 - x.1) (.str [])))],
                     inv := fun S _ x => x.1 ≤ (slS S 0).count 32 ∧ (piecesOf 32 (slS S 0)).drop x.1 = piecesOf 32 x.2 ∧ x.2.length ≤ (slS S 0).length, meas := fun S _ x => (slS S 0).count 32 - x.1 }
 | 100, 5 => some { τ := Nat, slots := fun S _ x => [(26, .int .i64 x), (4, .int .i64 (numV (slS S 0) x))], blks := fun _ _ _ => [], inv := fun S _ x => x ≤ (slS S 0).length ∧ ∀ i, i < x → 48 ≤ byteAt (slS S 0) i ∧ byteAt (slS S 0) i ≤ 57, meas := fun S _ x => (slS S 0).length - x }
 | 78, 5 => some { τ := Nat, slots := fun S _ x => [(5, .int .i64 x), (4, .int .i64 (numV (slS S 0) x))], blks := fun _ _ _ => [], inv := fun S _ x => x ≤ (slS S 0).length ∧ ∀ i, i < x → 48 ≤ byteAt (slS S 0) i ∧ byteAt (slS S 0) i ≤ 57, meas := fun S _ x => (slS S 0).length - x }
 | 72, 3 => some { τ := Nat, slots := fun _ _ x => [(14, .int .i64 x)], blks := fun S _ x => [(0, .arr 3 (((slD S 0).asList.take x).map (fun d => .int (numZ d.asStr)) ++ List.replicate ((slD S 0).len - x) (.int 0)))],
                   inv := fun S _ x => x ≤ (slD S 0).len ∧ ∀ i, i < x → numP (sAt (slD S 0) i), meas := fun S _ x => (slD S 0).len - x }
 | 39, 4 => some { hs := 2, τ := Nat × Nat × Nat, slots := fun S i x => match i with | 0 => [(6, .int .i64 x.1), (5, .int .i64 x.2.1), (4, .val (.slice none 0 0))] | _ => [(6, .int .i64 x.1), (5, .int .i64 x.2.1), (4, .slc 60 (.lit 0) (.sym x.2.2) none)],
                   blks := fun S i x => match i with | 0 => [] | _ => [(60, .arr 9 (strsD ((piecesOf 10 (slS S 0)).take x.2.2)))],
                   inv := fun S i x => (x.1 ≤ (slS S 0).length ∧ x.2.1 ≤ x.1 ∧ x.2.2 ≤ (slS S 0).count 10 ∧ (∀ j, x.2.1 ≤ j → j < x.1 → byteAt (slS S 0) j ≠ 10) ∧ (piecesOf 10 (slS S 0)).drop x.2.2 = piecesOf 10 ((slS S 0).drop x.2.1)) ∧ match i with | 0 => x.2.2 = 0 | _ => 0 < x.2.2,
                   meas := fun S _ x => (slS S 0).length - x.1 }
 | 76, 4 => some { hs := 2, τ := Nat × Nat × Nat, slots := fun S i x => match i with | 0 => [(6, .int .i64 x.1), (5, .str (((slS S 0).take x.1).drop x.2.1)), (4, .val (.slice none 0 0))] | _ => [(6, .int .i64 x.1), (5, .str (((slS S 0).take x.1).drop x.2.1)), (4, .slc 60 (.lit 0) (.sym x.2.2) none)],
                   blks := fun S i x => match i with | 0 => [] | _ => [(60, .arr 9 (strsD ((piecesOf 32 (slS S 0)).take x.2.2)))],
                   inv := fun S i x => ((x.1 ≤ (slS S 0).length ∧ x.2.1 ≤ x.1 ∧ x.2.2 ≤ (slS S 0).count 32 ∧ (∀ j, x.2.1 ≤ j → j < x.1 → byteAt (slS S 0) j ≠ 32) ∧ (piecesOf 32 (slS S 0)).drop x.2.2 = piecesOf 32 ((slS S 0).drop x.2.1) ∧ ∀ w, w ∈ (piecesOf 32 (slS S 0)).take x.2.2 → w ≠ []) ∨
                    (x.1 = (slS S 0).length + 1 ∧ x.2.1 = x.1 ∧ x.2.2 = (slS S 0).count 32 + 1 ∧ okW (slS S 0))) ∧ match i with | 0 => x.2.2 = 0 | _ => 0 < x.2.2,
                   meas := fun S _ x => (slS S 0).length + 1 - x.1 }
 | 40, 6 => some { τ := Nat, slots := fun _ _ k => [(7, .int .i64 k)], blks := fun S _ k => [(1, .box 39 [.str (wrd (slS S 0) 1), .int .u8 (shpN (wrd (slS S 0) 2) k), .int .i64 0, .int .i64 0, .val (.slice none 0 0), .int .i64 0, .int .i64 0])],
                   inv := fun _ _ k => 1 ≤ k ∧ k ≤ 5, meas := fun _ _ k => 5 - k }
 | 40, 12 => some { hs := 2, τ := Nat × Prop, slots := fun S i x => match i with | 0 => [(9, .int .i64 3), (5, .prop x.2), (8, .val (.slice none 0 0))] | _ => [(9, .int .i64 (3 + x.1 : Nat)), (5, .prop x.2), (8, .slc 60 (.lit 0) (.sym x.1) none)],
                    blks := fun S i x => match i with | 0 => [] | _ => [(60, .arr 3 ((numsL (slS S 0)).take x.1))],
                    inv := fun S i x => (x.2 ↔ ∀ j, 3 ≤ j → j < 3 + x.1 → numP (wrd (slS S 0) j)) ∧ 3 + x.1 ≤ (piecesOf 32 (slS S 0)).length ∧ match i with | 0 => x.1 = 0 | _ => 0 < x.1, meas := fun S _ x => (piecesOf 32 (slS S 0)).length - x.1 }
 | 9, 5 => some { hs := 2, τ := Nat × List UInt8, slots := fun S i x => match i with | 0 => [(0, .str x.2), (6, .int .i64 x.1), (5, .val (.slice none 0 0)), (7, .int .i64 0)] | _ => [(0, .str x.2), (6, .int .i64 x.1), (5, .slc 60 (.lit 0) (.sym x.1) none), (7, .int .i64 0)],
                      blks := fun S i x => match i with | 0 => [] | _ => [(60, .arr 39 (tabsL (slS S 0) x.1))],
                      inv := fun S i x => (x.1 ≤ (slS S 0).count 10 ∧ x.1 ≤ 16 ∧ (piecesOf 10 (slS S 0)).drop x.1 = piecesOf 10 x.2 ∧ x.2.length ≤ (slS S 0).length ∧ ∀ k, k < x.1 → errK (slS S 0) k = 0) ∧ match i with | 0 => x.1 = 0 | _ => 0 < x.1, meas := fun S _ x => (slS S 0).count 10 + 1 - x.1 }
 | 12, 6 => some { hs := 2, τ := Nat, slots := fun S i x => match i with | 0 => [(8, .int .i64 0), (7, .val (.slice none 0 0))] | _ => [(8, .int .i64 x), (7, .slc 60 (.lit 0) (.sym x) none)],
                      blks := fun S i x => match i with | 0 => [] | _ => [(60, .arr 39 (tabsL (slS S 0) x))],
                      inv := fun S i x => (x ≤ nLines (slS S 0) ∧ x ≤ 16 ∧ ∀ k, k < x → errK (slS S 0) k = 0) ∧ match i with | 0 => x = 0 | _ => 0 < x, meas := fun S _ x => nLines (slS S 0) - x }
 | 12, 15 => some { τ := Nat, slots := fun _ _ j => [(12, .int .i64 j)], blks := fun _ _ _ => [], inv := fun S _ j => j ≤ (slI S 8).toNat ∧ ∀ q, q < j → wrd (lnAt (slS S 0) q) 1 ≠ wrd (lnAt (slS S 0) (slI S 8).toNat) 1, meas := fun S _ j => (slI S 8).toNat - j }
 | _, _ => none
noncomputable def hp41 (o : D) (n : Int) : FuncId → Nat → Option Ann
 | 41, 7 => some { τ := Nat, slots := fun _ _ x => [(4, .int .i64 x)], blks := fun _ _ _ => [], inv := fun _ _ x => x ≤ o.len ∧ ∀ i, i < x → 0 ≤ atI o i ∧ atI o i < n ∧ (0 < i → atI o (i - 1) < atI o i), meas := fun _ _ x => o.len - x }
 | _, _ => none
noncomputable def ctx (con : FuncId → Option Con) (ann : FuncId → Nat → Option Ann) : Ctx := { P := Tryz.prog, con := con, ora := fun g => cond (Nat.beq g 6) (some (.bool true)) none, bits := 1725436586697640946858688965569256363112777243042596638790631055949823, ann := ann }
end Go.Ev

end

section
open Go.Proofs
namespace Go.Ev
set_option maxRecDepth 100000
set_option maxHeartbeats 4000000
theorem vc87 : ∀ (s : List UInt8), symFun (ctx (fun _ => none) hpAnn) (3 : Nat) (87 : FuncId) [V.str s] (V.prop (nameP s)) = ((((↑s.length : Int) < (1 : Int) → False) → ((12 : Int) < (↑s.length : Int)
→ (false = true ↔ nameP s)) ∧ (((12 : Int) < (↑s.length : Int) → False) → (∃ (x : Nat), (x ≤ s.length ∧ ∀ (i : Nat), i < x → (97 : Int) ≤ byteAt s i ∧ byteAt s i ≤ (122 : Int)) ∧ ((0 : Int) = (↑x :
Int) ∧ True) ∧ True) ∧ ∀ (x : Nat), (x ≤ s.length ∧ ∀ (i : Nat), i < x → (97 : Int) ≤ byteAt s i ∧ byteAt s i ≤ (122 : Int)) → s.length - x < LIM ∧ ((↑x : Int) < (↑s.length : Int) → (0 : Int) ≤ (↑x :
Int) ∧ (↑x : Int) < (↑s.length : Int) ∧ ((byteAt s x < (97 : Int) → False) → (0 : Int) ≤ (↑x : Int) ∧ (↑x : Int) < (↑s.length : Int) ∧ ((122 : Int) < byteAt s x → (false = true ↔ nameP s)) ∧ (((122 :
Int) < byteAt s x → False) → ((-9223372036854775808 : Int) ≤ (↑x : Int) + (1 : Int) ∧ (↑x : Int) + (1 : Int) < (9223372036854775808 : Int)) ∧ ∃ (y : Nat), (y ≤ s.length ∧ ∀ (i : Nat), i < y → (97 :
Int) ≤ byteAt s i ∧ byteAt s i ≤ (122 : Int)) ∧ s.length - y < s.length - x ∧ ((↑x : Int) + (1 : Int) = (↑y : Int) ∧ True) ∧ True)) ∧ (byteAt s x < (97 : Int) → (false = true ↔ nameP s))) ∧ (((↑x :
Int) < (↑s.length : Int) → False) → (true = true ↔ nameP s)))) ∧ ((↑s.length : Int) < (1 : Int) → (false = true ↔ nameP s))) := by intros; kernel_rfl
theorem vc80 : ∀ (s : List UInt8), symFun (ctx (fun _ => none) hpAnn) (3 : Nat) (80 : FuncId) [V.str s] (V.prop (nameP s)) = ((((↑s.length : Int) = (0 : Int) → False) → ((12 : Int) < (↑s.length : Int)
→ (false = true ↔ nameP s)) ∧ (((12 : Int) < (↑s.length : Int) → False) → (∃ (x : Nat), (x ≤ s.length ∧ ∀ (i : Nat), i < x → (97 : Int) ≤ byteAt s i ∧ byteAt s i ≤ (122 : Int)) ∧ ((0 : Int) = (↑x :
Int) ∧ True) ∧ True) ∧ ∀ (x : Nat), (x ≤ s.length ∧ ∀ (i : Nat), i < x → (97 : Int) ≤ byteAt s i ∧ byteAt s i ≤ (122 : Int)) → s.length - x < LIM ∧ ((↑x : Int) < (↑s.length : Int) → (0 : Int) ≤ (↑x :
Int) ∧ (↑x : Int) < (↑s.length : Int) ∧ ((byteAt s x < (97 : Int) → False) → (0 : Int) ≤ (↑x : Int) ∧ (↑x : Int) < (↑s.length : Int) ∧ ((122 : Int) < byteAt s x → (false = true ↔ nameP s)) ∧ (((122 :
Int) < byteAt s x → False) → ((-9223372036854775808 : Int) ≤ (↑x : Int) + (1 : Int) ∧ (↑x : Int) + (1 : Int) < (9223372036854775808 : Int)) ∧ ∃ (y : Nat), (y ≤ s.length ∧ ∀ (i : Nat), i < y → (97 :
Int) ≤ byteAt s i ∧ byteAt s i ≤ (122 : Int)) ∧ s.length - y < s.length - x ∧ ((↑x : Int) + (1 : Int) = (↑y : Int) ∧ True) ∧ True)) ∧ (byteAt s x < (97 : Int) → (false = true ↔ nameP s))) ∧ (((↑x :
Int) < (↑s.length : Int) → False) → (true = true ↔ nameP s)))) ∧ ((↑s.length : Int) = (0 : Int) → (false = true ↔ nameP s))) := by intros; kernel_rfl
theorem vc88 : ∀ (o : D) (n : Int), symFun (ctx (fun _ => none) hpAnn) (3 : Nat) (88 : FuncId) [V.dat (37 : TypeId) o, V.int IntKind.i64 n] (V.prop (risingP o n)) = ((∃ (x : Nat), (x ≤ o.len ∧ ∀ (i :
Nat), i < x → (0 : Int) ≤ atI o i ∧ atI o i < n ∧ ((0 : Nat) < i → atI o (i - (1 : Nat)) < atI o i)) ∧ ((0 : Int) = (↑x : Int) ∧ (-1 : Int) = lastZ o x ∧ True) ∧ True) ∧ ∀ (x : Nat), (x ≤ o.len ∧ ∀ (i
: Nat), i < x → (0 : Int) ≤ atI o i ∧ atI o i < n ∧ ((0 : Nat) < i → atI o (i - (1 : Nat)) < atI o i)) → o.len - x < LIM ∧ ((↑x : Int) < (↑o.len : Int) → (0 : Int) ≤ (↑x : Int) ∧ (↑x : Int) < (↑o.len
: Int) ∧ (((el o x).asInt ≤ lastZ o x → False) → (n ≤ (el o x).asInt → (false = true ↔ risingP o n)) ∧ ((n ≤ (el o x).asInt → False) → ((-9223372036854775808 : Int) ≤ (↑x : Int) + (1 : Int) ∧ (↑x :
Int) + (1 : Int) < (9223372036854775808 : Int)) ∧ ∃ (y : Nat), (y ≤ o.len ∧ ∀ (i : Nat), i < y → (0 : Int) ≤ atI o i ∧ atI o i < n ∧ ((0 : Nat) < i → atI o (i - (1 : Nat)) < atI o i)) ∧ o.len - y <
o.len - x ∧ ((↑x : Int) + (1 : Int) = (↑y : Int) ∧ (el o x).asInt = lastZ o y ∧ True) ∧ True)) ∧ ((el o x).asInt ≤ lastZ o x → (false = true ↔ risingP o n))) ∧ (((↑x : Int) < (↑o.len : Int) → False) →
(true = true ↔ risingP o n))) := by intros; kernel_rfl
theorem vc79 : ∀ (nm : List UInt8) (sh a b : Int) (o : D) (x y : Int), symFun (ctx (fun _ => none) hpAnn) (3 : Nat) (79 : FuncId) [V.agg [V.str nm, V.int IntKind.u8 sh, V.int IntKind.i64 a, V.int
IntKind.i64 b, V.dat (37 : TypeId) o, V.int IntKind.i64 x, V.int IntKind.i64 y]] (V.int IntKind.i64 (sizeZ sh a b)) = ((sh = (1 : Int) → ((1 : Int) ≤ a → (a ≤ (24 : Int) → (b = (0 : Int) → a = sizeZ
sh a b) ∧ ((b = (0 : Int) → False) → (0 : Int) = sizeZ sh a b)) ∧ ((a ≤ (24 : Int) → False) → (0 : Int) = sizeZ sh a b)) ∧ (((1 : Int) ≤ a → False) → (0 : Int) = sizeZ sh a b)) ∧ ((sh = (1 : Int) →
False) → (sh = (2 : Int) → ((1 : Int) ≤ a → (a ≤ (11 : Int) → ((0 : Int) ≤ b → (b ≤ (2 : Int) → ((-9223372036854775808 : Int) ≤ (2 : Int) * a ∧ (2 : Int) * a < (9223372036854775808 : Int)) ∧
((-9223372036854775808 : Int) ≤ (2 : Int) * a + b ∧ (2 : Int) * a + b < (9223372036854775808 : Int)) ∧ (2 : Int) * a + b = sizeZ sh a b) ∧ ((b ≤ (2 : Int) → False) → (0 : Int) = sizeZ sh a b)) ∧ (((0
: Int) ≤ b → False) → (0 : Int) = sizeZ sh a b)) ∧ ((a ≤ (11 : Int) → False) → (0 : Int) = sizeZ sh a b)) ∧ (((1 : Int) ≤ a → False) → (0 : Int) = sizeZ sh a b)) ∧ ((sh = (2 : Int) → False) → (sh = (3
: Int) → ((1 : Int) ≤ a → (a ≤ (8 : Int) → ((1 : Int) ≤ b → (b ≤ (8 : Int) → ((-9223372036854775808 : Int) ≤ (2 : Int) * b ∧ (2 : Int) * b < (9223372036854775808 : Int)) ∧ ((-9223372036854775808 :
Int) ≤ a + (2 : Int) * b ∧ a + (2 : Int) * b < (9223372036854775808 : Int)) ∧ a + (2 : Int) * b = sizeZ sh a b) ∧ ((b ≤ (8 : Int) → False) → (0 : Int) = sizeZ sh a b)) ∧ (((1 : Int) ≤ b → False) → (0
: Int) = sizeZ sh a b)) ∧ ((a ≤ (8 : Int) → False) → (0 : Int) = sizeZ sh a b)) ∧ (((1 : Int) ≤ a → False) → (0 : Int) = sizeZ sh a b)) ∧ ((sh = (3 : Int) → False) → (sh = (4 : Int) → ((1 : Int) ≤ a →
(a ≤ (24 : Int) → ((0 : Int) ≤ b → (b ≤ a → a = sizeZ sh a b) ∧ ((b ≤ a → False) → (0 : Int) = sizeZ sh a b)) ∧ (((0 : Int) ≤ b → False) → (0 : Int) = sizeZ sh a b)) ∧ ((a ≤ (24 : Int) → False) → (0 :
Int) = sizeZ sh a b)) ∧ (((1 : Int) ≤ a → False) → (0 : Int) = sizeZ sh a b)) ∧ ((sh = (4 : Int) → False) → (0 : Int) = sizeZ sh a b))))) := by intros; kernel_rfl
theorem vc74 : ∀ (l : D) (s : List UInt8), symFun (ctx (fun _ => none) hpAnn) (3 : Nat) (74 : FuncId) [V.dat (25 : TypeId) l, V.str s] (V.int IntKind.i64 (idxZ l s l.len (0 : Nat))) = ((∃ (x : Nat),
(x ≤ l.len ∧ idxZ l s (l.len - x) x = idxZ l s l.len (0 : Nat)) ∧ ((0 : Int) = (↑x : Int) ∧ True) ∧ True) ∧ ∀ (x : Nat), x ≤ l.len ∧ idxZ l s (l.len - x) x = idxZ l s l.len (0 : Nat) → l.len - x < LIM
∧ ((↑x : Int) < (↑l.len : Int) → (0 : Int) ≤ (↑x : Int) ∧ (↑x : Int) < (↑l.len : Int) ∧ (tName (el l x) = s → (↑x : Int) = idxZ l s l.len (0 : Nat)) ∧ ((tName (el l x) = s → False) →
((-9223372036854775808 : Int) ≤ (↑x : Int) + (1 : Int) ∧ (↑x : Int) + (1 : Int) < (9223372036854775808 : Int)) ∧ ∃ (y : Nat), (y ≤ l.len ∧ idxZ l s (l.len - y) y = idxZ l s l.len (0 : Nat)) ∧ l.len -
y < l.len - x ∧ ((↑x : Int) + (1 : Int) = (↑y : Int) ∧ True) ∧ True)) ∧ (((↑x : Int) < (↑l.len : Int) → False) → (-1 : Int) = idxZ l s l.len (0 : Nat))) := by intros; kernel_rfl
theorem vc57 : ∀ (nm : List UInt8) (sh a b : Int) (o : D) (x y : Int), symFun (ctx hp1 hpAnn) (4 : Nat) (57 : FuncId) [V.agg [V.str nm, V.int IntKind.u8 sh, V.int IntKind.i64 a, V.int IntKind.i64 b,
V.dat (37 : TypeId) o, V.int IntKind.i64 x, V.int IntKind.i64 y]] (V.int IntKind.i64 (errZ nm sh a b o x y)) = ((sh = (1 : Int) → True ∧ ((nameP nm → False) → (4 : Int) = errZ nm sh a b o x y) ∧
(((nameP nm → False) → False) → ((1 : Int) ≤ a → (a ≤ (24 : Int) → ((b = (0 : Int) → False) → (10 : Int) = errZ nm sh a b o x y) ∧ (((b = (0 : Int) → False) → False) → o.len ≤ (100000 : Nat) ∧
((risingP o a → False) → (11 : Int) = errZ nm sh a b o x y) ∧ (((risingP o a → False) → False) → ((0 : Int) ≤ x → (((x ≤ (1000 : Int) → False) → False) → ((0 : Int) ≤ y → ((y ≤ (1000 : Int) → False) →
(2 : Int) = errZ nm sh a b o x y) ∧ (((y ≤ (1000 : Int) → False) → False) → (0 : Int) = errZ nm sh a b o x y)) ∧ (((0 : Int) ≤ y → False) → (2 : Int) = errZ nm sh a b o x y)) ∧ ((x ≤ (1000 : Int) →
False) → (2 : Int) = errZ nm sh a b o x y)) ∧ (((0 : Int) ≤ x → False) → (2 : Int) = errZ nm sh a b o x y)))) ∧ ((a ≤ (24 : Int) → False) → (10 : Int) = errZ nm sh a b o x y)) ∧ (((1 : Int) ≤ a →
False) → (10 : Int) = errZ nm sh a b o x y))) ∧ ((sh = (1 : Int) → False) → (sh = (2 : Int) → True ∧ ((nameP nm → False) → (4 : Int) = errZ nm sh a b o x y) ∧ (((nameP nm → False) → False) → ((1 :
Int) ≤ a → (a ≤ (11 : Int) → ((0 : Int) ≤ b → ((b ≤ (2 : Int) → False) → (10 : Int) = errZ nm sh a b o x y) ∧ (((b ≤ (2 : Int) → False) → False) → ((-9223372036854775808 : Int) ≤ (2 : Int) * a ∧ (2 :
Int) * a < (9223372036854775808 : Int)) ∧ ((-9223372036854775808 : Int) ≤ (2 : Int) * a + b ∧ (2 : Int) * a + b < (9223372036854775808 : Int)) ∧ o.len ≤ (100000 : Nat) ∧ ((risingP o ((2 : Int) * a +
b) → False) → (11 : Int) = errZ nm sh a b o x y) ∧ (((risingP o ((2 : Int) * a + b) → False) → False) → ((0 : Int) ≤ x → (((x ≤ (1000 : Int) → False) → False) → ((0 : Int) ≤ y → ((y ≤ (1000 : Int) →
False) → (2 : Int) = errZ nm sh a b o x y) ∧ (((y ≤ (1000 : Int) → False) → False) → (0 : Int) = errZ nm sh a b o x y)) ∧ (((0 : Int) ≤ y → False) → (2 : Int) = errZ nm sh a b o x y)) ∧ ((x ≤ (1000 :
Int) → False) → (2 : Int) = errZ nm sh a b o x y)) ∧ (((0 : Int) ≤ x → False) → (2 : Int) = errZ nm sh a b o x y)))) ∧ (((0 : Int) ≤ b → False) → (10 : Int) = errZ nm sh a b o x y)) ∧ ((a ≤ (11 : Int)
→ False) → (10 : Int) = errZ nm sh a b o x y)) ∧ (((1 : Int) ≤ a → False) → (10 : Int) = errZ nm sh a b o x y))) ∧ ((sh = (2 : Int) → False) → (sh = (3 : Int) → True ∧ ((nameP nm → False) → (4 : Int)
= errZ nm sh a b o x y) ∧ (((nameP nm → False) → False) → ((1 : Int) ≤ a → (a ≤ (8 : Int) → ((1 : Int) ≤ b → ((b ≤ (8 : Int) → False) → (10 : Int) = errZ nm sh a b o x y) ∧ (((b ≤ (8 : Int) → False) →
False) → ((-9223372036854775808 : Int) ≤ (2 : Int) * b ∧ (2 : Int) * b < (9223372036854775808 : Int)) ∧ ((-9223372036854775808 : Int) ≤ a + (2 : Int) * b ∧ a + (2 : Int) * b < (9223372036854775808 :
Int)) ∧ o.len ≤ (100000 : Nat) ∧ ((risingP o (a + (2 : Int) * b) → False) → (11 : Int) = errZ nm sh a b o x y) ∧ (((risingP o (a + (2 : Int) * b) → False) → False) → ((0 : Int) ≤ x → (((x ≤ (1000 :
Int) → False) → False) → ((0 : Int) ≤ y → ((y ≤ (1000 : Int) → False) → (2 : Int) = errZ nm sh a b o x y) ∧ (((y ≤ (1000 : Int) → False) → False) → (0 : Int) = errZ nm sh a b o x y)) ∧ (((0 : Int) ≤ y
→ False) → (2 : Int) = errZ nm sh a b o x y)) ∧ ((x ≤ (1000 : Int) → False) → (2 : Int) = errZ nm sh a b o x y)) ∧ (((0 : Int) ≤ x → False) → (2 : Int) = errZ nm sh a b o x y)))) ∧ (((1 : Int) ≤ b →
False) → (10 : Int) = errZ nm sh a b o x y)) ∧ ((a ≤ (8 : Int) → False) → (10 : Int) = errZ nm sh a b o x y)) ∧ (((1 : Int) ≤ a → False) → (10 : Int) = errZ nm sh a b o x y))) ∧ ((sh = (3 : Int) →
False) → (sh = (4 : Int) → True ∧ ((nameP nm → False) → (4 : Int) = errZ nm sh a b o x y) ∧ (((nameP nm → False) → False) → ((1 : Int) ≤ a → (a ≤ (24 : Int) → ((0 : Int) ≤ b → ((b ≤ a → False) → (10 :
Int) = errZ nm sh a b o x y) ∧ (((b ≤ a → False) → False) → o.len ≤ (100000 : Nat) ∧ ((risingP o a → False) → (11 : Int) = errZ nm sh a b o x y) ∧ (((risingP o a → False) → False) → ((0 : Int) ≤ x →
(((x ≤ (1000 : Int) → False) → False) → ((0 : Int) ≤ y → ((y ≤ (1000 : Int) → False) → (2 : Int) = errZ nm sh a b o x y) ∧ (((y ≤ (1000 : Int) → False) → False) → (0 : Int) = errZ nm sh a b o x y)) ∧
(((0 : Int) ≤ y → False) → (2 : Int) = errZ nm sh a b o x y)) ∧ ((x ≤ (1000 : Int) → False) → (2 : Int) = errZ nm sh a b o x y)) ∧ (((0 : Int) ≤ x → False) → (2 : Int) = errZ nm sh a b o x y)))) ∧
(((0 : Int) ≤ b → False) → (10 : Int) = errZ nm sh a b o x y)) ∧ ((a ≤ (24 : Int) → False) → (10 : Int) = errZ nm sh a b o x y)) ∧ (((1 : Int) ≤ a → False) → (10 : Int) = errZ nm sh a b o x y))) ∧
((sh = (4 : Int) → False) → True ∧ ((nameP nm → False) → (4 : Int) = errZ nm sh a b o x y) ∧ (((nameP nm → False) → False) → (10 : Int) = errZ nm sh a b o x y)))))) := by intros; kernel_rfl
theorem vc41 : ∀ (nm : List UInt8) (sh a b : Int) (o : D) (x y : Int), symFun (ctx hp1 (hp41 o (sizeZ sh a b))) (4 : Nat) (41 : FuncId) [V.agg [V.str nm, V.int IntKind.u8 sh, V.int IntKind.i64 a,
V.int IntKind.i64 b, V.dat (37 : TypeId) o, V.int IntKind.i64 x, V.int IntKind.i64 y]] (V.int IntKind.i64 (errZ nm sh a b o x y)) = (True ∧ True ∧ ((nameP nm → False) → (4 : Int) = errZ nm sh a b o x
y) ∧ (((nameP nm → False) → False) → (sizeZ sh a b = (0 : Int) → (10 : Int) = errZ nm sh a b o x y) ∧ ((sizeZ sh a b = (0 : Int) → False) → (∃ (x : Nat), (x ≤ o.len ∧ ∀ (i : Nat), i < x → (0 : Int) ≤
atI o i ∧ atI o i < sizeZ sh a b ∧ ((0 : Nat) < i → atI o (i - (1 : Nat)) < atI o i)) ∧ ((0 : Int) = (↑x : Int) ∧ True) ∧ True) ∧ ∀ (x_1 : Nat), (x_1 ≤ o.len ∧ ∀ (i : Nat), i < x_1 → (0 : Int) ≤ atI o
i ∧ atI o i < sizeZ sh a b ∧ ((0 : Nat) < i → atI o (i - (1 : Nat)) < atI o i)) → o.len - x_1 < LIM ∧ ((↑x_1 : Int) < (↑o.len : Int) → (0 : Int) ≤ (↑x_1 : Int) ∧ (↑x_1 : Int) < (↑o.len : Int) ∧
((-9223372036854775808 : Int) ≤ sizeZ sh a b - (1 : Int) ∧ sizeZ sh a b - (1 : Int) < (9223372036854775808 : Int)) ∧ ((0 : Int) ≤ (el o x_1).asInt → ((((el o x_1).asInt ≤ sizeZ sh a b - (1 : Int) →
False) → False) → ((0 : Int) < (↑x_1 : Int) → (0 : Int) ≤ (↑x_1 : Int) ∧ (↑x_1 : Int) < (↑o.len : Int) ∧ ((-9223372036854775808 : Int) ≤ (↑x_1 : Int) - (1 : Int) ∧ (↑x_1 : Int) - (1 : Int) <
(9223372036854775808 : Int)) ∧ (0 : Int) ≤ (↑x_1 : Int) - (1 : Int) ∧ (↑x_1 : Int) - (1 : Int) < (↑o.len : Int) ∧ ((el o x_1).asInt ≤ (el o ((↑x_1 : Int) - (1 : Int)).toNat).asInt → (11 : Int) = errZ
nm sh a b o x y) ∧ (((el o x_1).asInt ≤ (el o ((↑x_1 : Int) - (1 : Int)).toNat).asInt → False) → ((-9223372036854775808 : Int) ≤ (↑x_1 : Int) + (1 : Int) ∧ (↑x_1 : Int) + (1 : Int) <
(9223372036854775808 : Int)) ∧ ∃ (y : Nat), (y ≤ o.len ∧ ∀ (i : Nat), i < y → (0 : Int) ≤ atI o i ∧ atI o i < sizeZ sh a b ∧ ((0 : Nat) < i → atI o (i - (1 : Nat)) < atI o i)) ∧ o.len - y < o.len -
x_1 ∧ ((↑x_1 : Int) + (1 : Int) = (↑y : Int) ∧ True) ∧ True)) ∧ (((0 : Int) < (↑x_1 : Int) → False) → ((-9223372036854775808 : Int) ≤ (↑x_1 : Int) + (1 : Int) ∧ (↑x_1 : Int) + (1 : Int) <
(9223372036854775808 : Int)) ∧ ∃ (y : Nat), (y ≤ o.len ∧ ∀ (i : Nat), i < y → (0 : Int) ≤ atI o i ∧ atI o i < sizeZ sh a b ∧ ((0 : Nat) < i → atI o (i - (1 : Nat)) < atI o i)) ∧ o.len - y < o.len -
x_1 ∧ ((↑x_1 : Int) + (1 : Int) = (↑y : Int) ∧ True) ∧ True)) ∧ (((el o x_1).asInt ≤ sizeZ sh a b - (1 : Int) → False) → (11 : Int) = errZ nm sh a b o x y)) ∧ (((0 : Int) ≤ (el o x_1).asInt → False) →
(11 : Int) = errZ nm sh a b o x y)) ∧ (((↑x_1 : Int) < (↑o.len : Int) → False) → ((0 : Int) ≤ x → (((x ≤ (1000 : Int) → False) → False) → ((0 : Int) ≤ y → ((y ≤ (1000 : Int) → False) → (2 : Int) =
errZ nm sh a b o x y) ∧ (((y ≤ (1000 : Int) → False) → False) → (0 : Int) = errZ nm sh a b o x y)) ∧ (((0 : Int) ≤ y → False) → (2 : Int) = errZ nm sh a b o x y)) ∧ ((x ≤ (1000 : Int) → False) → (2 :
Int) = errZ nm sh a b o x y)) ∧ (((0 : Int) ≤ x → False) → (2 : Int) = errZ nm sh a b o x y))))) := by intros; kernel_rfl
theorem vc35 : ∀ (n1 : List UInt8) (s1 a1 b1 : Int) (o1 : D) (x1 y1 : Int) (n2 : List UInt8) (s2 a2 b2 : Int) (o2 : D) (x2 y2 : Int), symFun (ctx hp1 hpAnn) (4 : Nat) (35 : FuncId) [V.agg [V.str n1,
V.int IntKind.u8 s1, V.int IntKind.i64 a1, V.int IntKind.i64 b1, V.dat (37 : TypeId) o1, V.int IntKind.i64 x1, V.int IntKind.i64 y1], V.agg [V.str n2, V.int IntKind.u8 s2, V.int IntKind.i64 a2, V.int
IntKind.i64 b2, V.dat (37 : TypeId) o2, V.int IntKind.i64 x2, V.int IntKind.i64 y2]] (V.prop (n1 = n2 ∧ s1 = s2 ∧ a1 = a2 ∧ b1 = b2 ∧ x1 = x2 ∧ y1 = y2 ∧ eqD o1 o2)) = ((n1 = n2 → (s1 = s2 → (a1 = a2
→ (b1 = b2 → (x1 = x2 → (y1 = y2 → o1.len ≤ (100000 : Nat) ∧ ((o1.len = o2.len ∧ ∀ (i : Nat), i < o1.len → atI o1 i = atI o2 i) ↔ n1 = n2 ∧ s1 = s2 ∧ a1 = a2 ∧ b1 = b2 ∧ x1 = x2 ∧ y1 = y2 ∧ o1.len =
o2.len ∧ ∀ (i : Nat), i < o1.len → atI o1 i = atI o2 i)) ∧ ((y1 = y2 → False) → (false = true ↔ n1 = n2 ∧ s1 = s2 ∧ a1 = a2 ∧ b1 = b2 ∧ x1 = x2 ∧ y1 = y2 ∧ o1.len = o2.len ∧ ∀ (i : Nat), i < o1.len →
atI o1 i = atI o2 i))) ∧ ((x1 = x2 → False) → (false = true ↔ n1 = n2 ∧ s1 = s2 ∧ a1 = a2 ∧ b1 = b2 ∧ x1 = x2 ∧ y1 = y2 ∧ o1.len = o2.len ∧ ∀ (i : Nat), i < o1.len → atI o1 i = atI o2 i))) ∧ ((b1 = b2
→ False) → (false = true ↔ n1 = n2 ∧ s1 = s2 ∧ a1 = a2 ∧ b1 = b2 ∧ x1 = x2 ∧ y1 = y2 ∧ o1.len = o2.len ∧ ∀ (i : Nat), i < o1.len → atI o1 i = atI o2 i))) ∧ ((a1 = a2 → False) → (false = true ↔ n1 = n2
∧ s1 = s2 ∧ a1 = a2 ∧ b1 = b2 ∧ x1 = x2 ∧ y1 = y2 ∧ o1.len = o2.len ∧ ∀ (i : Nat), i < o1.len → atI o1 i = atI o2 i))) ∧ ((s1 = s2 → False) → (false = true ↔ n1 = n2 ∧ s1 = s2 ∧ a1 = a2 ∧ b1 = b2 ∧ x1
= x2 ∧ y1 = y2 ∧ o1.len = o2.len ∧ ∀ (i : Nat), i < o1.len → atI o1 i = atI o2 i))) ∧ ((n1 = n2 → False) → (false = true ↔ n1 = n2 ∧ s1 = s2 ∧ a1 = a2 ∧ b1 = b2 ∧ x1 = x2 ∧ y1 = y2 ∧ o1.len = o2.len ∧
∀ (i : Nat), i < o1.len → atI o1 i = atI o2 i))) := by intros; kernel_rfl
theorem vc10 : ∀ (a b : D), symFun (ctx hp2 hpAnn) (5 : Nat) (10 : FuncId) [V.dat (25 : TypeId) a, V.dat (25 : TypeId) b] (V.prop (sameAll a b)) = ((((↑a.len : Int) = (↑b.len : Int) → False) → (false
= true ↔ sameAll a b)) ∧ ((((↑a.len : Int) = (↑b.len : Int) → False) → False) → (∃ (x : Nat), (x ≤ a.len ∧ ∀ (i : Nat), i < x → sameT (el a i) (el b i)) ∧ ((0 : Int) = (↑x : Int) ∧ True) ∧ True) ∧ ∀
(x : Nat), (x ≤ a.len ∧ ∀ (i : Nat), i < x → sameT (el a i) (el b i)) → a.len - x < LIM ∧ ((↑x : Int) < (↑a.len : Int) → (0 : Int) ≤ (↑x : Int) ∧ (↑x : Int) < (↑a.len : Int) ∧ (0 : Int) ≤ (↑x : Int) ∧
(↑x : Int) < (↑b.len : Int) ∧ (tOpen (el a x)).len ≤ (100000 : Nat) ∧ (((tName (el a x) = tName (el b x) ∧ tShape (el a x) = tShape (el b x) ∧ tA (el a x) = tA (el b x) ∧ tB (el a x) = tB (el b x) ∧
tX (el a x) = tX (el b x) ∧ tY (el a x) = tY (el b x) ∧ (tOpen (el a x)).len = (tOpen (el b x)).len ∧ ∀ (i : Nat), i < (tOpen (el a x)).len → atI (tOpen (el a x)) i = atI (tOpen (el b x)) i) → False)
→ (false = true ↔ sameAll a b)) ∧ ((((tName (el a x) = tName (el b x) ∧ tShape (el a x) = tShape (el b x) ∧ tA (el a x) = tA (el b x) ∧ tB (el a x) = tB (el b x) ∧ tX (el a x) = tX (el b x) ∧ tY (el a
x) = tY (el b x) ∧ (tOpen (el a x)).len = (tOpen (el b x)).len ∧ ∀ (i : Nat), i < (tOpen (el a x)).len → atI (tOpen (el a x)) i = atI (tOpen (el b x)) i) → False) → False) → ((-9223372036854775808 :
Int) ≤ (↑x : Int) + (1 : Int) ∧ (↑x : Int) + (1 : Int) < (9223372036854775808 : Int)) ∧ ∃ (y : Nat), (y ≤ a.len ∧ ∀ (i : Nat), i < y → sameT (el a i) (el b i)) ∧ a.len - y < a.len - x ∧ ((↑x : Int) +
(1 : Int) = (↑y : Int) ∧ True) ∧ True)) ∧ (((↑x : Int) < (↑a.len : Int) → False) → (true = true ↔ sameAll a b)))) := by intros; kernel_rfl
theorem vc21 : ∀ (p q : D), symFun (ctx (fun _ => none) hpAnn) (3 : Nat) (21 : FuncId) [V.dat (37 : TypeId) p, V.dat (37 : TypeId) q] (V.prop (eqD p q)) = ((((↑p.len : Int) = (↑q.len : Int) → False) →
(false = true ↔ p.len = q.len ∧ ∀ (i : Nat), i < p.len → atI p i = atI q i)) ∧ ((((↑p.len : Int) = (↑q.len : Int) → False) → False) → (∃ (x : Nat), (x ≤ p.len ∧ ∀ (i : Nat), i < x → atI p i = atI q i)
∧ ((0 : Int) = (↑x : Int) ∧ True) ∧ True) ∧ ∀ (x : Nat), (x ≤ p.len ∧ ∀ (i : Nat), i < x → atI p i = atI q i) → p.len - x < LIM ∧ ((↑x : Int) < (↑p.len : Int) → (0 : Int) ≤ (↑x : Int) ∧ (↑x : Int) <
(↑p.len : Int) ∧ (0 : Int) ≤ (↑x : Int) ∧ (↑x : Int) < (↑q.len : Int) ∧ (((el p x).asInt = (el q x).asInt → False) → (false = true ↔ p.len = q.len ∧ ∀ (i : Nat), i < p.len → atI p i = atI q i)) ∧
((((el p x).asInt = (el q x).asInt → False) → False) → ((-9223372036854775808 : Int) ≤ (↑x : Int) + (1 : Int) ∧ (↑x : Int) + (1 : Int) < (9223372036854775808 : Int)) ∧ ∃ (y : Nat), (y ≤ p.len ∧ ∀ (i :
Nat), i < y → atI p i = atI q i) ∧ p.len - y < p.len - x ∧ ((↑x : Int) + (1 : Int) = (↑y : Int) ∧ True) ∧ True)) ∧ (((↑x : Int) < (↑p.len : Int) → False) → (true = true ↔ p.len = q.len ∧ ∀ (i : Nat),
i < p.len → atI p i = atI q i)))) := by intros; kernel_rfl
theorem s87 (s : List UInt8) : symFun (ctx (fun _ => none) hpAnn) 3 87 [.str s] (.prop (nameP s)) := by
 rw [vc87]
 simp only [imp_false, Classical.not_not, true_and, and_true]
 have no : ∀ x, x < s.length → ¬ (97 ≤ byteAt s x ∧ byteAt s x ≤ 122) → (false = true ↔ nameP s) := fun x hx hn => ⟨fun h => by simp at h, fun h => absurd (h.out.2.2 x hx) hn⟩
 have bad : ¬ (1 ≤ s.length ∧ s.length ≤ 12) → (false = true ↔ nameP s) := fun hn => ⟨fun h => by simp at h, fun h => absurd ⟨h.out.1, h.out.2.1⟩ hn⟩
 refine ⟨fun h1 => ⟨fun h2 => bad (by omega), fun h2 => ⟨⟨0, ⟨by omega, fun i hi => by omega⟩, rfl⟩, fun x ⟨hx, hinv⟩ => ⟨by unfold LIM; omega, fun hlt => ⟨by omega, by omega, fun h3 => ⟨by omega, by omega, fun h4 => no x (by omega) (by omega), fun h4 => ⟨by omega, x + 1, ⟨by omega, fun i hi => ?_⟩, by omega, by omega⟩⟩, fun h3 => no x (by omega) (by omega)⟩, fun hge => ⟨fun _ => ⟨⟨by omega, by omega, fun i hi => hinv i (by omega)⟩⟩, fun _ => by first | rfl | trivial⟩⟩⟩⟩, fun h1 => bad (by omega)⟩
 by_cases e : i = x
 ·subst e; exact ⟨by omega, by omega⟩
 ·exact hinv i (by omega)
theorem s80 (s : List UInt8) : symFun (ctx (fun _ => none) hpAnn) 3 80 [.str s] (.prop (nameP s)) := by
 rw [vc80]
 simp only [imp_false, Classical.not_not, true_and, and_true]
 have no : ∀ x, x < s.length → ¬ (97 ≤ byteAt s x ∧ byteAt s x ≤ 122) → (false = true ↔ nameP s) := fun x hx hn => ⟨fun h => by simp at h, fun h => absurd (h.out.2.2 x hx) hn⟩
 have bad : ¬ (1 ≤ s.length ∧ s.length ≤ 12) → (false = true ↔ nameP s) := fun hn => ⟨fun h => by simp at h, fun h => absurd ⟨h.out.1, h.out.2.1⟩ hn⟩
 refine ⟨fun h1 => ⟨fun h2 => bad (by omega), fun h2 => ⟨⟨0, ⟨by omega, fun i hi => by omega⟩, rfl⟩, fun x ⟨hx, hinv⟩ => ⟨by unfold LIM; omega, fun hlt => ⟨by omega, by omega, fun h3 => ⟨by omega, by omega, fun h4 => no x (by omega) (by omega), fun h4 => ⟨by omega, x + 1, ⟨by omega, fun i hi => ?_⟩, by omega, by omega⟩⟩, fun h3 => no x (by omega) (by omega)⟩, fun hge => ⟨fun _ => ⟨⟨by omega, by omega, fun i hi => hinv i (by omega)⟩⟩, fun _ => by first | rfl | trivial⟩⟩⟩⟩, fun h1 => bad (by omega)⟩
 by_cases e : i = x
 ·subst e; exact ⟨by omega, by omega⟩
 ·exact hinv i (by omega)
theorem s88 (o : D) (n : Int) (h : o.len ≤ 100000) : symFun (ctx (fun _ => none) hpAnn) 3 88 [.dat 37 o, .int .i64 n] (.prop (risingP o n)) := by
 rw [vc88]
 have e : ∀ i, (el o i).asInt = atI o i := fun _ => rfl
 simp only [imp_false, Classical.not_not, true_and, and_true, e]
 have no : ∀ x, x < o.len → ¬ (0 ≤ atI o x ∧ atI o x < n ∧ (0 < x → atI o (x - 1) < atI o x)) → (false = true ↔ risingP o n) := fun x hx hn => ⟨fun h => by simp at h, fun h => absurd (h.out x hx) hn⟩
 have last : ∀ x, x < o.len → (∀ i, i < x → 0 ≤ atI o i ∧ atI o i < n ∧ (0 < i → atI o (i - 1) < atI o i)) → ((lastZ o x < atI o x) ↔ (0 ≤ atI o x ∧ (0 < x → atI o (x - 1) < atI o x))) := fun x hx hinv => by
  cases x with
  | zero => simp [lastZ]; omega
  | succ x =>
   have := hinv x (by omega)
   simp only [lastZ, Nat.add_sub_cancel]
   constructor
   ·intro h; exact ⟨by omega, fun _ => h⟩
   ·intro h; exact h.2 (by omega)
 refine ⟨⟨0, ⟨by omega, fun i hi => by omega⟩, rfl, rfl⟩, fun x ⟨hx, hinv⟩ => ⟨by unfold LIM; omega, fun hlt => ?_, fun hge => ⟨fun _ => ⟨fun i hi => hinv i (by omega)⟩, fun _ => by first | rfl | trivial⟩⟩⟩
 have hl := last x (by omega) hinv
 refine ⟨by omega, hlt, fun h1 => ⟨fun h2 => no x (by omega) (by omega), fun h2 => ⟨by omega, x + 1, ⟨by omega, fun i hi => ?_⟩, by omega, by omega, rfl⟩⟩, fun h1 => no x (by omega) fun hh => by have := hl.2 ⟨hh.1, hh.2.2⟩; omega⟩
 by_cases e : i = x
 ·subst e; have := hl.1 (by omega); exact ⟨this.1, by omega, this.2⟩
 ·exact hinv i (by omega)
theorem s79 (nm : List UInt8) (sh a b : Int) (o : D) (x y : Int) : symFun (ctx (fun _ => none) hpAnn) 3 79 [.agg [.str nm, .int .u8 sh, .int .i64 a, .int .i64 b, .dat 37 o, .int .i64 x, .int .i64 y]] (.int .i64 (sizeZ sh a b)) := by
 rw [vc79]
 simp only [imp_false, Classical.not_not, true_and, and_true]
 repeat' (first | refine And.intro ?_ ?_ | intro _)
 all_goals (first | omega | ((unfold sizeZ; repeat' split) <;> omega))
theorem idx_step (l : D) (s : List UInt8) (x : Nat) (hx : x < l.len) : idxZ l s (l.len - x) x = if tName (el l x) = s then (x : Int) else idxZ l s (l.len - (x + 1)) (x + 1) := by
 have : l.len - x = (l.len - (x + 1)) + 1 := by omega
 rw [this]; rfl
theorem s74 (l : D) (s : List UInt8) (h : l.len ≤ 100) : symFun (ctx (fun _ => none) hpAnn) 3 74 [.dat 25 l, .str s] (.int .i64 (idxZ l s l.len 0)) := by
 rw [vc74]
 simp only [imp_false, Classical.not_not, true_and, and_true]
 refine ⟨⟨0, ⟨by omega, rfl⟩, rfl⟩, fun x ⟨hx, hinv⟩ => ⟨by unfold LIM; omega, fun hlt => ?_, fun hge => ?_⟩⟩
 ·have hs := idx_step l s x (by omega)
  rw [hinv] at hs
  refine ⟨by omega, hlt, fun h1 => by rw [hs, if_pos h1], fun h1 => ⟨by omega, x + 1, ⟨by omega, ?_⟩, by omega, by omega⟩⟩
  rw [hs, if_neg h1]
 ·have : l.len - x = 0 := by omega
  rw [← hinv, this]; rfl
section
variable {nm : List UInt8} {sh a b : Int} {o : D} {x y : Int}
theorem err_name (h : ¬ nameP nm) : errZ nm sh a b o x y = 4 := by unfold errZ; rw [if_pos h]
theorem err_shape (h : nameP nm) (hs : sizeZ sh a b = 0) : errZ nm sh a b o x y = 10 := by unfold errZ; rw [if_neg (fun hn => hn h), if_pos hs]
theorem err_open {n : Int} (hr : ¬ risingP o n) (h : nameP nm) (hs : sizeZ sh a b = n) (hn : n ≠ 0) : errZ nm sh a b o x y = 11 := by
 subst hs; unfold errZ; rw [if_neg (fun hn => hn h), if_neg hn, if_pos hr]
theorem err_arg {n : Int} (hr : risingP o n) (h : nameP nm) (hs : sizeZ sh a b = n) (hn : n ≠ 0) (hp : ¬ ((0 ≤ x ∧ x ≤ 1000) ∧ 0 ≤ y ∧ y ≤ 1000)) : errZ nm sh a b o x y = 2 := by
 subst hs; unfold errZ placeP; rw [if_neg (fun hn => hn h), if_neg hn, if_neg (fun hn => hn hr), if_pos hp]
theorem err_ok {n : Int} (hr : risingP o n) (h : nameP nm) (hs : sizeZ sh a b = n) (hn : n ≠ 0) (hp : (0 ≤ x ∧ x ≤ 1000) ∧ 0 ≤ y ∧ y ≤ 1000) : errZ nm sh a b o x y = 0 := by
 subst hs; unfold errZ placeP; rw [if_neg (fun hn => hn h), if_neg hn, if_neg (fun hn => hn hr), if_neg (fun hn => hn hp)]
end
theorem s57 (nm : List UInt8) (sh a b : Int) (o : D) (x y : Int) (h : o.len ≤ 100000) : symFun (ctx hp1 hpAnn) 4 57 [.agg [.str nm, .int .u8 sh, .int .i64 a, .int .i64 b, .dat 37 o, .int .i64 x, .int .i64 y]] (.int .i64 (errZ nm sh a b o x y)) := by
 rw [vc57]
 simp only [imp_false, Classical.not_not, true_and, and_true]
 repeat' (first | refine And.intro ?_ ?_ | intro _)
 all_goals (first
  | omega
  | exact (err_name (by assumption)).symm
  | exact (err_shape (by assumption) (by (unfold sizeZ; repeat' split) <;> omega)).symm
  | exact (err_open (by assumption) (by assumption) (by (unfold sizeZ; repeat' split) <;> omega) (by omega)).symm
  | exact (err_ok (by assumption) (by assumption) (by (unfold sizeZ; repeat' split) <;> omega) (by omega) (by omega)).symm
  | exact (err_arg (by assumption) (by assumption) (by (unfold sizeZ; repeat' split) <;> omega) (by omega) (by omega)).symm)
theorem size_lim (sh a b : Int) : 0 ≤ sizeZ sh a b ∧ sizeZ sh a b ≤ 24 := by
 unfold sizeZ
 repeat' split
 all_goals omega
theorem s41 (nm : List UInt8) (sh a b : Int) (o : D) (x y : Int) (h : o.len ≤ 100000) : symFun (ctx hp1 (hp41 o (sizeZ sh a b))) 4 41 [.agg [.str nm, .int .u8 sh, .int .i64 a, .int .i64 b, .dat 37 o, .int .i64 x, .int .i64 y]] (.int .i64 (errZ nm sh a b o x y)) := by
 rw [vc41]
 have hsz := size_lim sh a b
 have e : ∀ i, (el o i).asInt = atI o i := fun _ => rfl
 simp only [imp_false, Classical.not_not, true_and, and_true, e]
 refine ⟨fun hn => (err_name hn).symm, fun hn => ⟨fun hs => (err_shape hn hs).symm, fun hs => ⟨⟨0, ⟨by omega, fun i hi => by omega⟩, rfl⟩, fun k ⟨hk, hinv⟩ => ⟨by unfold LIM; omega, fun hlt => ?_, fun hge => ?_⟩⟩⟩⟩
 ·have no : ¬ (0 ≤ atI o k ∧ atI o k < sizeZ sh a b ∧ (0 < k → atI o (k - 1) < atI o k)) → 11 = errZ nm sh a b o x y := fun hh => (err_open (n := sizeZ sh a b) (fun hr => hh (hr.out k (by omega))) hn rfl hs).symm
  have e2 : ((k : Int) - 1).toNat = k - 1 := by omega
  refine ⟨by omega, hlt, by omega, fun h1 => ⟨fun h2 => ⟨fun h3 => ⟨by omega, by omega, by omega, by omega, by omega, fun h4 => no ?_, fun h4 => ⟨by omega, k + 1, ⟨by omega, fun i hi => ?_⟩, by omega, by omega⟩⟩, fun h3 => ⟨by omega, k + 1, ⟨by omega, fun i hi => ?_⟩, by omega, by omega⟩⟩, fun h2 => no (by omega)⟩, fun h1 => no (by omega)⟩
  ·rw [e2] at h4
   intro hh
   have := hh.2.2 (by omega)
   omega
  ·rw [e2] at h4
   by_cases e : i = k
   ·subst e; exact ⟨h1, by omega, fun _ => by omega⟩
   ·exact hinv i (by omega)
  ·by_cases e : i = k
   ·subst e; exact ⟨h1, by omega, fun _ => by omega⟩
   ·exact hinv i (by omega)
 ·have hr : risingP o (sizeZ sh a b) := ⟨fun i hi => hinv i (by omega)⟩
  repeat' (first | refine And.intro ?_ ?_ | intro _)
  all_goals (first | exact (err_ok hr hn rfl hs (by omega)).symm | exact (err_arg hr hn rfl hs (by omega)).symm)
theorem s35 (n1 : List UInt8) (s1 a1 b1 : Int) (o1 : D) (x1 y1 : Int) (n2 : List UInt8) (s2 a2 b2 : Int) (o2 : D) (x2 y2 : Int) (h : o1.len ≤ 100000) : symFun (ctx hp1 hpAnn) 4 35 [.agg [.str n1, .int .u8 s1, .int .i64 a1, .int .i64 b1, .dat 37 o1, .int .i64 x1, .int .i64 y1], .agg [.str n2, .int .u8 s2, .int .i64 a2, .int .i64 b2, .dat 37 o2, .int .i64 x2, .int .i64 y2]] (.prop (n1 = n2 ∧ s1 = s2 ∧ a1 = a2 ∧ b1 = b2 ∧ x1 = x2 ∧ y1 = y2 ∧ eqD o1 o2)) := by
 rw [vc35]
 repeat' (first | refine And.intro ?_ ?_ | intro _)
 all_goals simp_all
theorem s10 (a b : D) (h : smallD a) : symFun (ctx hp2 hpAnn) 5 10 [.dat 25 a, .dat 25 b] (.prop (sameAll a b)) := by
 have hlen := h.out.1
 rw [vc10]
 simp only [imp_false, Classical.not_not, true_and, and_true]
 refine ⟨fun hne => ⟨fun h => by simp at h, fun h => absurd (by rw [h.out.1]) hne⟩, fun heq => ⟨⟨0, ⟨by omega, fun i hi => by omega⟩, rfl⟩, fun x ⟨hx, hinv⟩ => ⟨by unfold LIM; omega, fun hlt => ⟨by omega, hlt, by omega, by omega, h.out.2 x (by omega), fun hn => ⟨fun h => by simp at h, fun h => absurd (h.out.2 x (by omega)).out hn⟩, fun hs => ⟨by omega, x + 1, ⟨by omega, fun i hi => ?_⟩, by omega, by omega⟩⟩, fun hge => ⟨fun _ => ⟨by omega, fun i hi => hinv i (by omega)⟩, fun _ => by first | rfl | trivial⟩⟩⟩⟩
 by_cases e : i = x
 ·subst e; exact ⟨hs⟩
 ·exact hinv i (by omega)
theorem s21 (p q : D) (h : p.len ≤ 100000) : symFun (ctx (fun _ => none) hpAnn) 3 21 [.dat 37 p, .dat 37 q] (.prop (eqD p q)) := by
 rw [vc21]
 have e : ∀ (d : D) i, (el d i).asInt = atI d i := fun _ _ => rfl
 simp only [imp_false, Classical.not_not, true_and, and_true, e]
 refine ⟨fun hne => ⟨fun h => by simp at h, fun h => absurd (by rw [h.1]) hne⟩, fun heq => ⟨⟨0, ⟨by omega, fun i hi => by omega⟩, rfl⟩, fun x ⟨hx, hinv⟩ => ⟨by unfold LIM; omega, fun hlt => ⟨by omega, hlt, by omega, by omega, fun hn => ⟨fun h => by simp at h, fun h => absurd (h.2 x (by omega)) hn⟩, fun hs => ⟨by omega, x + 1, ⟨by omega, fun i hi => ?_⟩, by omega, by omega⟩⟩, fun hge => ⟨fun _ => ⟨by omega, fun i hi => hinv i (by omega)⟩, fun _ => by first | rfl | trivial⟩⟩⟩⟩
 by_cases e : i = x
 ·subst e; exact hs
 ·exact hinv i (by omega)
end Go.Ev

end
