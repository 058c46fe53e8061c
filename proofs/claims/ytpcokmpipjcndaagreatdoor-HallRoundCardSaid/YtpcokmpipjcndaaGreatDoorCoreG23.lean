/-
  Part of the engine that the claim is proved with: it states nothing of the document by itself.
-/
import Derived.Test.YtpcokmpipjcndaaGreatDoorProg
import Derived.Test.YtpcokmpipjcndaaGreatDoorCoreG0
import Derived.Test.YtpcokmpipjcndaaGreatDoorCoreSeC
import Derived.Lib.SlicesCompact
import Derived.Test.YtpcokmpipjcndaaGreatDoorCoreStr
import Derived.Test.YtpcokmpipjcndaaGreatDoorCoreSorted

section
open Go.Proofs
namespace Go.Ev
def decF : Nat → Nat → List UInt8
 | 0, _ => []
 | f + 1, n => cond (Nat.ble n 9) [UInt8.ofNat (48 + n)] (decF f (n / 10) ++ [UInt8.ofNat (48 + n % 10)])
def decB (n : Int) : List UInt8 := decF 5 n.toNat
noncomputable def sortF : RowF := ⟨fun zs => zs.mergeSort fun x y => decide (x ≤ y), fun _ => none⟩
noncomputable def compactF : RowF := ⟨fun zs => Lib.compact zs ++ List.replicate (zs.length - (Lib.compact zs).length) 0, fun zs => some (Lib.compact zs).length⟩
noncomputable def rowsF : FuncId → Option RowF := fun g => cond (Nat.beq g 63) (some sortF) (cond (Nat.beq g 64) (some compactF) none)
noncomputable def isTab (g : FuncId) : Bool := Nat.beq g 29
noncomputable def tabM : FuncId → List Value → Option Value := fun g xs =>
 match xs with
 | [.int .i64 (.ofNat n)] => cond (isTab g && Nat.ble n 1000) (some (.string ⟨⟨decF 5 n⟩⟩)) none
 | _ => none
noncomputable def conDec : Con := fun
 | [.int .i64 n] => some (0 ≤ n ∧ n ≤ 1000, .str (decB n))
 | [.val (.int .i64 n)] => some (0 ≤ n ∧ n ≤ 1000, .str (decB n))
 | _ => none
noncomputable def tabS : FuncId → Option Con := fun g => cond (isTab g) (some conDec) none
theorem tabS_ok (g : FuncId) : TabOK Tryz.prog (tabM g) (tabS g) := by
 unfold TabOK tabS
 cases hg : isTab g with
 | false =>
  intro xs
  unfold tabM
  split
  ·rw [hg]; rfl
  ·rfl
 | true =>
  intro us p r hc hp σ ν xs hl
  have key : ∀ n : Int, 0 ≤ n → n ≤ 1000 → tabM g [.int .i64 n] = some (.string ⟨⟨decB n⟩⟩) := fun n h0 h1 => by
   obtain ⟨m, rfl⟩ := Int.eq_ofNat_of_zero_le h0
   show cond (isTab g && Nat.ble m 1000) _ none = _
   rw [hg, Nat.ble_eq_true_of_le (by omega)]
   rfl
  unfold conDec at hc
  split at hc
  ·rename_i n
   simp only [Option.some.injEq, Prod.mk.injEq] at hc
   obtain ⟨rfl, rfl⟩ := hc
   obtain ⟨v', rfl⟩ : ∃ v', xs = [v'] := by
    have := hl.1
    match xs, this with
    | [a], _ => exact ⟨a, rfl⟩
   have hv := hl.2 0 _ _ rfl rfl
   cases hv
   exact ⟨rfl, _, key n hp.1 hp.2, .str⟩
  ·rename_i n
   simp only [Option.some.injEq, Prod.mk.injEq] at hc
   obtain ⟨rfl, rfl⟩ := hc
   obtain ⟨v', rfl⟩ : ∃ v', xs = [v'] := by
    have := hl.1
    match xs, this with
    | [a], _ => exact ⟨a, rfl⟩
   have hv := hl.2 0 _ _ rfl rfl
   cases hv
   exact ⟨rfl, _, key n hp.1 hp.2, .str⟩
  ·cases hc
end Go.Ev

end

section
open Go.Proofs
namespace Go.Ev
def atI (d : D) (k : Nat) : Int := (nthD d.asList k).asInt
def eqD (a b : D) : Prop := a.len = b.len ∧ ∀ i, i < a.len → atI a i = atI b i
def el (l : D) (i : Nat) : D := nthD l.asList i
def tName (d : D) : List UInt8 := (d.fld 0).asStr
def tShape (d : D) : Int := (d.fld 1).asInt
def tA (d : D) : Int := (d.fld 2).asInt
def tB (d : D) : Int := (d.fld 3).asInt
def tOpen (d : D) : D := d.fld 4
def tX (d : D) : Int := (d.fld 5).asInt
def tY (d : D) : Int := (d.fld 6).asInt
structure nameP (s : List UInt8) : Prop where
 out : 1 ≤ s.length ∧ s.length ≤ 12 ∧ ∀ i, i < s.length → 97 ≤ byteAt s i ∧ byteAt s i ≤ 122
open Classical in
noncomputable def sizeZ (sh a b : Int) : Int :=
 if sh = 1 ∧ (1 ≤ a ∧ a ≤ 24) ∧ b = 0 then a
 else if sh = 2 ∧ (1 ≤ a ∧ a ≤ 11) ∧ 0 ≤ b ∧ b ≤ 2 then 2 * a + b
 else if sh = 3 ∧ (1 ≤ a ∧ a ≤ 8) ∧ 1 ≤ b ∧ b ≤ 8 then a + 2 * b
 else if sh = 4 ∧ (1 ≤ a ∧ a ≤ 24) ∧ 0 ≤ b ∧ b ≤ a then a else 0
structure risingP (o : D) (n : Int) : Prop where
 out : ∀ i, i < o.len → 0 ≤ atI o i ∧ atI o i < n ∧ (0 < i → atI o (i - 1) < atI o i)
def placeP (x : Int) : Prop := 0 ≤ x ∧ x ≤ 1000
open Classical in
noncomputable def errZ (nm : List UInt8) (sh a b : Int) (o : D) (x y : Int) : Int :=
 if ¬ nameP nm then 4 else if sizeZ sh a b = 0 then 10 else if ¬ risingP o (sizeZ sh a b) then 11 else if ¬ (placeP x ∧ placeP y) then 2 else 0
noncomputable def errT (d : D) : Int := errZ (tName d) (tShape d) (tA d) (tB d) (tOpen d) (tX d) (tY d)
noncomputable def sizeT' (d : D) : Int := sizeZ (tShape d) (tA d) (tB d)
open Classical in
noncomputable def idxZ (l : D) (s : List UInt8) : Nat → Nat → Int
 | 0, _ => -1
 | f + 1, i => if tName (el l i) = s then i else idxZ l s f (i + 1)
structure twiceP (l : D) (i : Nat) : Prop where
 out : ∃ k, k < i ∧ tName (el l k) = tName (el l i)
open Classical in
noncomputable def err1 (l : D) (i : Nat) : Int := if errT (el l i) ≠ 0 then errT (el l i) else if twiceP l i then 5 else 0
open Classical in
noncomputable def scanZ (l : D) : Nat → Nat → Int × Int
 | 0, _ => (0, 0)
 | f + 1, i => if err1 l i ≠ 0 then ((i : Nat), err1 l i) else scanZ l f (i + 1)
open Classical in
noncomputable def badZ (l : D) : Int × Int := if 16 < l.len then (0, 7) else scanZ l l.len 0
def listD (l : List D) : D := match l with | [] => .nil | l => .list l
structure sameT (a b : D) : Prop where
 out : tName a = tName b ∧ tShape a = tShape b ∧ tA a = tA b ∧ tB a = tB b ∧ tX a = tX b ∧ tY a = tY b ∧ eqD (tOpen a) (tOpen b)
structure sameAll (a b : D) : Prop where
 out : a.len = b.len ∧ ∀ i, i < a.len → sameT (el a i) (el b i)
structure smallD (l : D) : Prop where
 out : l.len ≤ 100 ∧ ∀ i, i < l.len → (tOpen (el l i)).len ≤ 100000
def sAt (l : D) (i : Nat) : List UInt8 := (nthD l.asList i).asStr
def strsD (l : List (List UInt8)) : List D := l.map D.str
def pAt (W : List (List UInt8)) (j : Nat) : List UInt8 := (W[j]?).getD []
def wrd (s : List UInt8) (j : Nat) : List UInt8 := pAt (piecesOf 32 s) j
def tblW : List UInt8 := [116, 97, 98, 108, 101]
def w1B : List UInt8 := [114, 111, 117, 110, 100]
def w2B : List UInt8 := [108, 111, 110, 103]
def w3B : List UInt8 := [104, 111, 114, 115, 101, 115, 104, 111, 101]
def w4B : List UInt8 := [114, 111, 119]
def shapeZ (w : List UInt8) : Int := if w = w1B then 1 else if w = w2B then 2 else if w = w3B then 3 else if w = w4B then 4 else 0
def shapeW (k : Int) : List UInt8 := if k = 1 then w1B else if k = 2 then w2B else if k = 3 then w3B else w4B
def shpN (w : List UInt8) (k : Nat) : Int := if shapeZ w < k then shapeZ w else 0
structure numP (s : List UInt8) : Prop where
 out : 1 ≤ s.length ∧ s.length ≤ 9 ∧ (1 < s.length → byteAt s 0 ≠ 48) ∧ ∀ i, i < s.length → 48 ≤ byteAt s i ∧ byteAt s i ≤ 57
def numV (s : List UInt8) : Nat → Int
 | 0 => 0
 | n + 1 => 10 * numV s n + (byteAt s n - 48)
structure digsP (s : List UInt8) : Prop where
 out : 1 ≤ s.length ∧ s.length ≤ 9 ∧ ∀ i, i < s.length → 48 ≤ byteAt s i ∧ byteAt s i ≤ 57
open Classical in
noncomputable def numZ (s : List UInt8) : Int := if digsP s then numV s s.length else 0
open Classical in
noncomputable def pI (p : Prop) (n : Int) : Int := if p then n else 0
structure okW (s : List UInt8) : Prop where
 out : ∀ w, w ∈ piecesOf 32 s → w ≠ []
structure numsP (l : D) : Prop where
 out : ∀ i, i < l.len → numP (sAt l i)
structure lineP (s : List UInt8) : Prop where
 out : 7 ≤ (piecesOf 32 s).length ∧ wrd s 0 = tblW ∧ wrd s 1 ≠ [] ∧ shapeZ (wrd s 2) ≠ 0 ∧ ∀ j, 3 ≤ j → j < (piecesOf 32 s).length → numP (wrd s j)
structure headP (s : List UInt8) : Prop where
 out : okW s ∧ 7 ≤ (piecesOf 32 s).length ∧ wrd s 0 = tblW
noncomputable def numsL (s : List UInt8) : List D := ((piecesOf 32 s).drop 3).map fun w => .int (numZ w)
noncomputable def restD (s : List UInt8) : D := listD ((numsL s).drop 4)
noncomputable def nAt (s : List UInt8) (j : Nat) : Int := numZ (wrd s (3 + j))
noncomputable def tabD (s : List UInt8) : D := .sct [.str (wrd s 1), .int (shapeZ (wrd s 2)), .int (nAt s 0), .int (nAt s 1), restD s, .int (nAt s 2), .int (nAt s 3)]
open Classical in
noncomputable def pS (p : Prop) (s : List UInt8) : List UInt8 := if p then s else []
open Classical in
noncomputable def pD (p : Prop) (d : D) : D := if p then d else .nil
def cutA (s : List UInt8) : List UInt8 := if 0 ≤ cutI s 10 then s.take (cutI s 10).toNat else s
def cutB (s : List UInt8) : List UInt8 := if 0 ≤ cutI s 10 then s.drop ((cutI s 10).toNat + 1) else []
def lastE (s : List UInt8) : Prop := pAt (piecesOf 10 s) (s.count 10) = []
open Classical in
noncomputable def linesL (s : List UInt8) : List (List UInt8) := if lastE s then (piecesOf 10 s).take (s.count 10) else piecesOf 10 s
noncomputable def lnAt (s : List UInt8) (k : Nat) : List UInt8 := pAt (piecesOf 10 s) k
noncomputable def tabsL (s : List UInt8) (n : Nat) : List D := (List.range n).map fun k => tabD (lnAt s k)
noncomputable def nLines (s : List UInt8) : Nat := (linesL s).length
structure twiceN (l : D) (nm : List UInt8) : Prop where
 out : ∃ k, k < l.len ∧ tName (el l k) = nm
open Classical in
noncomputable def nextZ (l : D) (nm : List UInt8) (sh a b : Int) (o : D) (x y : Int) : Int := if errZ nm sh a b o x y ≠ 0 then errZ nm sh a b o x y else if twiceN l nm then 5 else 0
structure formK (s : List UInt8) (k : Nat) : Prop where
 out : lineP (lnAt s k) ∧ (k < s.count 10)
open Classical in
noncomputable def errK (s : List UInt8) (k : Nat) : Int :=
 if ¬ formK s k then 3 else if errT (tabD (lnAt s k)) ≠ 0 then errT (tabD (lnAt s k)) else if twiceN (.list (tabsL s k)) (wrd (lnAt s k) 1) then 5 else if k = 16 then 7 else 0
open Classical in
noncomputable def scanP (s : List UInt8) : Nat → Nat → Int × Int
 | 0, _ => (0, 0)
 | f + 1, k => if errK s k ≠ 0 then ((k : Nat), errK s k) else scanP s f (k + 1)
noncomputable def endP (s : List UInt8) : Int × Int := scanP s (nLines s) 0
open Classical in
noncomputable def parD (s : List UInt8) : D := if 65536 < s.length then .nil else if (endP s).2 ≠ 0 then .nil else listD (tabsL s (nLines s))
open Classical in
noncomputable def parL (s : List UInt8) : Int := if 65536 < s.length then 0 else (endP s).1
open Classical in
noncomputable def parE (s : List UInt8) : Int := if 65536 < s.length then 7 else (endP s).2
noncomputable def isNl (b : ByteArray) : Bool := b.data.toList == [10]
noncomputable def isSp (b : ByteArray) : Bool := b.data.toList == [32]
noncomputable def con43 : Con := fun | [.dat 37 a, .dat 37 b] => some (a.len ≤ 100000, .prop (eqD a b)) | _ => none
noncomputable def con126 : Con := fun | [.str s] => some (True, .prop (nameP s)) | _ => none
noncomputable def con127 : Con := fun | [.dat 37 o, .int .i64 n] => some (o.len ≤ 100000, .prop (risingP o n)) | _ => none
noncomputable def con63 : Con := fun | [.agg [.str nm, .int .u8 sh, .int .i64 a, .int .i64 b, .dat 37 o, .int .i64 x, .int .i64 y]] => some (o.len ≤ 100000, .int .i64 (errZ nm sh a b o x y)) | _ => none
noncomputable def con28 : Con := fun | [.agg [.str _, .int .u8 sh, .int .i64 a, .int .i64 b, .dat 37 _, .int .i64 _, .int .i64 _]] => some (True, .int .i64 (sizeZ sh a b)) | _ => none
noncomputable def con114 : Con := fun | [.dat 25 l, .str s] => some (l.len ≤ 100, .int .i64 (idxZ l s l.len 0)) | _ => none
noncomputable def con79 : Con := fun
 | [.agg [.str n1, .int .u8 s1, .int .i64 a1, .int .i64 b1, .dat 37 o1, .int .i64 x1, .int .i64 y1], .agg [.str n2, .int .u8 s2, .int .i64 a2, .int .i64 b2, .dat 37 o2, .int .i64 x2, .int .i64 y2]] => some (o1.len ≤ 100000, .prop (n1 = n2 ∧ s1 = s2 ∧ a1 = a2 ∧ b1 = b2 ∧ x1 = x2 ∧ y1 = y2 ∧ eqD o1 o2))
 | _ => none
noncomputable def con60 : Con := fun | [.dat 25 a, .dat 25 b] => some (smallD a, .prop (sameAll a b)) | _ => none
noncomputable def con33 : Con := fun | [.dat 25 l, .agg [.str nm, .int .u8 sh, .int .i64 a, .int .i64 b, .dat 37 o, .int .i64 x, .int .i64 y]] => some (l.len ≤ 100 ∧ o.len ≤ 100000, .int .i64 (nextZ l nm sh a b o x y)) | _ => none
noncomputable def con31 : Con := fun | [.str s, .val (.string b)] => cond (isNl b) (some (s.length ≤ 100000, .tup [.str (cutA s), .str (cutB s), .prop (0 ≤ cutI s 10)])) none | _ => none
noncomputable def con70 : Con := fun | [.str s, .val (.string b)] => cond (isSp b) (some (s.length ≤ 100000, .dat 82 (.list (strsD (piecesOf 32 s))))) none | _ => none
noncomputable def con73 : Con := fun | [.str s] => some (s.length ≤ 100000, .str s) | _ => none
noncomputable def con100 : Con := fun | [.str s] => some (True, .tup [.int .i64 (pI (numP s) (numZ s)), .prop (numP s)]) | _ => none
noncomputable def con78 : Con := fun | [.str s] => some (True, .tup [.int .i64 (numZ s), .prop (numP s)]) | _ => none
noncomputable def con72 : Con := fun | [.dat 82 l] => some (l.len ≤ 100000, .tup [.dat 37 (pD (numsP l) (.list (l.asList.map fun d => .int (numZ d.asStr)))), .prop (numsP l)]) | _ => none
noncomputable def con71 : Con := fun | [.str w] => some (True, .tup [.int .u8 (shapeZ w), .prop (shapeZ w ≠ 0)]) | _ => none
noncomputable def con77 : Con := fun | [.int .u8 k] => some (True, .str (shapeW k)) | _ => none
noncomputable def rowV (p : Prop) (s : List UInt8) : V := .agg [.str (pS p (wrd s 1)), .int .u8 (pI p (shapeZ (wrd s 2))), .int .i64 (pI p (nAt s 0)), .int .i64 (pI p (nAt s 1)), .dat 37 (pD p (restD s)), .int .i64 (pI p (nAt s 2)), .int .i64 (pI p (nAt s 3))]
noncomputable def con32 : Con := fun | [.str s] => some (s.length ≤ 100000, .tup [rowV (lineP s) s, .prop (lineP s)]) | _ => none
noncomputable def con40 : Con := fun | [.str s] => some (s.length ≤ 100000, .tup [rowV (headP s) s, .prop (lineP s)]) | _ => none
noncomputable def con39 : Con := fun | [.str s] => some (s.length ≤ 100000, .tup [.dat 82 (listD (strsD (linesL s))), .prop (¬ lastE s)]) | _ => none
noncomputable def con76 : Con := fun | [.str s] => some (s.length ≤ 100000, .tup [.dat 82 (pD (okW s) (.list (strsD (piecesOf 32 s)))), .prop (okW s)]) | _ => none
noncomputable def con9 : Con := fun | [.str s] => some (True, .tup [.dat 25 (parD s), .int .i64 (parL s), .int .i64 (parE s)]) | _ => none
noncomputable def con5 : Con := fun | [.str s] => some (s.length ≤ 4000 ∨ 65536 < s.length, .prop True) | _ => none
noncomputable def hp1 : FuncId → Option Con
 | 21 => some con43
 | 87 => some con126
 | 80 => some con126
 | 88 => some con127
 | 79 => some con28
 | 74 => some con114
 | 73 => some con73
 | 100 => some con100
 | 78 => some con78
 | 71 => some con71
 | 77 => some con77
 | 76 => some con76
 | 39 => some con39
 | 31 => some con31
 | 70 => some con70
 | _ => none
noncomputable def hp2 : FuncId → Option Con
 | 57 => some con63
 | 41 => some con63
 | 35 => some con79
 | 72 => some con72
 | 40 => some con40
 | g => hp1 g
noncomputable def hp3 : FuncId → Option Con
 | 33 => some con33
 | 32 => some con32
 | 10 => some con60
 | g => hp2 g
noncomputable def hp4 : FuncId → Option Con
 | 9 => some con9
 | 12 => some con9
 | g => hp3 g
noncomputable def hp5 : FuncId → Option Con
 | 5 => some con5
 | g => hp4 g
noncomputable def lastZ (o : D) (k : Nat) : Int := match k with | 0 => -1 | k + 1 => atI o k
noncomputable def hpAnn : FuncId → Nat → Option Ann
 | 87, 4 => some { τ := Nat, slots := fun _ _ x => [(14, .int .i64 x)], blks := fun _ _ _ => [], inv := fun S _ x => x ≤ (slS S 0).length ∧ ∀ i, i < x → 97 ≤ byteAt (slS S 0) i ∧ byteAt (slS S 0) i ≤ 122, meas := fun S _ x => (slS S 0).length - x }
 | 80, 4 => some { τ := Nat, slots := fun _ _ x => [(3, .int .i64 x)], blks := fun _ _ _ => [], inv := fun S _ x => x ≤ (slS S 0).length ∧ ∀ i, i < x → 97 ≤ byteAt (slS S 0) i ∧ byteAt (slS S 0) i ≤ 122, meas := fun S _ x => (slS S 0).length - x }
 | 88, 3 => some { τ := Nat, slots := fun S _ x => [(10, .int .i64 x), (5, .int .i64 (lastZ (slD S 0) x))], blks := fun _ _ _ => [], inv := fun S _ x => x ≤ (slD S 0).len ∧ ∀ i, i < x → 0 ≤ atI (slD S 0) i ∧ atI (slD S 0) i < slI S 1 ∧ (0 < i → atI (slD S 0) (i - 1) < atI (slD S 0) i), meas := fun S _ x => (slD S 0).len - x }
 | 74, 2 => some { τ := Nat, slots := fun _ _ x => [(9, .int .i64 x)], blks := fun _ _ _ => [], inv := fun S _ x => x ≤ (slD S 0).len ∧ idxZ (slD S 0) (slS S 1) ((slD S 0).len - x) x = idxZ (slD S 0) (slS S 1) (slD S 0).len 0, meas := fun S _ x => (slD S 0).len - x }
 | 34, 4 => some { τ := Nat, slots := fun _ _ x => [(17, .int .i64 x)], blks := fun _ _ _ => [], inv := fun S _ x => x ≤ (slD S 0).len ∧ ∀ i, i < x → sameT (el (slD S 0) i) (el (slD S 1) i), meas := fun S _ x => (slD S 0).len - x }
 | 21, 4 => some { τ := Nat, slots := fun _ _ x => [(13, .int .i64 x)], blks := fun _ _ _ => [], inv := fun S _ x => x ≤ (slD S 0).len ∧ ∀ i, i < x → atI (slD S 0) i = atI (slD S 1) i, meas := fun S _ x => (slD S 0).len - x }
 | 99, 11 => some { τ := Nat × List UInt8, slots := fun _ _ x => [(10, .int .i64 x.1), (0, .str x.2)],
                     blks := fun S _ x => [(0, .arr 9 (strsD ((piecesOf 32 (slS S 0)).take x.1) ++ List.replicate ((slS S 0).count 32 + 1 - x.1) (.str [])))],
                     inv := fun S _ x => x.1 ≤ (slS S 0).count 32 ∧ (piecesOf 32 (slS S 0)).drop x.1 = piecesOf 32 x.2 ∧ x.2.length ≤ (slS S 0).length, meas := fun S _ x => (slS S 0).count 32 - x.1 }
 | 100, 5 => some { τ := Nat, slots := fun S _ x => [(26, .int .i64 x), (4, .int .i64 (numV (slS S 0) x))], blks := fun _ _ _ => [], inv := fun S _ x => x ≤ (slS S 0).length ∧ ∀ i, i < x → 48 ≤ byteAt (slS S 0) i ∧ byteAt (slS S 0) i ≤ 57, meas := fun S _ x => (slS S 0).length - x }
 | 78, 5 => some { τ := Nat, slots := fun S _ x => [(5, .int .i64 x), (4, .int .i64 (numV (slS S 0) x))], blks := fun _ _ _ => [], inv := fun S _ x => x ≤ (slS S 0).length ∧ ∀ i, i < x → 48 ≤ byteAt (slS S 0) i ∧ byteAt (slS S 0) i ≤ 57, meas := fun S _ x => (slS S 0).length - x }
 | 72, 3 => some { τ := Nat, slots := fun _ _ x => [(14, .int .i64 x)], blks := fun S _ x => [(0, .arr 3 (((slD S 0).asList.take x).map (fun d => .int (numZ d.asStr)) ++ List.replicate ((slD S 0).len - x) (.int 0)))],
                   inv := fun S _ x => x ≤ (slD S 0).len ∧ ∀ i, i < x → numP (sAt (slD S 0) i), meas := fun S _ x => (slD S 0).len - x }
 | 39, 4 => some { hs := 2, τ := Nat × Nat × Nat, slots := fun S i x => match i with | 0 => [(6, .int .i64 x.1), (5, .int .i64 x.2.1), (4, .val (.slice none 0 0))] | _ => [(6, .int .i64 x.1), (5, .int .i64 x.2.1), (4, .slc 60 (.lit 0) (.sym x.2.2) none)],
                   blks := fun S i x => match i with | 0 => [] | _ => [(60, .arr 9 (strsD ((piecesOf 10 (slS S 0)).take x.2.2)))],
                   inv := fun S i x => (x.1 ≤ (slS S 0).length ∧ x.2.1 ≤ x.1 ∧ x.2.2 ≤ (slS S 0).count 10 ∧ (∀ j, x.2.1 ≤ j → j < x.1 → byteAt (slS S 0) j ≠ 10) ∧ (piecesOf 10 (slS S 0)).drop x.2.2 = piecesOf 10 ((slS S 0).drop x.2.1)) ∧ match i with | 0 => x.2.2 = 0 | _ => 0 < x.2.2,
                   meas := fun S _ x => (slS S 0).length - x.1 }
 | 76, 4 => some { hs := 2, τ := Nat × Nat × Nat, slots := fun S i x => match i with | 0 => [(6, .int .i64 x.1), (5, .str (((slS S 0).take x.1).drop x.2.1)), (4, .val (.slice none 0 0))] | _ => [(6, .int .i64 x.1), (5, .str (((slS S 0).take x.1).drop x.2.1)), (4, .slc 60 (.lit 0) (.sym x.2.2) none)],
                   blks := fun S i x => match i with | 0 => [] | _ => [(60, .arr 9 (strsD ((piecesOf 32 (slS S 0)).take x.2.2)))],
                   inv := fun S i x => ((x.1 ≤ (slS S 0).length ∧ x.2.1 ≤ x.1 ∧ x.2.2 ≤ (slS S 0).count 32 ∧ (∀ j, x.2.1 ≤ j → j < x.1 → byteAt (slS S 0) j ≠ 32) ∧ (piecesOf 32 (slS S 0)).drop x.2.2 = piecesOf 32 ((slS S 0).drop x.2.1) ∧ ∀ w, w ∈ (piecesOf 32 (slS S 0)).take x.2.2 → w ≠ []) ∨
                    (x.1 = (slS S 0).length + 1 ∧ x.2.1 = x.1 ∧ x.2.2 = (slS S 0).count 32 + 1 ∧ okW (slS S 0))) ∧ match i with | 0 => x.2.2 = 0 | _ => 0 < x.2.2,
                   meas := fun S _ x => (slS S 0).length + 1 - x.1 }
 | 40, 6 => some { τ := Nat, slots := fun _ _ k => [(7, .int .i64 k)], blks := fun S _ k => [(1, .box 39 [.str (wrd (slS S 0) 1), .int .u8 (shpN (wrd (slS S 0) 2) k), .int .i64 0, .int .i64 0, .val (.slice none 0 0), .int .i64 0, .int .i64 0])],
                   inv := fun _ _ k => 1 ≤ k ∧ k ≤ 5, meas := fun _ _ k => 5 - k }
 | 40, 12 => some { hs := 2, τ := Nat × Prop, slots := fun S i x => match i with | 0 => [(9, .int .i64 3), (5, .prop x.2), (8, .val (.slice none 0 0))] | _ => [(9, .int .i64 (3 + x.1 : Nat)), (5, .prop x.2), (8, .slc 60 (.lit 0) (.sym x.1) none)],
                    blks := fun S i x => match i with | 0 => [] | _ => [(60, .arr 3 ((numsL (slS S 0)).take x.1))],
                    inv := fun S i x => (x.2 ↔ ∀ j, 3 ≤ j → j < 3 + x.1 → numP (wrd (slS S 0) j)) ∧ 3 + x.1 ≤ (piecesOf 32 (slS S 0)).length ∧ match i with | 0 => x.1 = 0 | _ => 0 < x.1, meas := fun S _ x => (piecesOf 32 (slS S 0)).length - x.1 }
 | 9, 5 => some { hs := 2, τ := Nat × List UInt8, slots := fun S i x => match i with | 0 => [(0, .str x.2), (6, .int .i64 x.1), (5, .val (.slice none 0 0)), (7, .int .i64 0)] | _ => [(0, .str x.2), (6, .int .i64 x.1), (5, .slc 60 (.lit 0) (.sym x.1) none), (7, .int .i64 0)],
                      blks := fun S i x => match i with | 0 => [] | _ => [(60, .arr 39 (tabsL (slS S 0) x.1))],
                      inv := fun S i x => (x.1 ≤ (slS S 0).count 10 ∧ x.1 ≤ 16 ∧ (piecesOf 10 (slS S 0)).drop x.1 = piecesOf 10 x.2 ∧ x.2.length ≤ (slS S 0).length ∧ ∀ k, k < x.1 → errK (slS S 0) k = 0) ∧ match i with | 0 => x.1 = 0 | _ => 0 < x.1, meas := fun S _ x => (slS S 0).count 10 + 1 - x.1 }
 | 12, 6 => some { hs := 2, τ := Nat, slots := fun S i x => match i with | 0 => [(8, .int .i64 0), (7, .val (.slice none 0 0))] | _ => [(8, .int .i64 x), (7, .slc 60 (.lit 0) (.sym x) none)],
                      blks := fun S i x => match i with | 0 => [] | _ => [(60, .arr 39 (tabsL (slS S 0) x))],
                      inv := fun S i x => (x ≤ nLines (slS S 0) ∧ x ≤ 16 ∧ ∀ k, k < x → errK (slS S 0) k = 0) ∧ match i with | 0 => x = 0 | _ => 0 < x, meas := fun S _ x => nLines (slS S 0) - x }
 | 12, 15 => some { τ := Nat, slots := fun _ _ j => [(12, .int .i64 j)], blks := fun _ _ _ => [], inv := fun S _ j => j ≤ (slI S 8).toNat ∧ ∀ q, q < j → wrd (lnAt (slS S 0) q) 1 ≠ wrd (lnAt (slS S 0) (slI S 8).toNat) 1, meas := fun S _ j => (slI S 8).toNat - j }
 | _, _ => none
noncomputable def hp41 (o : D) (n : Int) : FuncId → Nat → Option Ann
 | 41, 7 => some { τ := Nat, slots := fun _ _ x => [(4, .int .i64 x)], blks := fun _ _ _ => [], inv := fun _ _ x => x ≤ o.len ∧ ∀ i, i < x → 0 ≤ atI o i ∧ atI o i < n ∧ (0 < i → atI o (i - 1) < atI o i), meas := fun _ _ x => o.len - x }
 | _, _ => none
noncomputable def ctx (con : FuncId → Option Con) (ann : FuncId → Nat → Option Ann) : Ctx := { P := Tryz.prog, con := con, ora := fun g => cond (Nat.beq g 6) (some (.bool true)) none, bits := 1725436586697640946858688965569256363112777243042596638790631055949823, ann := ann, tab := tabS, srt := rowsF }
end Go.Ev

end

section
open Go.Proofs
namespace Go.Ev
def cSh (d : D) : Int := (d.fld 0).asInt
def cA (d : D) : Int := (d.fld 1).asInt
def cB (d : D) : Int := (d.fld 2).asInt
def cO (d : D) : D := d.fld 3
def mSh (sh : Int) : Int := 1 + sh.tmod 4
def mA (sh a : Int) : Int := if mSh sh = 1 then 1 + a.tmod 24 else if mSh sh = 2 then 1 + a.tmod 11 else if mSh sh = 3 then 1 + a.tmod 8 else 1 + a.tmod 24
def mB (sh a b : Int) : Int := if mSh sh = 1 then 0 else if mSh sh = 2 then b.tmod 3 else if mSh sh = 3 then 1 + b.tmod 8 else b.tmod (1 + a.tmod 24 + 1)
def mN (sh a b : Int) : Int := if mSh sh = 1 then mA sh a else if mSh sh = 2 then 2 * mA sh a + mB sh a b else if mSh sh = 3 then mA sh a + 2 * mB sh a b else mA sh a
def openI (o : D) (n : Int) (x : Nat) : List Int := (List.range x).map fun i => (atI o i).tmod n
def openL (o : D) (n : Int) (x : Nat) : List D := (openI o n x).map .int
def openZ (o : D) (n : Int) : List Int := Lib.compact ((openI o n (min o.len 24)).mergeSort fun x y => decide (x ≤ y))
def openD (o : D) (n : Int) : D := listD ((openZ o n).map .int)
structure byteP (n : Int) : Prop where
 out : 0 ≤ n ∧ n < 256
structure bytesP (o : D) : Prop where
 out : ∀ i, i < o.len → 0 ≤ atI o i ∧ atI o i < 256
noncomputable def con25 : Con := fun
 | [.agg [.int .u8 sh, .int .u8 a, .int .u8 b, .dat 52 o], .str nm] => some (byteP sh ∧ byteP a ∧ byteP b ∧ bytesP o, .agg [.str nm, .int .u8 (mSh sh), .int .i64 (mA sh a), .int .i64 (mB sh a b), .dat 37 (openD o (mN sh a b)), .int .i64 0, .int .i64 0])
 | _ => none
noncomputable def annMade (nm : List UInt8) (o : D) : FuncId → Nat → Option Ann
 | 25, 17 => some { hs := 2, τ := Nat, slots := fun _ i x => match i with | 0 => [(90, .int .i64 0)] | _ => [(90, .int .i64 x)], blks := fun S i x => match i with | 0 => [] | _ => [(2, .box 39 [.str nm, .int .u8 (bkI S 2 1), .int .i64 (bkI S 2 2), .int .i64 (bkI S 2 3), .slc 40 (.lit 0) (.sym x) none, .int .i64 0, .int .i64 0]), (40, .arr 3 (openL o (slI S 6) x))], inv := fun _ i x => match i with | 0 => x = 0 | _ => 0 < x ∧ x ≤ min o.len 24, meas := fun _ _ x => 24 - x }
 | _, _ => none
end Go.Ev

end
