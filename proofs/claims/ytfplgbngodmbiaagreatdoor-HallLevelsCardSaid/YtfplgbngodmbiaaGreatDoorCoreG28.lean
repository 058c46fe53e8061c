/-
  Part of the engine that the claim is proved with: it states nothing of the document by itself.
-/
import Derived.Test.YtfplgbngodmbiaaGreatDoorProg
import Derived.Test.YtfplgbngodmbiaaGreatDoorCoreSort
import Derived.Test.YtfplgbngodmbiaaGreatDoorCoreSeC
import Derived.Test.YtfplgbngodmbiaaGreatDoorCoreSorted
import Derived.Test.YtfplgbngodmbiaaGreatDoorCoreKit
import Derived.Test.YtfplgbngodmbiaaGreatDoorCoreBfs
import Derived.Test.YtfplgbngodmbiaaGreatDoorCoreScan

section
open Go.Proofs
namespace Go.Ev
def atI (d : D) (k : Nat) : Int := (nthD d.asList k).asInt
def seenL (d : D) (k : Nat) : List D := (List.range d.len).map fun (x : Nat) => D.bool (∃ i, i < k ∧ atI d i = x)
def lastAt (d : D) (x : Nat) : Nat → Int
  | 0 => 0
  | k + 1 => if atI d k = x then k else lastAt d x k
def backL (d : D) (k : Nat) : List D := (List.range d.len).map fun (x : Nat) => D.int (lastAt d x k)
def eqD (a b : D) : Prop := a.len = b.len ∧ ∀ i, i < a.len → atI a i = atI b i
noncomputable def con43 : Con := fun | [.dat 29 a, .dat 29 b] => some (a.len ≤ 100, .prop (eqD a b)) | _ => none
noncomputable def permAnn : FuncId → Nat → Option Ann
  | 80, 2 => some { τ := Nat, slots := fun _ _ i => [(3, .int .i64 i)], blks := fun _ _ _ => [], inv := fun S _ i => i ≤ (slD S 0).len ∧ ∀ w : Nat, w < i → ∃ k, k < (slD S 0).len ∧ atI (slD S 0) k = w, meas := fun S _ i => (slD S 0).len - i }
  | 80, 6 => some { τ := Nat × Prop, slots := fun _ _ x => [(5, .int .i64 x.1), (4, .prop x.2)], blks := fun _ _ _ => [], inv := fun S _ x => x.1 ≤ (slD S 0).len ∧ (x.2 ↔ ∃ k, k < x.1 ∧ atI (slD S 0) k = slI S 3), meas := fun S _ x => (slD S 0).len - x.1 }
  | 103, 3 => some { τ := Nat, slots := fun _ _ x => [(11, .int .i64 x)], blks := fun S _ x => [(0, .arr 4 (seenL (slD S 0) x))], inv := fun S _ x => x ≤ (slD S 0).len ∧ (∀ i, i < x → 0 ≤ atI (slD S 0) i ∧ atI (slD S 0) i < (slD S 0).len) ∧ ∀ i j, i < j → j < x → atI (slD S 0) i ≠ atI (slD S 0) j, meas := fun S _ x => (slD S 0).len - x }
  | 43, 4 => some { τ := Nat, slots := fun _ _ x => [(13, .int .i64 x)], blks := fun _ _ _ => [], inv := fun S _ x => x ≤ (slD S 0).len ∧ ∀ i, i < x → atI (slD S 0) i = atI (slD S 1) i, meas := fun S _ x => (slD S 0).len - x }
  | 42, 5 => some { τ := Nat, slots := fun _ _ x => [(14, .int .i64 x)], blks := fun S _ x => [(0, .arr 3 (backL (slD S 0) x))], inv := fun S _ x => x ≤ (slD S 0).len, meas := fun S _ x => (slD S 0).len - x }
  | _, _ => none
noncomputable def ctx (con : FuncId → Option Con) (ann : FuncId → Nat → Option Ann) : Ctx := { P := Tryz.prog, con := con, ora := fun g => cond (Nat.beq g 21) (some (.bool true)) none, bits := 8148143480379123944539124198372026339899032286168269601245373172583125750031685756655763455, ann := ann, srt := rowsF, srtC := fun g => Nat.beq g 110 }
end Go.Ev

end

section
open Go.Proofs
namespace Go.Ev
def el (l : D) (i : Nat) : D := nthD l.asList i
def tName (d : D) : List UInt8 := (d.fld 0).asStr
def tShape (d : D) : Int := (d.fld 1).asInt
def tA (d : D) : Int := (d.fld 2).asInt
def tB (d : D) : Int := (d.fld 3).asInt
def tOpen (d : D) : D := d.fld 4
def tX (d : D) : Int := (d.fld 5).asInt
def tY (d : D) : Int := (d.fld 6).asInt
structure nameP (s : List UInt8) : Prop where
  out : 1 ≤ s.length ∧ s.length ≤ 12 ∧ ∀ i, i < s.length → 97 ≤ byteAt s i ∧ byteAt s i ≤ 122
open Classical in
noncomputable def sizeZ (sh a b : Int) : Int :=
  if sh = 1 ∧ (1 ≤ a ∧ a ≤ 24) ∧ b = 0 then a
  else if sh = 2 ∧ (1 ≤ a ∧ a ≤ 11) ∧ 0 ≤ b ∧ b ≤ 2 then 2 * a + b
  else if sh = 3 ∧ (1 ≤ a ∧ a ≤ 8) ∧ 1 ≤ b ∧ b ≤ 8 then a + 2 * b
  else if sh = 4 ∧ (1 ≤ a ∧ a ≤ 24) ∧ 0 ≤ b ∧ b ≤ a then a else 0
structure risingP (o : D) (n : Int) : Prop where
  out : ∀ i, i < o.len → 0 ≤ atI o i ∧ atI o i < n ∧ (0 < i → atI o (i - 1) < atI o i)
def placeP (x : Int) : Prop := 0 ≤ x ∧ x ≤ 1000
open Classical in
noncomputable def errZ (nm : List UInt8) (sh a b : Int) (o : D) (x y : Int) : Int :=
  if ¬ nameP nm then 4 else if sizeZ sh a b = 0 then 10 else if ¬ risingP o (sizeZ sh a b) then 11 else if ¬ (placeP x ∧ placeP y) then 2 else 0
noncomputable def errT (d : D) : Int := errZ (tName d) (tShape d) (tA d) (tB d) (tOpen d) (tX d) (tY d)
noncomputable def sizeT' (d : D) : Int := sizeZ (tShape d) (tA d) (tB d)
open Classical in
noncomputable def idxZ (l : D) (s : List UInt8) : Nat → Nat → Int
  | 0, _ => -1
  | f + 1, i => if tName (el l i) = s then i else idxZ l s f (i + 1)
structure twiceP (l : D) (i : Nat) : Prop where
  out : ∃ k, k < i ∧ tName (el l k) = tName (el l i)
open Classical in
noncomputable def err1 (l : D) (i : Nat) : Int := if errT (el l i) ≠ 0 then errT (el l i) else if twiceP l i then 5 else 0
open Classical in
noncomputable def scanZ (l : D) : Nat → Nat → Int × Int
  | 0, _ => (0, 0)
  | f + 1, i => if err1 l i ≠ 0 then ((i : Nat), err1 l i) else scanZ l f (i + 1)
open Classical in
noncomputable def badZ (l : D) : Int × Int := if 16 < l.len then (0, 7) else scanZ l l.len 0
noncomputable def sumZ (l : D) : Nat → Int
  | 0 => 0
  | n + 1 => sumZ l n + sizeT' (el l n)
def listD (l : List D) : D := match l with | [] => .nil | l => .list l
def seatRow (i n : Nat) : List D := (List.range n).map fun (k : Nat) => D.sct [.int (i : Int), .int (k : Int)]
noncomputable def seatsL (l : D) : Nat → List D
  | 0 => []
  | n + 1 => seatsL l n ++ seatRow n (sizeT' (el l n)).toNat
def copyT (d : D) : D := .sct [.str (tName d), .int (tShape d), .int (tA d), .int (tB d), .list (tOpen d).asList, .int (tX d), .int (tY d)]
def copyL (l : D) (n : Nat) : List D := (List.range n).map fun i => copyT (el l i)
def copyD (l : D) : D := listD (copyL l l.len)
structure sameT (a b : D) : Prop where
  out : tName a = tName b ∧ tShape a = tShape b ∧ tA a = tA b ∧ tB a = tB b ∧ tX a = tX b ∧ tY a = tY b ∧ eqD (tOpen a) (tOpen b)
structure sameAll (a b : D) : Prop where
  out : a.len = b.len ∧ ∀ i, i < a.len → sameT (el a i) (el b i)
structure fewT (d : D) : Prop where
  out : (tName d).length ≤ 40 ∧ (tOpen d).len ≤ 40
structure fewD (l : D) : Prop where
  out : l.len ≤ 20 ∧ ∀ i, i < l.len → fewT (el l i)
structure smallD (l : D) : Prop where
  out : l.len ≤ 100 ∧ ∀ i, i < l.len → (tOpen (el l i)).len ≤ 100
structure seatedD (l : D) : Prop where
  out : l.len ≤ 100 ∧ ∀ i, i < l.len → sizeT' (el l i) ≠ 0
noncomputable def con126 : Con := fun | [.str s] => some (True, .prop (nameP s)) | _ => none
noncomputable def con127 : Con := fun | [.dat 29 o, .int .i64 n] => some (o.len ≤ 100, .prop (risingP o n)) | _ => none
noncomputable def con63 : Con := fun | [.agg [.str nm, .int .u8 sh, .int .i64 a, .int .i64 b, .dat 29 o, .int .i64 x, .int .i64 y]] => some (o.len ≤ 100, .int .i64 (errZ nm sh a b o x y)) | _ => none
noncomputable def con28 : Con := fun | [.agg [.str _, .int .u8 sh, .int .i64 a, .int .i64 b, .dat 29 _, .int .i64 _, .int .i64 _]] => some (True, .int .i64 (sizeZ sh a b)) | _ => none
noncomputable def con93 : Con := fun | [.agg [.str _, .int .u8 sh, .int .i64 a, .int .i64 b, .dat 29 _, .int .i64 _, .int .i64 _]] => some (sizeZ sh a b ≠ 0, .int .i64 (sizeZ sh a b)) | _ => none
noncomputable def con114 : Con := fun | [.dat 22 l, .str s] => some (l.len ≤ 100, .int .i64 (idxZ l s l.len 0)) | _ => none
noncomputable def con62 : Con := fun | [.dat 22 l] => some (smallD l, .tup [.int .i64 (badZ l).1, .int .i64 (badZ l).2]) | _ => none
noncomputable def con92 : Con := fun | [.dat 22 l, .int .i64 n] => some (0 ≤ n ∧ n ≤ l.len ∧ seatedD l, .int .i64 (sumZ l n.toNat)) | _ => none
noncomputable def con70 : Con := fun | [.dat 22 l, .int .i64 n] => some (0 ≤ n ∧ n ≤ l.len ∧ l.len ≤ 100, .int .i64 (sumZ l n.toNat)) | _ => none
noncomputable def con69 : Con := fun | [.dat 22 l] => some (l.len ≤ 100, .dat 91 (listD (seatsL l l.len))) | _ => none
noncomputable def con66 : Con := fun | [.dat 22 l] => some (smallD l, .dat 22 (copyD l)) | _ => none
noncomputable def con79 : Con := fun
  | [.agg [.str n1, .int .u8 s1, .int .i64 a1, .int .i64 b1, .dat 29 o1, .int .i64 x1, .int .i64 y1], .agg [.str n2, .int .u8 s2, .int .i64 a2, .int .i64 b2, .dat 29 o2, .int .i64 x2, .int .i64 y2]] => some (o1.len ≤ 100, .prop (n1 = n2 ∧ s1 = s2 ∧ a1 = a2 ∧ b1 = b2 ∧ x1 = x2 ∧ y1 = y2 ∧ eqD o1 o2))
  | _ => none
noncomputable def con60 : Con := fun | [.dat 22 a, .dat 22 b] => some (smallD a, .prop (sameAll a b)) | _ => none
noncomputable def con19 : Con := fun | [.dat 22 l] => some (True, .prop (fewD l)) | _ => none
noncomputable def chk1 : FuncId → Option Con
  | 43 => some con43
  | 126 => some con126
  | 130 => some con126
  | 127 => some con127
  | 28 => some con28
  | 114 => some con114
  | _ => none
noncomputable def chk2 : FuncId → Option Con
  | 63 => some con63
  | 68 => some con63
  | 93 => some con93
  | 79 => some con79
  | g => chk1 g
noncomputable def chk3 : FuncId → Option Con
  | 62 => some con62
  | 67 => some con62
  | 92 => some con92
  | 70 => some con70
  | 69 => some con69
  | 66 => some con66
  | 60 => some con60
  | 19 => some con19
  | g => chk2 g
noncomputable def lastZ (o : D) (k : Nat) : Int := match k with | 0 => -1 | k + 1 => atI o k
noncomputable def chkAnn : FuncId → Nat → Option Ann
  | 126, 4 => some { τ := Nat, slots := fun _ _ x => [(14, .int .i64 x)], blks := fun _ _ _ => [], inv := fun S _ x => x ≤ (slS S 0).length ∧ ∀ i, i < x → 97 ≤ byteAt (slS S 0) i ∧ byteAt (slS S 0) i ≤ 122, meas := fun S _ x => (slS S 0).length - x }
  | 130, 4 => some { τ := Nat, slots := fun _ _ x => [(3, .int .i64 x)], blks := fun _ _ _ => [], inv := fun S _ x => x ≤ (slS S 0).length ∧ ∀ i, i < x → 97 ≤ byteAt (slS S 0) i ∧ byteAt (slS S 0) i ≤ 122, meas := fun S _ x => (slS S 0).length - x }
  | 127, 3 => some { τ := Nat, slots := fun S _ x => [(10, .int .i64 x), (5, .int .i64 (lastZ (slD S 0) x))], blks := fun _ _ _ => [], inv := fun S _ x => x ≤ (slD S 0).len ∧ ∀ i, i < x → 0 ≤ atI (slD S 0) i ∧ atI (slD S 0) i < slI S 1 ∧ (0 < i → atI (slD S 0) (i - 1) < atI (slD S 0) i), meas := fun S _ x => (slD S 0).len - x }
  | 114, 2 => some { τ := Nat, slots := fun _ _ x => [(9, .int .i64 x)], blks := fun _ _ _ => [], inv := fun S _ x => x ≤ (slD S 0).len ∧ idxZ (slD S 0) (slS S 1) ((slD S 0).len - x) x = idxZ (slD S 0) (slS S 1) (slD S 0).len 0, meas := fun S _ x => (slD S 0).len - x }
  | 62, 4 => some { τ := Nat, slots := fun _ _ x => [(12, .int .i64 x)], blks := fun _ _ _ => [], inv := fun S _ x => x ≤ (slD S 0).len ∧ scanZ (slD S 0) ((slD S 0).len - x) x = scanZ (slD S 0) (slD S 0).len 0, meas := fun S _ x => (slD S 0).len - x }
  | 67, 4 => some { τ := Nat, slots := fun _ _ x => [(4, .int .i64 x)], blks := fun _ _ _ => [], inv := fun S _ x => x ≤ (slD S 0).len ∧ scanZ (slD S 0) ((slD S 0).len - x) x = scanZ (slD S 0) (slD S 0).len 0, meas := fun S _ x => (slD S 0).len - x }
  | 67, 10 => some { τ := Nat, slots := fun _ _ x => [(6, .int .i64 x)], blks := fun _ _ _ => [], inv := fun S _ x => x ≤ (slI S 4).toNat ∧ ∀ k, k < x → tName (el (slD S 0) k) ≠ tName (el (slD S 0) (slI S 4).toNat), meas := fun S _ x => (slI S 4).toNat - x }
  | 92, 3 => some { τ := Nat, slots := fun S _ x => [(12, .int .i64 x), (5, .int .i64 (sumZ (slD S 0) x))], blks := fun _ _ _ => [], inv := fun S _ x => x ≤ (slI S 1).toNat, meas := fun S _ x => (slI S 1).toNat - x }
  | 70, 3 => some { τ := Nat, slots := fun S _ x => [(6, .int .i64 x), (5, .int .i64 (sumZ (slD S 0) x))], blks := fun _ _ _ => [], inv := fun S _ x => x ≤ (slI S 1).toNat, meas := fun S _ x => (slI S 1).toNat - x }
  | 121, 4 => some { τ := Nat, slots := fun _ _ x => [(17, .int .i64 x)], blks := fun _ _ _ => [], inv := fun S _ x => x ≤ (slD S 0).len ∧ ∀ i, i < x → sameT (el (slD S 0) i) (el (slD S 1) i), meas := fun S _ x => (slD S 0).len - x }
  | 129, 2 => some { τ := Nat, slots := fun _ _ x => [(8, .int .i64 x)], blks := fun _ _ _ => [], inv := fun S _ x => x ≤ (slD S 0).len ∧ ∀ i, i < x → fewT (el (slD S 0) i), meas := fun S _ x => (slD S 0).len - x }
  | 66, 3 => some { hs := 2, τ := Nat, slots := fun _ i x => match i with | 0 => [(8, .int .i64 0), (3, .val (.slice none 0 0))] | _ => [(8, .int .i64 x), (3, .slc 60 (.lit 0) (.sym x) none)],
                    blks := fun S i x => match i with | 0 => [] | _ => [(60, .arr 31 (copyL (slD S 0) x))], inv := fun S i x => match i with | 0 => x = 0 | _ => 0 < x ∧ x ≤ (slD S 0).len, meas := fun S _ x => (slD S 0).len - x }
  | 69, 3 => some { hs := 2, τ := Nat, slots := fun S i x => match i with | 0 => [(4, .int .i64 x), (3, .val (.slice none 0 0))] | _ => [(4, .int .i64 x), (3, .slc 60 (.lit 0) (.sym (seatsL (slD S 0) x).length) none)],
                    blks := fun S i x => match i with | 0 => [] | _ => [(60, .arr 151 (seatsL (slD S 0) x))], inv := fun S i x => match i with | 0 => x ≤ (slD S 0).len ∧ seatsL (slD S 0) x = [] | _ => x ≤ (slD S 0).len ∧ seatsL (slD S 0) x ≠ [], meas := fun S _ x => (slD S 0).len - x }
  | 69, 6 => some { hs := 2, τ := Nat, slots := fun S i k => match i with | 0 => [(5, .int .i64 k), (3, .val (.slice none 0 0))] | _ => [(5, .int .i64 k), (3, .slc 60 (.lit 0) (.sym (seatsL (slD S 0) (slI S 4).toNat ++ seatRow (slI S 4).toNat k).length) none)],
                    blks := fun S i k => match i with | 0 => [] | _ => [(60, .arr 151 (seatsL (slD S 0) (slI S 4).toNat ++ seatRow (slI S 4).toNat k))],
                    inv := fun S i k => k ≤ (sizeT' (el (slD S 0) (slI S 4).toNat)).toNat ∧ match i with | 0 => seatsL (slD S 0) (slI S 4).toNat ++ seatRow (slI S 4).toNat k = [] | _ => seatsL (slD S 0) (slI S 4).toNat ++ seatRow (slI S 4).toNat k ≠ [], meas := fun S _ k => (sizeT' (el (slD S 0) (slI S 4).toNat)).toNat - k }
  | 20, 7 => some { τ := Nat, slots := fun _ _ x => [(44, .int .i64 x)], blks := fun _ _ _ => [], inv := fun S _ x => x ≤ (slD S 0).len, meas := fun S _ x => (slD S 0).len - x }
  | 20, 22 => some { τ := Nat × Int × Prop, slots := fun _ _ x => [(94, .int .i64 x.1), (17, .int .i64 x.2.1), (18, .prop x.2.2)], blks := fun _ _ _ => [],
                     inv := fun S _ x => x.1 ≤ (slD S 0).len ∧ ((x.2.2 ∧ ∃ k : Nat, k < x.1 ∧ x.2.1 = k ∧ tName (el (slD S 0) k) = slS S 1) ∨ (¬ x.2.2 ∧ x.2.1 = 0 ∧ ∀ k, k < x.1 → tName (el (slD S 0) k) ≠ slS S 1)), meas := fun S _ x => (slD S 0).len - x.1 }
  | _, _ => none
noncomputable def chk68 (o : D) (n : Int) : FuncId → Nat → Option Ann
  | 68, 7 => some { τ := Nat, slots := fun _ _ x => [(4, .int .i64 x)], blks := fun _ _ _ => [], inv := fun _ _ x => x ≤ o.len ∧ ∀ i, i < x → 0 ≤ atI o i ∧ atI o i < n ∧ (0 < i → atI o (i - 1) < atI o i), meas := fun _ _ x => o.len - x }
  | _, _ => none
end Go.Ev

end

section
open Go.Proofs
namespace Go.Ev
def cSh (d : D) : Int := (d.fld 0).asInt
def cA (d : D) : Int := (d.fld 1).asInt
def cB (d : D) : Int := (d.fld 2).asInt
def cO (d : D) : D := d.fld 3
def mSh (sh : Int) : Int := 1 + sh.tmod 4
def mA (sh a : Int) : Int := if mSh sh = 1 then 1 + a.tmod 24 else if mSh sh = 2 then 1 + a.tmod 11 else if mSh sh = 3 then 1 + a.tmod 8 else 1 + a.tmod 24
def mB (sh a b : Int) : Int := if mSh sh = 1 then 0 else if mSh sh = 2 then b.tmod 3 else if mSh sh = 3 then 1 + b.tmod 8 else b.tmod (1 + a.tmod 24 + 1)
def mN (sh a b : Int) : Int := if mSh sh = 1 then mA sh a else if mSh sh = 2 then 2 * mA sh a + mB sh a b else if mSh sh = 3 then mA sh a + 2 * mB sh a b else mA sh a
def openI (o : D) (n : Int) (x : Nat) : List Int := (List.range x).map fun i => (atI o i).tmod n
def openL (o : D) (n : Int) (x : Nat) : List D := (openI o n x).map .int
def openZ (o : D) (n : Int) : List Int := Lib.compact ((openI o n (min o.len 24)).mergeSort fun x y => decide (x ≤ y))
def openD (o : D) (n : Int) : D := listD ((openZ o n).map .int)
structure byteP (n : Int) : Prop where
  out : 0 ≤ n ∧ n < 256
structure bytesP (o : D) : Prop where
  out : ∀ i, i < o.len → 0 ≤ atI o i ∧ atI o i < 256
noncomputable def con108 : Con := fun
  | [.agg [.int .u8 sh, .int .u8 a, .int .u8 b, .dat 39 o], .str nm] => some (byteP sh ∧ byteP a ∧ byteP b ∧ bytesP o, .agg [.str nm, .int .u8 (mSh sh), .int .i64 (mA sh a), .int .i64 (mB sh a b), .dat 29 (openD o (mN sh a b)), .int .i64 0, .int .i64 0])
  | _ => none
noncomputable def annMade (nm : List UInt8) (o : D) : FuncId → Nat → Option Ann
  | 108, 17 => some { hs := 2, τ := Nat, slots := fun _ i x => match i with | 0 => [(90, .int .i64 0)] | _ => [(90, .int .i64 x)], blks := fun S i x => match i with | 0 => [] | _ => [(2, .box 31 [.str nm, .int .u8 (bkI S 2 1), .int .i64 (bkI S 2 2), .int .i64 (bkI S 2 3), .slc 40 (.lit 0) (.sym x) none, .int .i64 0, .int .i64 0]), (40, .arr 3 (openL o (slI S 6) x))], inv := fun _ i x => match i with | 0 => x = 0 | _ => 0 < x ∧ x ≤ min o.len 24, meas := fun _ _ x => 24 - x }
  | _, _ => none
end Go.Ev

end

section
open Go.Proofs
namespace Go.Ev
def letter (i : Nat) : List UInt8 := [UInt8.ofNat (97 + i)]
def madeRow (c : D) (i : Nat) : D := .sct [.str (letter i), .int (mSh (cSh c)), .int (mA (cSh c) (cA c)), .int (mB (cSh c) (cA c) (cB c)), openD (cO c) (mN (cSh c) (cA c) (cB c)), .int (7 * i), .int (100 - i)]
def madeL (l : D) (x : Nat) : List D := (List.range x).map fun i => madeRow (el l i) i
def madeD (l : D) : D := listD (madeL l (min l.len 16))
structure codeP (c : D) : Prop where
  out : byteP (cSh c) ∧ byteP (cA c) ∧ byteP (cB c) ∧ bytesP (cO c)
structure codesP (l : D) : Prop where
  out : ∀ i, i < l.len → codeP (el l i)
structure i64P (n : Int) : Prop where
  out : -9223372036854775808 ≤ n ∧ n < 9223372036854775808
structure okHall (l : D) : Prop where
  out : (badZ l).2 = 0
open Classical in
noncomputable def seatsZ (nm : List UInt8) (sh a b : Int) (o : D) (x y : Int) : Int := if errZ nm sh a b o x y = 0 then sizeZ sh a b else 0
open Classical in
noncomputable def countZ (l : D) : Int := if okHall l then sumZ l l.len else 0
open Classical in
noncomputable def firstZ (l : D) (t : Int) : Int := if (0 ≤ t ∧ t < l.len) ∧ okHall l then sumZ l t.toNat else 0
structure foundP (l : D) (s : List UInt8) : Prop where
  out : okHall l ∧ 0 ≤ idxZ l s l.len 0
open Classical in
noncomputable def findZ (l : D) (s : List UInt8) : Int := if foundP l s then idxZ l s l.len 0 else 0
noncomputable def whereZ (l : D) : Nat → Nat → Int → Option (Int × Int)
  | 0, _, _ => none
  | f + 1, i, k => if k < sizeT' (el l i) then some (i, k) else whereZ l f (i + 1) (k - sizeT' (el l i))
open Classical in
noncomputable def whereO (l : D) (n : Int) : Option (Int × Int) := if n < 0 ∨ ¬ okHall l then none else whereZ l l.len 0 n
noncomputable def whereT (l : D) (n : Int) : Int := ((whereO l n).getD (0, 0)).1
noncomputable def whereK (l : D) (n : Int) : Int := ((whereO l n).getD (0, 0)).2
structure whereP (l : D) (n : Int) : Prop where
  out : whereO l n ≠ none
noncomputable def con49 : Con := fun | [.dat 65 l] => some (codesP l, .dat 22 (madeD l)) | _ => none
noncomputable def con113 : Con := fun | [.dat 22 l] => some (smallD l, .prop (okHall l)) | _ => none
noncomputable def con50 : Con := fun | [.agg [.str nm, .int .u8 sh, .int .i64 a, .int .i64 b, .dat 29 o, .int .i64 x, .int .i64 y]] => some (o.len ≤ 100, .int .i64 (seatsZ nm sh a b o x y)) | _ => none
noncomputable def con55 : Con := fun | [.dat 22 l] => some (smallD l, .int .i64 (countZ l)) | _ => none
noncomputable def con52 : Con := fun | [.dat 22 l, .int .i64 t] => some (smallD l, .int .i64 (firstZ l t)) | _ => none
noncomputable def con57 : Con := fun | [.dat 22 l, .str s] => some (smallD l, .tup [.int .i64 (findZ l s), .prop (foundP l s)]) | _ => none
noncomputable def con56 : Con := fun | [.dat 22 l, .int .i64 n] => some (smallD l ∧ i64P n, .tup [.int .i64 (whereT l n), .int .i64 (whereK l n), .prop (whereP l n)]) | _ => none
noncomputable def num1 : FuncId → Option Con
  | 108 => some con108
  | 113 => some con113
  | 50 => some con50
  | g => chk3 g
noncomputable def num2 : FuncId → Option Con
  | 49 => some con49
  | 55 => some con55
  | 52 => some (extC con52)
  | 57 => some (extC con57)
  | 56 => some (extC con56)
  | g => num1 g
noncomputable def numAnn : FuncId → Nat → Option Ann
  | 49, 3 => some { hs := 2, τ := Nat, slots := fun _ i x => match i with | 0 => [(13, .int .i64 0), (3, .val (.slice none 0 0))] | _ => [(13, .int .i64 x), (3, .slc 60 (.lit 0) (.sym x) none)],
                    blks := fun S i x => match i with | 0 => [] | _ => [(60, .arr 31 (madeL (slD S 0) x))], inv := fun S i x => match i with | 0 => x = 0 | _ => 0 < x ∧ x ≤ min (slD S 0).len 16, meas := fun _ _ x => 16 - x }
  | 56, 5 => some { τ := Nat × Int, slots := fun _ _ x => [(20, .int .i64 x.1), (5, .int .i64 x.2)], blks := fun _ _ _ => [], inv := fun S _ x => x.1 ≤ (slD S 0).len ∧ 0 ≤ x.2 ∧ x.2 ≤ slI S 1 ∧ whereZ (slD S 0) ((slD S 0).len - x.1) x.1 x.2 = whereZ (slD S 0) (slD S 0).len 0 (slI S 1), meas := fun S _ x => (slD S 0).len - x.1 }
  | 16, 4 => some { τ := Nat, slots := fun S _ x => [(27, .int .i64 x), (6, .int .i64 (sumZ (slD S 5) x))], blks := fun _ _ _ => [], inv := fun S _ x => x ≤ (slD S 5).len, meas := fun S _ x => (slD S 5).len - x }
  | 16, 7 => some { τ := Nat, slots := fun S _ k => [(34, .int .i64 k), (6, .int .i64 (sumZ (slD S 5) (slI S 27).toNat + k))], blks := fun _ _ _ => [], inv := fun S _ k => k ≤ (slI S 33).toNat, meas := fun S _ k => (slI S 33).toNat - k }
  | g, i => chkAnn g i
end Go.Ev

end

section
open Go.Proofs
namespace Go.Ev
noncomputable def deadAnn : Ann := { hs := 0, τ := Unit, slots := fun _ _ _ => [], blks := fun _ _ _ => [], inv := fun _ _ _ => False, meas := fun _ _ _ => 0 }
noncomputable def refAnn (g : FuncId) (i : Nat) : Option Ann :=
  match g, i with
  | 58, 5 => some { τ := Unit, slots := fun _ _ _ => [(13, .int .i64 0)], blks := fun _ _ _ => [], inv := fun S _ _ => (slD S 0).len = 0, meas := fun _ _ _ => 0 }
  | g, i => match numAnn g i with | some a => some a | none => some deadAnn
noncomputable def ctxF (con : FuncId → Option Con) (ann : FuncId → Nat → Option Ann) (frz : FuncId → Nat → List (Tmp × Nat × TypeId)) (join : FuncId → Nat → Option Ann) : Ctx := { ctx con ann with frz := frz, join := join }
end Go.Ev

end

section
open Go.Proofs
namespace Go.Ev
def lo (k m : Int) : Int := min k m
def hi (k m : Int) : Int := max k m
structure besideP (sh a b k m : Int) : Prop where
  out : k ≠ m ∧ ((sh = 1 ∧ (hi k m = lo k m + 1 ∨ (lo k m = 0 ∧ hi k m = a - 1))) ∨ (sh = 2 ∧ ((hi k m = lo k m + 1 ∧ ¬ (b = 0 ∧ hi k m = a)) ∨ (b = 2 ∧ lo k m = 0 ∧ hi k m = 2 * a + 1))) ∨
    (sh = 3 ∧ hi k m = lo k m + 1) ∨ (sh = 4 ∧ hi k m = lo k m + 1 ∧ (b = 0 ∨ (hi k m).tmod b ≠ 0)))
structure acrossP (sh a b k m : Int) : Prop where
  out : k ≠ m ∧ ((sh = 1 ∧ a.tmod 2 = 0 ∧ hi k m - lo k m = a.tdiv 2) ∨ (sh = 2 ∧ ((b = 2 ∧ hi k m = 2 * a + 1 ∧ lo k m = a) ∨ (¬ (b = 2 ∧ hi k m = 2 * a + 1) ∧ lo k m < a ∧ hi k m = 2 * a - 1 + min b 1 - lo k m))) ∨
    (sh = 3 ∧ lo k m < b ∧ hi k m = a + 2 * b - 1 - lo k m))
structure nearP (sh a b k m : Int) : Prop where
  out : besideP sh a b k m ∨ acrossP sh a b k m
structure inTab (sh a b k : Int) : Prop where
  out : sizeZ sh a b ≠ 0 ∧ 0 ≤ k ∧ k < sizeZ sh a b
noncomputable def con89 : Con := fun | [.agg [.str _, .int .u8 sh, .int .i64 a, .int .i64 b, .dat 29 _, .int .i64 _, .int .i64 _], .int .i64 k, .int .i64 m] => some (inTab sh a b k ∧ inTab sh a b m, .prop (besideP sh a b k m)) | _ => none
noncomputable def con90 : Con := fun | [.agg [.str _, .int .u8 sh, .int .i64 a, .int .i64 b, .dat 29 _, .int .i64 _, .int .i64 _], .int .i64 k, .int .i64 m] => some (inTab sh a b k ∧ inTab sh a b m, .prop (acrossP sh a b k m)) | _ => none
noncomputable def con88 : Con := fun | [.agg [.str _, .int .u8 sh, .int .i64 a, .int .i64 b, .dat 29 _, .int .i64 _, .int .i64 _], .int .i64 k, .int .i64 m] => some (inTab sh a b k ∧ inTab sh a b m, .prop (nearP sh a b k m)) | _ => none
noncomputable def seat1 : FuncId → Option Con
  | 89 => some con89
  | 90 => some con90
  | g => num2 g
end Go.Ev

end

section
open Go.Proofs
namespace Go.Ev
noncomputable def nW (sh a b : Int) : Nat := (IntKind.i64.wrap (IntKind.u64.wrap (sizeZ sh a b))).toNat
noncomputable def con170 : Con := fun | [.int .u64 a, .int .u64 n] => some (a = 1 ∧ 0 ≤ n ∧ n ≤ 24, .tup [.int .u64 0, .int .u64 n]) | _ => none
noncomputable def seat2 : FuncId → Option Con
  | 88 => some con88
  | 170 => some (extC con170)
  | g => seat1 g
noncomputable def slR (S : SS) (t : Tmp) : Nat := match S.fr.get t with | some (.slc b _ _ _) => b | _ => 0
noncomputable def slN (S : SS) (t : Tmp) : Nat := match S.fr.get t with | some (.slc _ _ n _) => n.v | _ => 0
noncomputable def slC (S : SS) (t : Tmp) : Option NL := match S.fr.get t with | some (.slc _ _ _ c) => c | _ => none
noncomputable def tbI (S : SS) (i : Nat) : Int := match S.fr.get 0 with | some (.agg l) => (match l[i]? with | some v => (match intOf v with | some (_, n) => n | none => 0) | none => 0) | _ => 0
noncomputable def rowN (n : Nat) (L : Nat → Int) : List D := (List.range n).map fun m => .int (L m)
noncomputable def rowQ (Q : List Nat) : List D := Q.map fun (m : Nat) => D.int (m : Int)
noncomputable def hdQ (q : List D × List Nat) : Int := (nthD (q.fst ++ rowQ q.snd) (q.fst.length + Int.toNat (0 : Int))).asInt
noncomputable def rowF (k n : Nat) : List D := List.replicate k (.int (-1)) ++ List.replicate (n - k) (.int 0)
noncomputable def nearN (sh a b : Int) : Nat → Nat → Prop := fun k m => nearP sh a b k m
noncomputable def negsR (l : List D) : Nat := (l.filter fun d => decide (d.asInt < 0)).length
structure bfsS (n : Nat) (sh a b from_ : Int) (L : Nat → Int) (Q : List Nat) : Prop where
  out : Bfs n (nearN sh a b) from_.toNat L Q
  low : ∀ m, m < n → L m + negs n L < n
  len : negs n L + Q.length ≤ n
structure bfsI (n : Nat) (sh a b from_ k i : Int) (L : Nat → Int) (Q : List Nat) : Prop where
  out : ∃ d : Nat, BfsIn n (nearN sh a b) from_.toNat k.toNat d i.toNat L Q
  low : ∀ m, m < n → L m + negs n L < n
noncomputable def distRow (n : Nat) (sh a b from_ : Int) : List D := rowN n fun m => distZ n (nearN sh a b) from_.toNat m
noncomputable def distAnn (g : FuncId) (i : Nat) : Option Ann :=
  match g, i with
  | 143, 8 => some { τ := Nat, slots := fun _ _ x => [(8, .int .i64 x)], blks := fun S _ x => [(slR S 7, .arr 3 (rowF x (slN S 7)))], inv := fun S _ x => 0 < x ∧ x ≤ slN S 7, meas := fun S _ x => slN S 7 - x }
  | 86, 4 => some { hs := 2, τ := (Nat → Int) × List D × List Nat,
                    slots := fun S i x => [(6, match i with | 0 => .slc (slR S 6) (.sym x.2.1.length) (.sym x.2.2.length) (some (.sym x.2.2.length)) | _ => .slc 190 (.sym x.2.1.length) (.sym x.2.2.length) none)],
                    blks := fun S i x => [((match i with | 0 => slR S 6 | _ => 190), .arr 3 (x.2.1 ++ rowQ x.2.2)), (slR S 5, .arr 3 (rowN (slN S 5) x.1))],
                    inv := fun S _ x => bfsS (slN S 5) (tbI S 1) (tbI S 2) (tbI S 3) (slI S 1) x.1 x.2.2,
                    meas := fun S _ x => negs (slN S 5) x.1 + x.2.2.length, dead := fun S => [slR S 6] }
  | 86, 8 => some { hs := 2, τ := (Nat → Int) × List D × List Nat × Nat,
                    slots := fun S i x => [(28, .int .i64 x.2.2.2), (6, match i with | 0 => .slc (slR S 6) (.sym x.2.1.length) (.sym x.2.2.1.length) (match slC S 6 with | none => none | some _ => some (.sym x.2.2.1.length)) | _ => .slc 191 (.sym x.2.1.length) (.sym x.2.2.1.length) none)],
                    blks := fun S i x => [((match i with | 0 => slR S 6 | _ => 191), .arr 3 (x.2.1 ++ rowQ x.2.2.1)), (slR S 5, .arr 3 (rowN (slN S 5) x.1))],
                    inv := fun S _ x => bfsI (slN S 5) (tbI S 1) (tbI S 2) (tbI S 3) (slI S 1) (slI S 7) x.2.2.2 x.1 x.2.2.1 ∧ x.2.2.2 ≤ slN S 5 ∧ negs (slN S 5) x.1 + x.2.2.1.length = negsR (bkL S (slR S 5)) + slN S 6,
                    meas := fun S _ x => slN S 5 - x.2.2.2, dead := fun S => [slR S 6] }
  | g, i => refAnn g i
end Go.Ev

end

section
open Go.Proofs
namespace Go.Ev
noncomputable def con86 : Con := fun | [.agg [.str _, .int .u8 sh, .int .i64 a, .int .i64 b, .dat 29 _, .int .i64 _, .int .i64 _], .int .i64 k] => some (inTab sh a b k, .dat 29 (.list (distRow (sizeZ sh a b).toNat sh a b k))) | _ => none
noncomputable def seat3 : FuncId → Option Con
  | 86 => some con86
  | g => seat2 g
noncomputable def tabAt (l : D) (p : Int) : D := el l (whereT l p).toNat
structure oneT (l : D) (p q : Int) : Prop where
  out : whereP l p ∧ whereP l q ∧ whereT l p = whereT l q
noncomputable def rowT (l : D) (p : Int) : List D := distRow (sizeT' (tabAt l p)).toNat (tShape (tabAt l p)) (tA (tabAt l p)) (tB (tabAt l p)) (whereK l p)
noncomputable def distD (l : D) (p q : Int) : Int := (nthD (rowT l p) (whereK l q).toNat).asInt
structure distP (l : D) (p q : Int) : Prop where
  out : oneT l p q ∧ 0 ≤ distD l p q
open Classical in
noncomputable def distH (l : D) (p q : Int) : Int := if distP l p q then distD l p q else 0
noncomputable def con32 : Con := fun | [.dat 22 l, .int .i64 p, .int .i64 q] => some (smallD l ∧ i64P p ∧ i64P q, .tup [.int .i64 (distH l p q), .prop (distP l p q)]) | _ => none
structure notIn (o : D) (v : Int) (x : Nat) : Prop where
  out : ∀ j, j < x → (el o j).asInt ≠ v
open Classical in
noncomputable def nbL (sh a b k base : Int) (x : Nat) : List D := ((List.range x).filter fun (m : Nat) => decide (nearP sh a b k m)).map fun (m : Nat) => D.int (base + m)
noncomputable def nbX (d : D) (k base : Int) (x : Nat) : List D := nbL (tShape d) (tA d) (tB d) k base x
noncomputable def lvlAnn (g : FuncId) (i : Nat) : Option Ann :=
  match g, i with
  | 95, 2 => some { τ := Nat, slots := fun _ _ x => [(8, .int .i64 x)], blks := fun _ _ _ => [], inv := fun S _ x => x ≤ (slD S 0).len ∧ notIn (slD S 0) (slI S 1) x, meas := fun S _ x => (slD S 0).len - x }
  | 54, 6 => some { hs := 2, τ := Nat, slots := fun S i x => [(24, .int .i64 x), (8, match i with | 0 => .val (.slice none 0 0) | _ => .slc 70 (.lit 0) (.sym (nbX (el (slD S 0) (slI S 5).toNat) (slI S 6) (slI S 1 - slI S 6) x).length) none)],
                    blks := fun S i x => match i with | 0 => [] | _ => [(70, .arr 3 (nbX (el (slD S 0) (slI S 5).toNat) (slI S 6) (slI S 1 - slI S 6) x))], inv := fun S i x => x ≤ (slI S 23).toNat ∧ (match i with | 0 => nbX (el (slD S 0) (slI S 5).toNat) (slI S 6) (slI S 1 - slI S 6) x = [] | _ => nbX (el (slD S 0) (slI S 5).toNat) (slI S 6) (slI S 1 - slI S 6) x ≠ []), meas := fun S _ x => (slI S 23).toNat - x }
  | g, i => distAnn g i
noncomputable def nearL (l : D) (p : Int) : D := listD (nbX (tabAt l p) (whereK l p) (p - whereK l p) (sizeT' (tabAt l p)).toNat)
open Classical in
noncomputable def nbD (l : D) (p : Int) : D := if whereP l p then nearL l p else .nil
noncomputable def con54 : Con := fun | [.dat 22 l, .int .i64 p] => some (smallD l ∧ i64P p, .dat 29 (nbD l p)) | _ => none
noncomputable def honZ (sh a b : Int) : Int := if sh = 1 then 0 else if sh = 2 then (if b = 0 then a.tdiv 2 else a) else if sh = 3 then b + a.tdiv 2 else a.tdiv 2
noncomputable def con149 : Con := fun | [.agg [.str _, .int .u8 sh, .int .i64 a, .int .i64 b, .dat 29 _, .int .i64 _, .int .i64 _]] => some (sizeZ sh a b ≠ 0, .int .i64 (honZ sh a b)) | _ => none
noncomputable def seat4 : FuncId → Option Con
  | 149 => some con149
  | g => seat2 g
noncomputable def fixR (row : List D) (x : Nat) : List D := (row.take x).map (fun d => if d.asInt < 0 then .int row.length else d) ++ row.drop x
noncomputable def l2Ann (g : FuncId) (i : Nat) : Option Ann :=
  match g, i with
  | 109, 3 => some { τ := Nat, slots := fun _ _ x => [(12, .int .i64 x)], blks := fun S _ x => [(slR S 10, .arr 3 (fixR (bkL S (slR S 10)) x))], inv := fun S _ x => x ≤ (bkL S (slR S 10)).length, meas := fun S _ x => (bkL S (slR S 10)).length - x }
  | g, i => lvlAnn g i
noncomputable def levelRow (sh a b : Int) : List D := fixR (distRow (sizeZ sh a b).toNat sh a b (honZ sh a b)) (sizeZ sh a b).toNat
noncomputable def con109 : Con := fun | [.agg [.str _, .int .u8 sh, .int .i64 a, .int .i64 b, .dat 29 _, .int .i64 _, .int .i64 _]] => some (sizeZ sh a b ≠ 0, .dat 29 (.list (levelRow sh a b))) | _ => none
noncomputable def seat5 : FuncId → Option Con
  | 109 => some con109
  | 149 => some con149
  | g => seat3 g
open Classical in
noncomputable def levelH (l : D) (p : Int) : Int := if whereP l p then (nthD (levelRow (tShape (tabAt l p)) (tA (tabAt l p)) (tB (tabAt l p))) (whereK l p).toNat).asInt else 0
noncomputable def con53 : Con := fun | [.dat 22 l, .int .i64 p] => some (smallD l ∧ i64P p, .int .i64 (levelH l p)) | _ => none
end Go.Ev

end

section
open Go.Proofs
namespace Go.Ev
open Classical in
noncomputable def allD (l : D) : D := if okHall l then listD (seatsL l l.len) else .nil
structure asked (own l all : D) : Prop where
  copy : own = copyD l
  small : smallD l
  seats : all = allD l
end Go.Ev

end

section
open Go.Proofs
namespace Go.Ev
noncomputable def dN (d : D) : Nat := (sizeT' d).toNat
structure hasT (l : D) (t : Int) : Prop where
  out : 0 ≤ t ∧ t < l.len ∧ okHall l
end Go.Ev

end

section
open Go.Proofs
namespace Go.Ev
noncomputable def lvN (d : D) (k : Nat) : Int := (nthD (levelRow (tShape d) (tA d) (tB d)) k).asInt
open Classical in
noncomputable def hoP (d : D) (first : Int) (v y : Nat) : List D := ((List.range y).filter fun k => decide (lvN d k = v)).map fun (k : Nat) => D.int (first + k)
noncomputable def hoL (d : D) (first : Int) : Nat → List D
  | 0 => []
  | x + 1 => hoL d first x ++ hoP d first x (dN d)
open Classical in
noncomputable def honD (l : D) (t : Int) : D := if hasT l t then .list (hoL (el l t.toNat) (sumZ l t.toNat) (dN (el l t.toNat) + 1)) else .nil
noncomputable def con51 : Con := fun | [.dat 22 l, .int .i64 t] => some (smallD l, .dat 29 (honD l t)) | _ => none
end Go.Ev

end

section
open Go.Proofs
namespace Go.Ev
structure downP (l nb : D) (v n : Int) (k : Nat) : Prop where
  out : v = 0 ∨ v = n ∨ ∃ j, j < k ∧ levelH l (el nb j).asInt - v = -1
structure endP (v n : Int) : Prop where
  out : v = 0 ∨ v = n
noncomputable def con15 : Con := fun | [.dat 65 l] => some (codesP l, .prop True) | _ => none
noncomputable def hl1 : FuncId → Option Con
  | 51 => some (extC con51)
  | 32 => some con32
  | 53 => some con53
  | 54 => some con54
  | g => seat5 g
noncomputable def hlAnn (g : FuncId) (i : Nat) : Option Ann :=
  match g, i with
  | 15, 4 => some { τ := Nat, slots := fun S _ x => [(21, .int .i64 x), (4, .int .i64 (sumZ (slD S 3) x))], blks := fun _ _ _ => [], inv := fun S _ x => x ≤ (slD S 3).len, meas := fun S _ x => (slD S 3).len - x }
  | 15, 11 => some { τ := Nat, slots := fun _ _ x => [(49, .int .i64 x)], blks := fun _ _ _ => [], inv := fun S _ x => x ≤ (slD S 47).len, meas := fun S _ x => (slD S 47).len - x }
  | 15, 20 => some { τ := Nat, slots := fun S _ x => [(123, .int .i64 x), (11, .prop (downP (slD S 3) (slD S 121) (slI S 10) (slI S 6) x))], blks := fun _ _ _ => [], inv := fun S _ x => x ≤ (slD S 121).len, meas := fun S _ x => (slD S 121).len - x }
  | g, i => l2Ann g i
noncomputable def hlJoin : FuncId → Nat → Option Ann
  | 15, 18 => some { τ := Unit, slots := fun _ _ _ => [], blks := fun _ _ _ => [], inv := fun _ _ _ => True, meas := fun _ _ _ => 0 }
  | 15, 19 => some { τ := Unit, slots := fun S _ _ => [(11, .prop (endP (slI S 10) (slI S 6)))], blks := fun _ _ _ => [], inv := fun _ _ _ => True, meas := fun _ _ _ => 0 }
  | _, _ => none
end Go.Ev

end

section
open Go.Proofs
namespace Go.Ev
noncomputable def cmpZ (a b : Int) : Int := if a < b then -1 else if b < a then 1 else 0
noncomputable def orL : List D → Int
  | [] => 0
  | d :: r => if d.asInt = 0 then orL r else d.asInt
noncomputable def orZ (l : D) : Int := orL l.asList
structure zeroP (l : D) (x : Nat) : Prop where
  out : ∀ j, j < x → (el l j).asInt = 0
noncomputable def rowH (F : Int) (n x : Nat) : List D := ((List.range x).map fun (k : Nat) => D.int (F + k)) ++ List.replicate (n - x) (D.int 0)
noncomputable def con101 : Con := fun | [.int .i64 a, .int .i64 b] => some (True, .int .i64 (cmpZ a b)) | _ => none
noncomputable def con112 : Con := fun | [.dat 29 l] => some (l.len ≤ 100, .int .i64 (orZ l)) | _ => none
noncomputable def on1 : FuncId → Option Con
  | 101 => some con101
  | 112 => some con112
  | g => seat5 g
noncomputable def onAnn (g : FuncId) (i : Nat) : Option Ann :=
  match g, i with
  | 112, 3 => some { τ := Nat, slots := fun _ _ x => [(8, .int .i64 x)], blks := fun _ _ _ => [], inv := fun S _ x => x ≤ (slD S 0).len ∧ zeroP (slD S 0) x, meas := fun S _ x => (slD S 0).len - x }
  | 51, 7 => some { τ := Nat, slots := fun _ _ x => [(26, .int .i64 x)], blks := fun S _ x => [(slR S 24, .arr 3 (rowH (sumZ (slD S 0) (slI S 1).toNat) (bkL S (slR S 24)).length x))], inv := fun S _ x => x ≤ (bkL S (slR S 24)).length, meas := fun S _ x => (bkL S (slR S 24)).length - x }
  | g, i => l2Ann g i
end Go.Ev

end
