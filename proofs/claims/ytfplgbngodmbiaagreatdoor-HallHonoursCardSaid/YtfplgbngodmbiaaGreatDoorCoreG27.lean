/-
  Part of the engine that the claim is proved with: it states nothing of the document by itself.
-/
import Derived.Test.YtfplgbngodmbiaaGreatDoorProg
import Derived.Test.YtfplgbngodmbiaaGreatDoorCoreSort
import Derived.Test.YtfplgbngodmbiaaGreatDoorCoreSeC
import Derived.Lib.SlicesCompact
import Derived.Test.YtfplgbngodmbiaaGreatDoorCoreKit
import Derived.Test.YtfplgbngodmbiaaGreatDoorCoreBfs
import Derived.Test.YtfplgbngodmbiaaGreatDoorCoreScan

section
open Go.Proofs
namespace Go.Ev
def atI (d : D) (k : Nat) : Int := (nthD d.asList k).asInt
def seenL (d : D) (k : Nat) : List D := (List.range d.len).map fun (x : Nat) => D.bool (∃ i, i < k ∧ atI d i = x)
def lastAt (d : D) (x : Nat) : Nat → Int
 | 0 => 0
 | k + 1 => if atI d k = x then k else lastAt d x k
def backL (d : D) (k : Nat) : List D := (List.range d.len).map fun (x : Nat) => D.int (lastAt d x k)
def eqD (a b : D) : Prop := a.len = b.len ∧ ∀ i, i < a.len → atI a i = atI b i
noncomputable def con43 : Con := fun | [.dat 29 a, .dat 29 b] => some (a.len ≤ 100, .prop (eqD a b)) | _ => none
noncomputable def permAnn : FuncId → Nat → Option Ann
 | 80, 2 => some { τ := Nat, slots := fun _ _ i => [(3, .int .i64 i)], blks := fun _ _ _ => [], inv := fun S _ i => i ≤ (slD S 0).len ∧ ∀ w : Nat, w < i → ∃ k, k < (slD S 0).len ∧ atI (slD S 0) k = w, meas := fun S _ i => (slD S 0).len - i }
 | 80, 6 => some { τ := Nat × Prop, slots := fun _ _ x => [(5, .int .i64 x.1), (4, .prop x.2)], blks := fun _ _ _ => [], inv := fun S _ x => x.1 ≤ (slD S 0).len ∧ (x.2 ↔ ∃ k, k < x.1 ∧ atI (slD S 0) k = slI S 3), meas := fun S _ x => (slD S 0).len - x.1 }
 | 103, 3 => some { τ := Nat, slots := fun _ _ x => [(11, .int .i64 x)], blks := fun S _ x => [(0, .arr 4 (seenL (slD S 0) x))], inv := fun S _ x => x ≤ (slD S 0).len ∧ (∀ i, i < x → 0 ≤ atI (slD S 0) i ∧ atI (slD S 0) i < (slD S 0).len) ∧ ∀ i j, i < j → j < x → atI (slD S 0) i ≠ atI (slD S 0) j, meas := fun S _ x => (slD S 0).len - x }
 | 43, 4 => some { τ := Nat, slots := fun _ _ x => [(13, .int .i64 x)], blks := fun _ _ _ => [], inv := fun S _ x => x ≤ (slD S 0).len ∧ ∀ i, i < x → atI (slD S 0) i = atI (slD S 1) i, meas := fun S _ x => (slD S 0).len - x }
 | 42, 5 => some { τ := Nat, slots := fun _ _ x => [(14, .int .i64 x)], blks := fun S _ x => [(0, .arr 3 (backL (slD S 0) x))], inv := fun S _ x => x ≤ (slD S 0).len, meas := fun S _ x => (slD S 0).len - x }
 | _, _ => none
noncomputable def ctx (con : FuncId → Option Con) (ann : FuncId → Nat → Option Ann) : Ctx := { P := Tryz.prog, con := con, ora := fun g => cond (Nat.beq g 21) (some (.bool true)) none, bits := 8148143480379123944539124198372026339899032286168269601245373172583125750031685756655763455, ann := ann, srt := rowsF, srtC := fun g => Nat.beq g 110 }
end Go.Ev

end

section
open Go.Proofs
namespace Go.Ev
def el (l : D) (i : Nat) : D := nthD l.asList i
def tName (d : D) : List UInt8 := (d.fld 0).asStr
def tShape (d : D) : Int := (d.fld 1).asInt
def tA (d : D) : Int := (d.fld 2).asInt
def tB (d : D) : Int := (d.fld 3).asInt
def tOpen (d : D) : D := d.fld 4
def tX (d : D) : Int := (d.fld 5).asInt
def tY (d : D) : Int := (d.fld 6).asInt
structure nameP (s : List UInt8) : Prop where
 out : 1 ≤ s.length ∧ s.length ≤ 12 ∧ ∀ i, i < s.length → 97 ≤ byteAt s i ∧ byteAt s i ≤ 122
open Classical in
noncomputable def sizeZ (sh a b : Int) : Int :=
 if sh = 1 ∧ (1 ≤ a ∧ a ≤ 24) ∧ b = 0 then a
 else if sh = 2 ∧ (1 ≤ a ∧ a ≤ 11) ∧ 0 ≤ b ∧ b ≤ 2 then 2 * a + b
 else if sh = 3 ∧ (1 ≤ a ∧ a ≤ 8) ∧ 1 ≤ b ∧ b ≤ 8 then a + 2 * b
 else if sh = 4 ∧ (1 ≤ a ∧ a ≤ 24) ∧ 0 ≤ b ∧ b ≤ a then a else 0
structure risingP (o : D) (n : Int) : Prop where
 out : ∀ i, i < o.len → 0 ≤ atI o i ∧ atI o i < n ∧ (0 < i → atI o (i - 1) < atI o i)
def placeP (x : Int) : Prop := 0 ≤ x ∧ x ≤ 1000
open Classical in
noncomputable def errZ (nm : List UInt8) (sh a b : Int) (o : D) (x y : Int) : Int :=
 if ¬ nameP nm then 4 else if sizeZ sh a b = 0 then 10 else if ¬ risingP o (sizeZ sh a b) then 11 else if ¬ (placeP x ∧ placeP y) then 2 else 0
noncomputable def errT (d : D) : Int := errZ (tName d) (tShape d) (tA d) (tB d) (tOpen d) (tX d) (tY d)
noncomputable def sizeT' (d : D) : Int := sizeZ (tShape d) (tA d) (tB d)
open Classical in
noncomputable def idxZ (l : D) (s : List UInt8) : Nat → Nat → Int
 | 0, _ => -1
 | f + 1, i => if tName (el l i) = s then i else idxZ l s f (i + 1)
structure twiceP (l : D) (i : Nat) : Prop where
 out : ∃ k, k < i ∧ tName (el l k) = tName (el l i)
open Classical in
noncomputable def err1 (l : D) (i : Nat) : Int := if errT (el l i) ≠ 0 then errT (el l i) else if twiceP l i then 5 else 0
open Classical in
noncomputable def scanZ (l : D) : Nat → Nat → Int × Int
 | 0, _ => (0, 0)
 | f + 1, i => if err1 l i ≠ 0 then ((i : Nat), err1 l i) else scanZ l f (i + 1)
open Classical in
noncomputable def badZ (l : D) : Int × Int := if 16 < l.len then (0, 7) else scanZ l l.len 0
noncomputable def sumZ (l : D) : Nat → Int
 | 0 => 0
 | n + 1 => sumZ l n + sizeT' (el l n)
def listD (l : List D) : D := match l with | [] => .nil | l => .list l
def seatRow (i n : Nat) : List D := (List.range n).map fun (k : Nat) => D.sct [.int (i : Int), .int (k : Int)]
noncomputable def seatsL (l : D) : Nat → List D
 | 0 => []
 | n + 1 => seatsL l n ++ seatRow n (sizeT' (el l n)).toNat
def copyT (d : D) : D := .sct [.str (tName d), .int (tShape d), .int (tA d), .int (tB d), .list (tOpen d).asList, .int (tX d), .int (tY d)]
def copyL (l : D) (n : Nat) : List D := (List.range n).map fun i => copyT (el l i)
def copyD (l : D) : D := listD (copyL l l.len)
structure sameT (a b : D) : Prop where
 out : tName a = tName b ∧ tShape a = tShape b ∧ tA a = tA b ∧ tB a = tB b ∧ tX a = tX b ∧ tY a = tY b ∧ eqD (tOpen a) (tOpen b)
structure sameAll (a b : D) : Prop where
 out : a.len = b.len ∧ ∀ i, i < a.len → sameT (el a i) (el b i)
structure fewT (d : D) : Prop where
 out : (tName d).length ≤ 40 ∧ (tOpen d).len ≤ 40
structure fewD (l : D) : Prop where
 out : l.len ≤ 20 ∧ ∀ i, i < l.len → fewT (el l i)
structure smallD (l : D) : Prop where
 out : l.len ≤ 100 ∧ ∀ i, i < l.len → (tOpen (el l i)).len ≤ 100
structure seatedD (l : D) : Prop where
 out : l.len ≤ 100 ∧ ∀ i, i < l.len → sizeT' (el l i) ≠ 0
noncomputable def con126 : Con := fun | [.str s] => some (True, .prop (nameP s)) | _ => none
noncomputable def con127 : Con := fun | [.dat 29 o, .int .i64 n] => some (o.len ≤ 100, .prop (risingP o n)) | _ => none
noncomputable def con63 : Con := fun | [.agg [.str nm, .int .u8 sh, .int .i64 a, .int .i64 b, .dat 29 o, .int .i64 x, .int .i64 y]] => some (o.len ≤ 100, .int .i64 (errZ nm sh a b o x y)) | _ => none
noncomputable def con28 : Con := fun | [.agg [.str _, .int .u8 sh, .int .i64 a, .int .i64 b, .dat 29 _, .int .i64 _, .int .i64 _]] => some (True, .int .i64 (sizeZ sh a b)) | _ => none
noncomputable def con93 : Con := fun | [.agg [.str _, .int .u8 sh, .int .i64 a, .int .i64 b, .dat 29 _, .int .i64 _, .int .i64 _]] => some (sizeZ sh a b ≠ 0, .int .i64 (sizeZ sh a b)) | _ => none
noncomputable def con114 : Con := fun | [.dat 22 l, .str s] => some (l.len ≤ 100, .int .i64 (idxZ l s l.len 0)) | _ => none
noncomputable def con62 : Con := fun | [.dat 22 l] => some (smallD l, .tup [.int .i64 (badZ l).1, .int .i64 (badZ l).2]) | _ => none
noncomputable def con92 : Con := fun | [.dat 22 l, .int .i64 n] => some (0 ≤ n ∧ n ≤ l.len ∧ seatedD l, .int .i64 (sumZ l n.toNat)) | _ => none
noncomputable def con70 : Con := fun | [.dat 22 l, .int .i64 n] => some (0 ≤ n ∧ n ≤ l.len ∧ l.len ≤ 100, .int .i64 (sumZ l n.toNat)) | _ => none
noncomputable def con69 : Con := fun | [.dat 22 l] => some (l.len ≤ 100, .dat 91 (listD (seatsL l l.len))) | _ => none
noncomputable def con66 : Con := fun | [.dat 22 l] => some (smallD l, .dat 22 (copyD l)) | _ => none
noncomputable def con79 : Con := fun
 | [.agg [.str n1, .int .u8 s1, .int .i64 a1, .int .i64 b1, .dat 29 o1, .int .i64 x1, .int .i64 y1], .agg [.str n2, .int .u8 s2, .int .i64 a2, .int .i64 b2, .dat 29 o2, .int .i64 x2, .int .i64 y2]] => some (o1.len ≤ 100, .prop (n1 = n2 ∧ s1 = s2 ∧ a1 = a2 ∧ b1 = b2 ∧ x1 = x2 ∧ y1 = y2 ∧ eqD o1 o2))
 | _ => none
noncomputable def con60 : Con := fun | [.dat 22 a, .dat 22 b] => some (smallD a, .prop (sameAll a b)) | _ => none
noncomputable def con19 : Con := fun | [.dat 22 l] => some (True, .prop (fewD l)) | _ => none
noncomputable def chk1 : FuncId → Option Con
 | 43 => some con43
 | 126 => some con126
 | 130 => some con126
 | 127 => some con127
 | 28 => some con28
 | 114 => some con114
 | _ => none
noncomputable def chk2 : FuncId → Option Con
 | 63 => some con63
 | 68 => some con63
 | 93 => some con93
 | 79 => some con79
 | g => chk1 g
noncomputable def chk3 : FuncId → Option Con
 | 62 => some con62
 | 67 => some con62
 | 92 => some con92
 | 70 => some con70
 | 69 => some con69
 | 66 => some con66
 | 60 => some con60
 | 19 => some con19
 | g => chk2 g
noncomputable def lastZ (o : D) (k : Nat) : Int := match k with | 0 => -1 | k + 1 => atI o k
noncomputable def chkAnn : FuncId → Nat → Option Ann
 | 126, 4 => some { τ := Nat, slots := fun _ _ x => [(14, .int .i64 x)], blks := fun _ _ _ => [], inv := fun S _ x => x ≤ (slS S 0).length ∧ ∀ i, i < x → 97 ≤ byteAt (slS S 0) i ∧ byteAt (slS S 0) i ≤ 122, meas := fun S _ x => (slS S 0).length - x }
 | 130, 4 => some { τ := Nat, slots := fun _ _ x => [(3, .int .i64 x)], blks := fun _ _ _ => [], inv := fun S _ x => x ≤ (slS S 0).length ∧ ∀ i, i < x → 97 ≤ byteAt (slS S 0) i ∧ byteAt (slS S 0) i ≤ 122, meas := fun S _ x => (slS S 0).length - x }
 | 127, 3 => some { τ := Nat, slots := fun S _ x => [(10, .int .i64 x), (5, .int .i64 (lastZ (slD S 0) x))], blks := fun _ _ _ => [], inv := fun S _ x => x ≤ (slD S 0).len ∧ ∀ i, i < x → 0 ≤ atI (slD S 0) i ∧ atI (slD S 0) i < slI S 1 ∧ (0 < i → atI (slD S 0) (i - 1) < atI (slD S 0) i), meas := fun S _ x => (slD S 0).len - x }
 | 114, 2 => some { τ := Nat, slots := fun _ _ x => [(9, .int .i64 x)], blks := fun _ _ _ => [], inv := fun S _ x => x ≤ (slD S 0).len ∧ idxZ (slD S 0) (slS S 1) ((slD S 0).len - x) x = idxZ (slD S 0) (slS S 1) (slD S 0).len 0, meas := fun S _ x => (slD S 0).len - x }
 | 62, 4 => some { τ := Nat, slots := fun _ _ x => [(12, .int .i64 x)], blks := fun _ _ _ => [], inv := fun S _ x => x ≤ (slD S 0).len ∧ scanZ (slD S 0) ((slD S 0).len - x) x = scanZ (slD S 0) (slD S 0).len 0, meas := fun S _ x => (slD S 0).len - x }
 | 67, 4 => some { τ := Nat, slots := fun _ _ x => [(4, .int .i64 x)], blks := fun _ _ _ => [], inv := fun S _ x => x ≤ (slD S 0).len ∧ scanZ (slD S 0) ((slD S 0).len - x) x = scanZ (slD S 0) (slD S 0).len 0, meas := fun S _ x => (slD S 0).len - x }
 | 67, 10 => some { τ := Nat, slots := fun _ _ x => [(6, .int .i64 x)], blks := fun _ _ _ => [], inv := fun S _ x => x ≤ (slI S 4).toNat ∧ ∀ k, k < x → tName (el (slD S 0) k) ≠ tName (el (slD S 0) (slI S 4).toNat), meas := fun S _ x => (slI S 4).toNat - x }
 | 92, 3 => some { τ := Nat, slots := fun S _ x => [(12, .int .i64 x), (5, .int .i64 (sumZ (slD S 0) x))], blks := fun _ _ _ => [], inv := fun S _ x => x ≤ (slI S 1).toNat, meas := fun S _ x => (slI S 1).toNat - x }
 | 70, 3 => some { τ := Nat, slots := fun S _ x => [(6, .int .i64 x), (5, .int .i64 (sumZ (slD S 0) x))], blks := fun _ _ _ => [], inv := fun S _ x => x ≤ (slI S 1).toNat, meas := fun S _ x => (slI S 1).toNat - x }
 | 121, 4 => some { τ := Nat, slots := fun _ _ x => [(17, .int .i64 x)], blks := fun _ _ _ => [], inv := fun S _ x => x ≤ (slD S 0).len ∧ ∀ i, i < x → sameT (el (slD S 0) i) (el (slD S 1) i), meas := fun S _ x => (slD S 0).len - x }
 | 129, 2 => some { τ := Nat, slots := fun _ _ x => [(8, .int .i64 x)], blks := fun _ _ _ => [], inv := fun S _ x => x ≤ (slD S 0).len ∧ ∀ i, i < x → fewT (el (slD S 0) i), meas := fun S _ x => (slD S 0).len - x }
 | 66, 3 => some { hs := 2, τ := Nat, slots := fun _ i x => match i with | 0 => [(8, .int .i64 0), (3, .val (.slice none 0 0))] | _ => [(8, .int .i64 x), (3, .slc 60 (.lit 0) (.sym x) none)],
                   blks := fun S i x => match i with | 0 => [] | _ => [(60, .arr 31 (copyL (slD S 0) x))], inv := fun S i x => match i with | 0 => x = 0 | _ => 0 < x ∧ x ≤ (slD S 0).len, meas := fun S _ x => (slD S 0).len - x }
 | 69, 3 => some { hs := 2, τ := Nat, slots := fun S i x => match i with | 0 => [(4, .int .i64 x), (3, .val (.slice none 0 0))] | _ => [(4, .int .i64 x), (3, .slc 60 (.lit 0) (.sym (seatsL (slD S 0) x).length) none)],
                   blks := fun S i x => match i with | 0 => [] | _ => [(60, .arr 151 (seatsL (slD S 0) x))], inv := fun S i x => match i with | 0 => x ≤ (slD S 0).len ∧ seatsL (slD S 0) x = [] | _ => x ≤ (slD S 0).len ∧ seatsL (slD S 0) x ≠ [], meas := fun S _ x => (slD S 0).len - x }
 | 69, 6 => some { hs := 2, τ := Nat, slots := fun S i k => match i with | 0 => [(5, .int .i64 k), (3, .val (.slice none 0 0))] | _ => [(5, .int .i64 k), (3, .slc 60 (.lit 0) (.sym (seatsL (slD S 0) (slI S 4).toNat ++ seatRow (slI S 4).toNat k).length) none)],
                   blks := fun S i k => match i with | 0 => [] | _ => [(60, .arr 151 (seatsL (slD S 0) (slI S 4).toNat ++ seatRow (slI S 4).toNat k))],
                   inv := fun S i k => k ≤ (sizeT' (el (slD S 0) (slI S 4).toNat)).toNat ∧ match i with | 0 => seatsL (slD S 0) (slI S 4).toNat ++ seatRow (slI S 4).toNat k = [] | _ => seatsL (slD S 0) (slI S 4).toNat ++ seatRow (slI S 4).toNat k ≠ [], meas := fun S _ k => (sizeT' (el (slD S 0) (slI S 4).toNat)).toNat - k }
 | 20, 7 => some { τ := Nat, slots := fun _ _ x => [(44, .int .i64 x)], blks := fun _ _ _ => [], inv := fun S _ x => x ≤ (slD S 0).len, meas := fun S _ x => (slD S 0).len - x }
 | 20, 22 => some { τ := Nat × Int × Prop, slots := fun _ _ x => [(94, .int .i64 x.1), (17, .int .i64 x.2.1), (18, .prop x.2.2)], blks := fun _ _ _ => [],
                    inv := fun S _ x => x.1 ≤ (slD S 0).len ∧ ((x.2.2 ∧ ∃ k : Nat, k < x.1 ∧ x.2.1 = k ∧ tName (el (slD S 0) k) = slS S 1) ∨ (¬ x.2.2 ∧ x.2.1 = 0 ∧ ∀ k, k < x.1 → tName (el (slD S 0) k) ≠ slS S 1)), meas := fun S _ x => (slD S 0).len - x.1 }
 | _, _ => none
noncomputable def chk68 (o : D) (n : Int) : FuncId → Nat → Option Ann
 | 68, 7 => some { τ := Nat, slots := fun _ _ x => [(4, .int .i64 x)], blks := fun _ _ _ => [], inv := fun _ _ x => x ≤ o.len ∧ ∀ i, i < x → 0 ≤ atI o i ∧ atI o i < n ∧ (0 < i → atI o (i - 1) < atI o i), meas := fun _ _ x => o.len - x }
 | _, _ => none
end Go.Ev

end

section
open Go.Proofs
namespace Go.Ev
def cSh (d : D) : Int := (d.fld 0).asInt
def cA (d : D) : Int := (d.fld 1).asInt
def cB (d : D) : Int := (d.fld 2).asInt
def cO (d : D) : D := d.fld 3
def mSh (sh : Int) : Int := 1 + sh.tmod 4
def mA (sh a : Int) : Int := if mSh sh = 1 then 1 + a.tmod 24 else if mSh sh = 2 then 1 + a.tmod 11 else if mSh sh = 3 then 1 + a.tmod 8 else 1 + a.tmod 24
def mB (sh a b : Int) : Int := if mSh sh = 1 then 0 else if mSh sh = 2 then b.tmod 3 else if mSh sh = 3 then 1 + b.tmod 8 else b.tmod (1 + a.tmod 24 + 1)
def mN (sh a b : Int) : Int := if mSh sh = 1 then mA sh a else if mSh sh = 2 then 2 * mA sh a + mB sh a b else if mSh sh = 3 then mA sh a + 2 * mB sh a b else mA sh a
def openI (o : D) (n : Int) (x : Nat) : List Int := (List.range x).map fun i => (atI o i).tmod n
def openZ (o : D) (n : Int) : List Int := Lib.compact ((openI o n (min o.len 24)).mergeSort fun x y => decide (x ≤ y))
def openD (o : D) (n : Int) : D := listD ((openZ o n).map .int)
structure byteP (n : Int) : Prop where
 out : 0 ≤ n ∧ n < 256
structure bytesP (o : D) : Prop where
 out : ∀ i, i < o.len → 0 ≤ atI o i ∧ atI o i < 256
end Go.Ev

end

section
open Go.Proofs
namespace Go.Ev
def letter (i : Nat) : List UInt8 := [UInt8.ofNat (97 + i)]
def madeRow (c : D) (i : Nat) : D := .sct [.str (letter i), .int (mSh (cSh c)), .int (mA (cSh c) (cA c)), .int (mB (cSh c) (cA c) (cB c)), openD (cO c) (mN (cSh c) (cA c) (cB c)), .int (7 * i), .int (100 - i)]
def madeL (l : D) (x : Nat) : List D := (List.range x).map fun i => madeRow (el l i) i
structure codeP (c : D) : Prop where
 out : byteP (cSh c) ∧ byteP (cA c) ∧ byteP (cB c) ∧ bytesP (cO c)
structure codesP (l : D) : Prop where
 out : ∀ i, i < l.len → codeP (el l i)
structure i64P (n : Int) : Prop where
 out : -9223372036854775808 ≤ n ∧ n < 9223372036854775808
structure okHall (l : D) : Prop where
 out : (badZ l).2 = 0
open Classical in
noncomputable def seatsZ (nm : List UInt8) (sh a b : Int) (o : D) (x y : Int) : Int := if errZ nm sh a b o x y = 0 then sizeZ sh a b else 0
open Classical in
noncomputable def countZ (l : D) : Int := if okHall l then sumZ l l.len else 0
open Classical in
noncomputable def firstZ (l : D) (t : Int) : Int := if (0 ≤ t ∧ t < l.len) ∧ okHall l then sumZ l t.toNat else 0
structure foundP (l : D) (s : List UInt8) : Prop where
 out : okHall l ∧ 0 ≤ idxZ l s l.len 0
open Classical in
noncomputable def findZ (l : D) (s : List UInt8) : Int := if foundP l s then idxZ l s l.len 0 else 0
noncomputable def whereZ (l : D) : Nat → Nat → Int → Option (Int × Int)
 | 0, _, _ => none
 | f + 1, i, k => if k < sizeT' (el l i) then some (i, k) else whereZ l f (i + 1) (k - sizeT' (el l i))
open Classical in
noncomputable def whereO (l : D) (n : Int) : Option (Int × Int) := if n < 0 ∨ ¬ okHall l then none else whereZ l l.len 0 n
noncomputable def whereT (l : D) (n : Int) : Int := ((whereO l n).getD (0, 0)).1
noncomputable def whereK (l : D) (n : Int) : Int := ((whereO l n).getD (0, 0)).2
structure whereP (l : D) (n : Int) : Prop where
 out : whereO l n ≠ none
noncomputable def con113 : Con := fun | [.dat 22 l] => some (smallD l, .prop (okHall l)) | _ => none
noncomputable def con50 : Con := fun | [.agg [.str nm, .int .u8 sh, .int .i64 a, .int .i64 b, .dat 29 o, .int .i64 x, .int .i64 y]] => some (o.len ≤ 100, .int .i64 (seatsZ nm sh a b o x y)) | _ => none
noncomputable def con55 : Con := fun | [.dat 22 l] => some (smallD l, .int .i64 (countZ l)) | _ => none
noncomputable def con52 : Con := fun | [.dat 22 l, .int .i64 t] => some (smallD l, .int .i64 (firstZ l t)) | _ => none
noncomputable def con57 : Con := fun | [.dat 22 l, .str s] => some (smallD l, .tup [.int .i64 (findZ l s), .prop (foundP l s)]) | _ => none
noncomputable def con56 : Con := fun | [.dat 22 l, .int .i64 n] => some (smallD l ∧ i64P n, .tup [.int .i64 (whereT l n), .int .i64 (whereK l n), .prop (whereP l n)]) | _ => none
noncomputable def num1 : FuncId → Option Con
 | 113 => some con113
 | 50 => some con50
 | g => chk3 g
noncomputable def num2 : FuncId → Option Con
 | 55 => some con55
 | 52 => some (extC con52)
 | 57 => some (extC con57)
 | 56 => some (extC con56)
 | g => num1 g
noncomputable def numAnn : FuncId → Nat → Option Ann
 | 49, 3 => some { hs := 2, τ := Nat, slots := fun _ i x => match i with | 0 => [(13, .int .i64 0), (3, .val (.slice none 0 0))] | _ => [(13, .int .i64 x), (3, .slc 60 (.lit 0) (.sym x) none)],
                   blks := fun S i x => match i with | 0 => [] | _ => [(60, .arr 31 (madeL (slD S 0) x))], inv := fun S i x => match i with | 0 => x = 0 | _ => 0 < x ∧ x ≤ min (slD S 0).len 16, meas := fun _ _ x => 16 - x }
 | 56, 5 => some { τ := Nat × Int, slots := fun _ _ x => [(20, .int .i64 x.1), (5, .int .i64 x.2)], blks := fun _ _ _ => [], inv := fun S _ x => x.1 ≤ (slD S 0).len ∧ 0 ≤ x.2 ∧ x.2 ≤ slI S 1 ∧ whereZ (slD S 0) ((slD S 0).len - x.1) x.1 x.2 = whereZ (slD S 0) (slD S 0).len 0 (slI S 1), meas := fun S _ x => (slD S 0).len - x.1 }
 | 16, 4 => some { τ := Nat, slots := fun S _ x => [(27, .int .i64 x), (6, .int .i64 (sumZ (slD S 5) x))], blks := fun _ _ _ => [], inv := fun S _ x => x ≤ (slD S 5).len, meas := fun S _ x => (slD S 5).len - x }
 | 16, 7 => some { τ := Nat, slots := fun S _ k => [(34, .int .i64 k), (6, .int .i64 (sumZ (slD S 5) (slI S 27).toNat + k))], blks := fun _ _ _ => [], inv := fun S _ k => k ≤ (slI S 33).toNat, meas := fun S _ k => (slI S 33).toNat - k }
 | g, i => chkAnn g i
end Go.Ev

end

section
open Go.Proofs
namespace Go.Ev
noncomputable def deadAnn : Ann := { hs := 0, τ := Unit, slots := fun _ _ _ => [], blks := fun _ _ _ => [], inv := fun _ _ _ => False, meas := fun _ _ _ => 0 }
noncomputable def refAnn (g : FuncId) (i : Nat) : Option Ann :=
 match g, i with
 | 58, 5 => some { τ := Unit, slots := fun _ _ _ => [(13, .int .i64 0)], blks := fun _ _ _ => [], inv := fun S _ _ => (slD S 0).len = 0, meas := fun _ _ _ => 0 }
 | g, i => match numAnn g i with | some a => some a | none => some deadAnn
noncomputable def ctxF (con : FuncId → Option Con) (ann : FuncId → Nat → Option Ann) (frz : FuncId → Nat → List (Tmp × Nat × TypeId)) (join : FuncId → Nat → Option Ann) : Ctx := { ctx con ann with frz := frz, join := join }
noncomputable def slB (S : SS) (t : Tmp) : Nat := match S.fr.get t with | some (.ptr b _) => b | _ => 0
end Go.Ev

end

section
open Go.Proofs
namespace Go.Ev
def lo (k m : Int) : Int := min k m
def hi (k m : Int) : Int := max k m
structure besideP (sh a b k m : Int) : Prop where
 out : k ≠ m ∧ ((sh = 1 ∧ (hi k m = lo k m + 1 ∨ (lo k m = 0 ∧ hi k m = a - 1))) ∨ (sh = 2 ∧ ((hi k m = lo k m + 1 ∧ ¬ (b = 0 ∧ hi k m = a)) ∨ (b = 2 ∧ lo k m = 0 ∧ hi k m = 2 * a + 1))) ∨
  (sh = 3 ∧ hi k m = lo k m + 1) ∨ (sh = 4 ∧ hi k m = lo k m + 1 ∧ (b = 0 ∨ (hi k m).tmod b ≠ 0)))
structure acrossP (sh a b k m : Int) : Prop where
 out : k ≠ m ∧ ((sh = 1 ∧ a.tmod 2 = 0 ∧ hi k m - lo k m = a.tdiv 2) ∨ (sh = 2 ∧ ((b = 2 ∧ hi k m = 2 * a + 1 ∧ lo k m = a) ∨ (¬ (b = 2 ∧ hi k m = 2 * a + 1) ∧ lo k m < a ∧ hi k m = 2 * a - 1 + min b 1 - lo k m))) ∨
  (sh = 3 ∧ lo k m < b ∧ hi k m = a + 2 * b - 1 - lo k m))
structure nearP (sh a b k m : Int) : Prop where
 out : besideP sh a b k m ∨ acrossP sh a b k m
structure inTab (sh a b k : Int) : Prop where
 out : sizeZ sh a b ≠ 0 ∧ 0 ≤ k ∧ k < sizeZ sh a b
noncomputable def con89 : Con := fun | [.agg [.str _, .int .u8 sh, .int .i64 a, .int .i64 b, .dat 29 _, .int .i64 _, .int .i64 _], .int .i64 k, .int .i64 m] => some (inTab sh a b k ∧ inTab sh a b m, .prop (besideP sh a b k m)) | _ => none
noncomputable def con90 : Con := fun | [.agg [.str _, .int .u8 sh, .int .i64 a, .int .i64 b, .dat 29 _, .int .i64 _, .int .i64 _], .int .i64 k, .int .i64 m] => some (inTab sh a b k ∧ inTab sh a b m, .prop (acrossP sh a b k m)) | _ => none
noncomputable def con88 : Con := fun | [.agg [.str _, .int .u8 sh, .int .i64 a, .int .i64 b, .dat 29 _, .int .i64 _, .int .i64 _], .int .i64 k, .int .i64 m] => some (inTab sh a b k ∧ inTab sh a b m, .prop (nearP sh a b k m)) | _ => none
noncomputable def seat1 : FuncId → Option Con
 | 89 => some con89
 | 90 => some con90
 | g => num2 g
end Go.Ev

end

section
open Go.Proofs
namespace Go.Ev
noncomputable def nW (sh a b : Int) : Nat := (IntKind.i64.wrap (IntKind.u64.wrap (sizeZ sh a b))).toNat
noncomputable def con170 : Con := fun | [.int .u64 a, .int .u64 n] => some (a = 1 ∧ 0 ≤ n ∧ n ≤ 24, .tup [.int .u64 0, .int .u64 n]) | _ => none
noncomputable def seat2 : FuncId → Option Con
 | 88 => some con88
 | 170 => some (extC con170)
 | g => seat1 g
noncomputable def slR (S : SS) (t : Tmp) : Nat := match S.fr.get t with | some (.slc b _ _ _) => b | _ => 0
noncomputable def slN (S : SS) (t : Tmp) : Nat := match S.fr.get t with | some (.slc _ _ n _) => n.v | _ => 0
noncomputable def slC (S : SS) (t : Tmp) : Option NL := match S.fr.get t with | some (.slc _ _ _ c) => c | _ => none
noncomputable def tbI (S : SS) (i : Nat) : Int := match S.fr.get 0 with | some (.agg l) => (match l[i]? with | some v => (match intOf v with | some (_, n) => n | none => 0) | none => 0) | _ => 0
noncomputable def rowN (n : Nat) (L : Nat → Int) : List D := (List.range n).map fun m => .int (L m)
noncomputable def rowQ (Q : List Nat) : List D := Q.map fun (m : Nat) => D.int (m : Int)
noncomputable def hdQ (q : List D × List Nat) : Int := (nthD (q.fst ++ rowQ q.snd) (q.fst.length + Int.toNat (0 : Int))).asInt
noncomputable def rowF (k n : Nat) : List D := List.replicate k (.int (-1)) ++ List.replicate (n - k) (.int 0)
noncomputable def nearN (sh a b : Int) : Nat → Nat → Prop := fun k m => nearP sh a b k m
noncomputable def negsR (l : List D) : Nat := (l.filter fun d => decide (d.asInt < 0)).length
structure bfsS (n : Nat) (sh a b from_ : Int) (L : Nat → Int) (Q : List Nat) : Prop where
 out : Bfs n (nearN sh a b) from_.toNat L Q
 low : ∀ m, m < n → L m + negs n L < n
 len : negs n L + Q.length ≤ n
structure bfsI (n : Nat) (sh a b from_ k i : Int) (L : Nat → Int) (Q : List Nat) : Prop where
 out : ∃ d : Nat, BfsIn n (nearN sh a b) from_.toNat k.toNat d i.toNat L Q
 low : ∀ m, m < n → L m + negs n L < n
noncomputable def distRow (n : Nat) (sh a b from_ : Int) : List D := rowN n fun m => distZ n (nearN sh a b) from_.toNat m
noncomputable def distAnn (g : FuncId) (i : Nat) : Option Ann :=
 match g, i with
 | 143, 8 => some { τ := Nat, slots := fun _ _ x => [(8, .int .i64 x)], blks := fun S _ x => [(slR S 7, .arr 3 (rowF x (slN S 7)))], inv := fun S _ x => 0 < x ∧ x ≤ slN S 7, meas := fun S _ x => slN S 7 - x }
 | 86, 4 => some { hs := 2, τ := (Nat → Int) × List D × List Nat,
                   slots := fun S i x => [(6, match i with | 0 => .slc (slR S 6) (.sym x.2.1.length) (.sym x.2.2.length) (some (.sym x.2.2.length)) | _ => .slc 190 (.sym x.2.1.length) (.sym x.2.2.length) none)],
                   blks := fun S i x => [((match i with | 0 => slR S 6 | _ => 190), .arr 3 (x.2.1 ++ rowQ x.2.2)), (slR S 5, .arr 3 (rowN (slN S 5) x.1))],
                   inv := fun S _ x => bfsS (slN S 5) (tbI S 1) (tbI S 2) (tbI S 3) (slI S 1) x.1 x.2.2,
                   meas := fun S _ x => negs (slN S 5) x.1 + x.2.2.length, dead := fun S => [slR S 6] }
 | 86, 8 => some { hs := 2, τ := (Nat → Int) × List D × List Nat × Nat,
                   slots := fun S i x => [(28, .int .i64 x.2.2.2), (6, match i with | 0 => .slc (slR S 6) (.sym x.2.1.length) (.sym x.2.2.1.length) (match slC S 6 with | none => none | some _ => some (.sym x.2.2.1.length)) | _ => .slc 191 (.sym x.2.1.length) (.sym x.2.2.1.length) none)],
                   blks := fun S i x => [((match i with | 0 => slR S 6 | _ => 191), .arr 3 (x.2.1 ++ rowQ x.2.2.1)), (slR S 5, .arr 3 (rowN (slN S 5) x.1))],
                   inv := fun S _ x => bfsI (slN S 5) (tbI S 1) (tbI S 2) (tbI S 3) (slI S 1) (slI S 7) x.2.2.2 x.1 x.2.2.1 ∧ x.2.2.2 ≤ slN S 5 ∧ negs (slN S 5) x.1 + x.2.2.1.length = negsR (bkL S (slR S 5)) + slN S 6,
                   meas := fun S _ x => slN S 5 - x.2.2.2, dead := fun S => [slR S 6] }
 | g, i => refAnn g i
end Go.Ev

end

section
open Go.Proofs
namespace Go.Ev
noncomputable def con86 : Con := fun | [.agg [.str _, .int .u8 sh, .int .i64 a, .int .i64 b, .dat 29 _, .int .i64 _, .int .i64 _], .int .i64 k] => some (inTab sh a b k, .dat 29 (.list (distRow (sizeZ sh a b).toNat sh a b k))) | _ => none
noncomputable def seat3 : FuncId → Option Con
 | 86 => some con86
 | g => seat2 g
noncomputable def tabAt (l : D) (p : Int) : D := el l (whereT l p).toNat
structure oneT (l : D) (p q : Int) : Prop where
 out : whereP l p ∧ whereP l q ∧ whereT l p = whereT l q
noncomputable def rowT (l : D) (p : Int) : List D := distRow (sizeT' (tabAt l p)).toNat (tShape (tabAt l p)) (tA (tabAt l p)) (tB (tabAt l p)) (whereK l p)
noncomputable def distD (l : D) (p q : Int) : Int := (nthD (rowT l p) (whereK l q).toNat).asInt
structure distP (l : D) (p q : Int) : Prop where
 out : oneT l p q ∧ 0 ≤ distD l p q
open Classical in
noncomputable def distH (l : D) (p q : Int) : Int := if distP l p q then distD l p q else 0
noncomputable def con32 : Con := fun | [.dat 22 l, .int .i64 p, .int .i64 q] => some (smallD l ∧ i64P p ∧ i64P q, .tup [.int .i64 (distH l p q), .prop (distP l p q)]) | _ => none
structure notIn (o : D) (v : Int) (x : Nat) : Prop where
 out : ∀ j, j < x → (el o j).asInt ≠ v
open Classical in
noncomputable def nbL (sh a b k base : Int) (x : Nat) : List D := ((List.range x).filter fun (m : Nat) => decide (nearP sh a b k m)).map fun (m : Nat) => D.int (base + m)
noncomputable def nbX (d : D) (k base : Int) (x : Nat) : List D := nbL (tShape d) (tA d) (tB d) k base x
noncomputable def lvlAnn (g : FuncId) (i : Nat) : Option Ann :=
 match g, i with
 | 95, 2 => some { τ := Nat, slots := fun _ _ x => [(8, .int .i64 x)], blks := fun _ _ _ => [], inv := fun S _ x => x ≤ (slD S 0).len ∧ notIn (slD S 0) (slI S 1) x, meas := fun S _ x => (slD S 0).len - x }
 | 54, 6 => some { hs := 2, τ := Nat, slots := fun S i x => [(24, .int .i64 x), (8, match i with | 0 => .val (.slice none 0 0) | _ => .slc 70 (.lit 0) (.sym (nbX (el (slD S 0) (slI S 5).toNat) (slI S 6) (slI S 1 - slI S 6) x).length) none)],
                   blks := fun S i x => match i with | 0 => [] | _ => [(70, .arr 3 (nbX (el (slD S 0) (slI S 5).toNat) (slI S 6) (slI S 1 - slI S 6) x))], inv := fun S i x => x ≤ (slI S 23).toNat ∧ (match i with | 0 => nbX (el (slD S 0) (slI S 5).toNat) (slI S 6) (slI S 1 - slI S 6) x = [] | _ => nbX (el (slD S 0) (slI S 5).toNat) (slI S 6) (slI S 1 - slI S 6) x ≠ []), meas := fun S _ x => (slI S 23).toNat - x }
 | g, i => distAnn g i
noncomputable def nearL (l : D) (p : Int) : D := listD (nbX (tabAt l p) (whereK l p) (p - whereK l p) (sizeT' (tabAt l p)).toNat)
open Classical in
noncomputable def nbD (l : D) (p : Int) : D := if whereP l p then nearL l p else .nil
noncomputable def con54 : Con := fun | [.dat 22 l, .int .i64 p] => some (smallD l ∧ i64P p, .dat 29 (nbD l p)) | _ => none
noncomputable def honZ (sh a b : Int) : Int := if sh = 1 then 0 else if sh = 2 then (if b = 0 then a.tdiv 2 else a) else if sh = 3 then b + a.tdiv 2 else a.tdiv 2
noncomputable def con149 : Con := fun | [.agg [.str _, .int .u8 sh, .int .i64 a, .int .i64 b, .dat 29 _, .int .i64 _, .int .i64 _]] => some (sizeZ sh a b ≠ 0, .int .i64 (honZ sh a b)) | _ => none
noncomputable def seat4 : FuncId → Option Con
 | 149 => some con149
 | g => seat2 g
noncomputable def fixR (row : List D) (x : Nat) : List D := (row.take x).map (fun d => if d.asInt < 0 then .int row.length else d) ++ row.drop x
noncomputable def l2Ann (g : FuncId) (i : Nat) : Option Ann :=
 match g, i with
 | 109, 3 => some { τ := Nat, slots := fun _ _ x => [(12, .int .i64 x)], blks := fun S _ x => [(slR S 10, .arr 3 (fixR (bkL S (slR S 10)) x))], inv := fun S _ x => x ≤ (bkL S (slR S 10)).length, meas := fun S _ x => (bkL S (slR S 10)).length - x }
 | g, i => lvlAnn g i
noncomputable def levelRow (sh a b : Int) : List D := fixR (distRow (sizeZ sh a b).toNat sh a b (honZ sh a b)) (sizeZ sh a b).toNat
noncomputable def con109 : Con := fun | [.agg [.str _, .int .u8 sh, .int .i64 a, .int .i64 b, .dat 29 _, .int .i64 _, .int .i64 _]] => some (sizeZ sh a b ≠ 0, .dat 29 (.list (levelRow sh a b))) | _ => none
noncomputable def seat5 : FuncId → Option Con
 | 109 => some con109
 | 149 => some con149
 | g => seat3 g
open Classical in
noncomputable def levelH (l : D) (p : Int) : Int := if whereP l p then (nthD (levelRow (tShape (tabAt l p)) (tA (tabAt l p)) (tB (tabAt l p))) (whereK l p).toNat).asInt else 0
noncomputable def con53 : Con := fun | [.dat 22 l, .int .i64 p] => some (smallD l ∧ i64P p, .int .i64 (levelH l p)) | _ => none
end Go.Ev

end

section
open Go.Proofs
namespace Go.Ev
noncomputable def nextZ (a k : Int) : Int := if k + 1 = a then 0 else k + 1
structure aisleP (b k : Int) : Prop where
 out : b ≠ 0 ∧ 0 < k ∧ k.tmod b = 0
noncomputable def spX (a b k : Int) : Int := if k < a then k else if 0 < b then (if k = a then a else if k - a - 1 < a then a - 1 - (k - a - 1) else -1) else if k - a < a then a - 1 - (k - a) else -1
noncomputable def spY (a b k : Int) : Int := if k < a then 0 else if 0 < b then (if k = a then 1 else if k - a - 1 < a then 2 else 1) else if k - a < a then 2 else 1
open Classical in
noncomputable def firstW (n : Nat) (P : Nat → Prop) : Int := if h : ∃ k, k < n ∧ P k ∧ ∀ j, j < k → ¬ P j then ((Classical.choose h : Nat) : Int) else -1
structure atSpot (a b x y : Int) (k : Nat) : Prop where
 out : spX a b k = x ∧ spY a b k = y
noncomputable def seatZ (sh a b x y : Int) : Int := firstW (sizeZ sh a b).toNat (atSpot a b x y)
structure isIn (o : D) (v : Int) : Prop where
 out : ∃ j, j < o.len ∧ (el o j).asInt = v
noncomputable def tbD (S : SS) (i : Nat) : D := match S.fr.get 0 with | some (.agg l) => (match l[i]? with | some (.dat _ o) => o | _ => .nil) | _ => .nil
noncomputable def spI (S : SS) (i : Nat) : Int := match S.fr.get 1 with | some (.agg l) => (match l[i]? with | some v => (match intOf v with | some (_, n) => n | none => 0) | none => 0) | _ => 0
noncomputable def wrapZ (a k : Int) (x : Nat) : Int := if k + x < a then k + x else k + x - a
structure facing (a b k m : Int) (j : Nat) : Prop where
 out : (k = j ∧ m = a + 2 * b - 1 - j) ∨ (m = j ∧ k = a + 2 * b - 1 - j)
noncomputable def con226 : Con := fun | [.agg [.str _, .int .u8 sh, .int .i64 a, .int .i64 b, .dat 29 _, .int .i64 _, .int .i64 _], .int .i64 k] => some (inTab sh a b k ∧ sh = 1, .int .i64 (nextZ a k)) | _ => none
noncomputable def con227 : Con := fun | [.agg [.str _, .int .u8 sh, .int .i64 a, .int .i64 b, .dat 29 _, .int .i64 _, .int .i64 _], .int .i64 k] => some (inTab sh a b k ∧ sh = 4, .prop (aisleP b k)) | _ => none
noncomputable def con166 : Con := fun | [.agg [.str _, .int .u8 sh, .int .i64 a, .int .i64 b, .dat 29 _, .int .i64 _, .int .i64 _], .int .i64 k] => some (inTab sh a b k ∧ sh = 2, .agg [.int .i64 (spX a b k), .int .i64 (spY a b k)]) | _ => none
noncomputable def con167 : Con := fun | [.agg [.str _, .int .u8 sh, .int .i64 a, .int .i64 b, .dat 29 _, .int .i64 _, .int .i64 _], .agg [.int .i64 x, .int .i64 y]] => some (sh = 2 ∧ sizeZ sh a b ≠ 0 ∧ -100 ≤ x ∧ x ≤ 100 ∧ -100 ≤ y ∧ y ≤ 100, .int .i64 (seatZ sh a b x y)) | _ => none
noncomputable def con133 : Con := fun | [.agg [.str _, .int .u8 _, .int .i64 _, .int .i64 _, .dat 29 o, .int .i64 _, .int .i64 _], .int .i64 k] => some (o.len ≤ 100, .prop (isIn o k)) | _ => none
noncomputable def rf1 : FuncId → Option Con
 | 226 => some con226
 | 227 => some con227
 | 166 => some con166
 | g => num2 g
noncomputable def con164s : Con := fun | [.agg [.str _, .int .u8 sh, .int .i64 a, .int .i64 b, .dat 29 _, .int .i64 _, .int .i64 _], .int .i64 k, .int .i64 m] => some (inTab sh a b k ∧ inTab sh a b m ∧ k ≤ m, .prop (besideP sh a b k m)) | _ => none
noncomputable def con164n : Con := fun | [.agg [.str _, .int .u8 _, .int .i64 _, .int .i64 _, .dat 29 _, .int .i64 _, .int .i64 _], .int .i64 _, .int .i64 _] => some (False, .prop False) | _ => none
noncomputable def rf1n : FuncId → Option Con
 | 164 => some con164n
 | g => rf1 g
noncomputable def rf1s : FuncId → Option Con
 | 164 => some con164s
 | g => rf1 g
noncomputable def rf1b : FuncId → Option Con
 | 167 => some (extC con167)
 | 164 => some con89
 | 133 => some con133
 | g => rf1 g
noncomputable def rf1c : FuncId → Option Con
 | 165 => some con90
 | 163 => some con149
 | g => rf1b g
noncomputable def rf2 : FuncId → Option Con
 | 135 => some con88
 | g => rf1c g
noncomputable def rfAnn (g : FuncId) (i : Nat) : Option Ann :=
 match g, i with
 | 227, 4 => some { τ := Nat, slots := fun S _ x => [(5, .int .i64 (tbI S 3 * (x + 1)))], blks := fun _ _ _ => [], inv := fun S _ x => x ≤ (tbI S 2).toNat ∧ ∀ i : Nat, i < x → tbI S 3 * (i + 1) ≠ slI S 1, meas := fun S _ x => (tbI S 2).toNat + 1 - x }
 | 167, 2 => some { τ := Nat, slots := fun _ _ x => [(5, .int .i64 x)], blks := fun _ _ _ => [], inv := fun S _ x => x ≤ (sizeZ (tbI S 1) (tbI S 2) (tbI S 3)).toNat ∧ ∀ j, j < x → ¬ atSpot (tbI S 2) (tbI S 3) (spI S 0) (spI S 1) j, meas := fun S _ x => (sizeZ (tbI S 1) (tbI S 2) (tbI S 3)).toNat - x }
 | 133, 2 => some { τ := Nat, slots := fun _ _ x => [(5, .int .i64 x)], blks := fun _ _ _ => [], inv := fun S _ x => x ≤ (tbD S 4).len ∧ notIn (tbD S 4) (slI S 1) x, meas := fun S _ x => (tbD S 4).len - x }
 | 165, 8 => some { τ := Nat, slots := fun S _ x => [(7, .int .i64 x), (1, .int .i64 (wrapZ (tbI S 2) (slI S 1) x))], blks := fun _ _ _ => [], inv := fun S _ x => x ≤ ((tbI S 2).tdiv 2).toNat, meas := fun S _ x => ((tbI S 2).tdiv 2).toNat - x }
 | 165, 17 => some { τ := Nat, slots := fun _ _ x => [(10, .int .i64 x)], blks := fun _ _ _ => [], inv := fun S _ x => x ≤ (tbI S 3).toNat ∧ ∀ j, j < x → ¬ facing (tbI S 2) (tbI S 3) (slI S 1) (slI S 2) j, meas := fun S _ x => (tbI S 3).toNat - x }
 | 134, 4 => some { hs := 2, τ := Nat, slots := fun _ i x => match i with | 0 => [(7, .int .i64 0), (6, .val (.slice none 0 0))] | _ => [(7, .int .i64 x), (6, .slc 71 (.lit 0) (.sym x) none)],
                    blks := fun _ i x => match i with | 0 => [] | _ => [(71, .arr 3 (rowN x fun _ => -1))], inv := fun S i x => match i with | 0 => x = 0 | _ => 0 < x ∧ x ≤ (slI S 5).toNat, meas := fun S _ x => (slI S 5).toNat - x }
 | 134, 9 => some { τ := Nat, slots := fun _ _ x => [(8, .int .i64 x)], blks := fun S _ x => [(slR S 6, .arr 3 (rowN (slN S 6) (midL (slN S 6) (nearN (tbI S 1) (tbI S 2) (tbI S 3)) (slI S 1).toNat x 0 0)))], inv := fun S _ x => x ≤ slN S 6, meas := fun S _ x => slN S 6 - x }
 | 134, 12 => some { τ := Nat, slots := fun _ _ x => [(9, .int .i64 x)], blks := fun S _ x => [(slR S 6, .arr 3 (rowN (slN S 6) (midL (slN S 6) (nearN (tbI S 1) (tbI S 2) (tbI S 3)) (slI S 1).toNat (slI S 8).toNat x 0)))], inv := fun S _ x => x ≤ slN S 6, meas := fun S _ x => slN S 6 - x }
 | 134, 15 => some { τ := Nat, slots := fun _ _ x => [(10, .int .i64 x)], blks := fun S _ x => [(slR S 6, .arr 3 (rowN (slN S 6) (midL (slN S 6) (nearN (tbI S 1) (tbI S 2) (tbI S 3)) (slI S 1).toNat (slI S 8).toNat (slI S 9).toNat x)))], inv := fun S _ x => x ≤ slN S 6, meas := fun S _ x => slN S 6 - x }
 | 132, 3 => some { τ := Nat, slots := fun _ _ x => [(4, .int .i64 x)], blks := fun S _ x => [(slR S 3, .arr 3 (fixR (bkL S (slR S 3)) x))], inv := fun S _ x => x ≤ (bkL S (slR S 3)).length, meas := fun S _ x => (bkL S (slR S 3)).length - x }
 | g, i => l2Ann g i
noncomputable def con134 : Con := fun | [.agg [.str _, .int .u8 sh, .int .i64 a, .int .i64 b, .dat 29 _, .int .i64 _, .int .i64 _], .int .i64 k] => some (inTab sh a b k, .dat 29 (.list (distRow (sizeZ sh a b).toNat sh a b k))) | _ => none
noncomputable def con132 : Con := fun | [.agg [.str _, .int .u8 sh, .int .i64 a, .int .i64 b, .dat 29 _, .int .i64 _, .int .i64 _]] => some (sizeZ sh a b ≠ 0, .dat 29 (.list (levelRow sh a b))) | _ => none
end Go.Ev

end

section
open Go.Proofs
namespace Go.Ev
noncomputable def nilV (t : TypeId) : V → V
 | .val (.slice none 0 0) => .dat t .nil
 | v => v
noncomputable def nilsV : List (Option TypeId) → List V → List V
 | some t :: ts, v :: vs => nilV t v :: nilsV ts vs
 | none :: ts, v :: vs => v :: nilsV ts vs
 | _, vs => vs
noncomputable def nilC (ts : List (Option TypeId)) (c : Con) : Con := fun us => c (nilsV ts us)
noncomputable def okNil (P : Program) (t : TypeId) : Bool := match P.underlying t, sizeT P t with | some (.slice _), some 1 => true | _, _ => false
theorem nilV_rel {P : Program} {σ : Sig} {ν : Nu} {t : TypeId} (ht : okNil P t = true) {v : V} {v' : Value} (h : VRel P σ ν v v') : VRel P σ ν (nilV t v) v' := by
 unfold nilV
 split
 ·cases h with
  | val hf =>
   unfold okNil at ht
   split at ht
   ·rename_i e h1 h2; exact .dat h1 (.nil h1 h2)
   ·cases ht
 ·exact h
theorem nilsV_rel {P : Program} {σ : Sig} {ν : Nu} : ∀ {ts : List (Option TypeId)} (_ : ∀ t, some t ∈ ts → okNil P t = true) {us : List V} {vs : List Value} (_ : LRel P σ ν us vs), LRel P σ ν (nilsV ts us) vs
 | [], _, us, vs, h => by cases us <;> exact h
 | o :: ts, ht, [], vs, h => by cases o <;> exact h
 | o :: ts, ht, u :: us, [], h => by have := h.1; cases this
 | o :: ts, ht, u :: us, w :: vs, h => by
  have hr : LRel P σ ν us vs := ⟨by have := h.1; simpa using this, fun j v v' a b => h.2 (j + 1) v v' a b⟩
  have ih := nilsV_rel (ts := ts) (fun t hm => ht t (List.mem_cons_of_mem _ hm)) hr
  have h0 := h.2 0 u w rfl rfl
  cases o with
  | none => exact ⟨by have := ih.1; simpa [nilsV] using this, fun j v v' a b => by
    cases j with
    | zero => cases a; cases b; exact h0
    | succ j => exact ih.2 j v v' a b⟩
  | some t => exact ⟨by have := ih.1; simpa [nilsV] using this, fun j v v' a b => by
    cases j with
    | zero => cases a; cases b; exact nilV_rel (ht t List.mem_cons_self) h0
    | succ j => exact ih.2 j v v' a b⟩
theorem valid_nil {P : Program} {G : Msk} {run : Run} {g : FuncId} {c : Con} {ts : List (Option TypeId)} (ht : ∀ t, some t ∈ ts → okNil P t = true) (h : Valid P G run g c) : Valid P G run g (nilC ts c) := by
 intro us p r hc hp σ H vs hst hl
 exact h (nilsV ts us) p r hc hp σ H vs hst (nilsV_rel ht hl)
open Classical in
noncomputable def allD (l : D) : D := if okHall l then listD (seatsL l l.len) else .nil
structure asked (own l all : D) : Prop where
 copy : own = copyD l
 small : smallD l
 seats : all = allD l
noncomputable def numsL (x : Nat) : List D := (List.range x).map fun (m : Nat) => D.int (m : Int)
noncomputable def rlAnn (g : FuncId) (i : Nat) : Option Ann :=
 match g, i with
 | 72, 11 => some { hs := 2, τ := Nat, slots := fun S i x => [(74, .int .i64 x), (18, match i with | 0 => .val (.slice none 0 0) | _ => .slc 72 (.lit 0) (.sym (nbX (el (slD S 1) (slI S 13).toNat) (slI S 14) (slI S 3 - slI S 14) x).length) none)],
                    blks := fun S i x => match i with | 0 => [] | _ => [(72, .arr 3 (nbX (el (slD S 1) (slI S 13).toNat) (slI S 14) (slI S 3 - slI S 14) x))], inv := fun S i x => x ≤ (slI S 73).toNat ∧ (match i with | 0 => (nbX (el (slD S 1) (slI S 13).toNat) (slI S 14) (slI S 3 - slI S 14) x) = [] | _ => (nbX (el (slD S 1) (slI S 13).toNat) (slI S 14) (slI S 3 - slI S 14) x) ≠ []), meas := fun S _ x => (slI S 73).toNat - x }
 | 72, 17 => some { τ := Nat, slots := fun _ _ x => [(95, .int .i64 x)], blks := fun _ _ _ => [], inv := fun S _ x => x ≤ (slD S 4).len, meas := fun S _ x => (slD S 4).len - x }
 | 22, 7 => some { hs := 2, τ := Nat, slots := fun S i x => [(27, .int .i64 x), (9, match i with | 0 => .slc (slR S 9) (.lit 0) (.lit 4) (some (.lit 4)) | _ => .slc 73 (.lit 0) (.sym (4 + x)) none)],
                   blks := fun S i x => match i with | 0 => [(slR S 9, .arr 3 (bkL S (slR S 9)))] | _ => [(73, .arr 3 (bkL S (slR S 9) ++ numsL x))], inv := fun S i x => match i with | 0 => x = 0 | _ => 0 < x ∧ x ≤ (slI S 26).toNat, meas := fun S _ x => (slI S 26).toNat - x, dead := fun S => [slR S 9] }
 | 22, 12 => some { τ := Nat, slots := fun _ _ x => [(37, .int .i64 x)], blks := fun _ _ _ => [], inv := fun S _ x => x ≤ slN S 35, meas := fun S _ x => slN S 35 - x }
 | g, i => rfAnn g i
end Go.Ev

end

section
open Go.Proofs
namespace Go.Ev
structure reachP (sh a b : Int) (n k m : Nat) : Prop where
 out : 0 ≤ distZ n (nearN sh a b) k m
structure placedP (sh a b : Int) (n x m : Nat) : Prop where
 out : ∃ k, k < x ∧ reachP sh a b n k m
structure placed2 (sh a b : Int) (n x y m : Nat) : Prop where
 out : placedP sh a b n x m ∨ (m < y ∧ reachP sh a b n x m)
noncomputable def placedL (sh a b : Int) (n x y : Nat) : List D := (List.range n).map fun m => D.bool (placed2 sh a b n x y m)
open Classical in
noncomputable def blkMem (sh a b first : Int) (n k y : Nat) : List D := ((List.range y).filter fun m => decide (reachP sh a b n k m)).map fun (m : Nat) => D.int (first + m)
open Classical in
noncomputable def blkL (sh a b first : Int) (n x : Nat) : List D := ((List.range x).filter fun k => decide (¬ placedP sh a b n k k)).map fun k => D.list (blkMem sh a b first n k n)
noncomputable def dN (d : D) : Nat := (sizeT' d).toNat
noncomputable def placedX (d : D) (x y : Nat) : List D := placedL (tShape d) (tA d) (tB d) (dN d) x y
noncomputable def blkM (d : D) (first : Int) (k y : Nat) : List D := blkMem (tShape d) (tA d) (tB d) first (dN d) k y
noncomputable def blkX (d : D) (first : Int) (x : Nat) : List D := blkL (tShape d) (tA d) (tB d) first (dN d) x
structure hasT (l : D) (t : Int) : Prop where
 out : 0 ≤ t ∧ t < l.len ∧ okHall l
open Classical in
noncomputable def blocksD (l : D) (t : Int) : D := if hasT l t then .list (blkX (el l t.toNat) (sumZ l t.toNat) (dN (el l t.toNat))) else .nil
noncomputable def con36 : Con := fun | [.dat 22 l, .int .i64 t] => some (smallD l, .dat 48 (blocksD l t)) | _ => none
open Classical in
noncomputable def farF (l : D) (x y : Nat) : Int := if distP l x y then distH l x y else 99
def gridL (n : Nat) (f : Nat → Nat → Int) (x y : Nat) : List D := (List.range 576).map fun i => D.int (if (i / 24 < x ∧ i % 24 < n) ∨ (i / 24 = x ∧ i % 24 < y) then f (i / 24) (i % 24) else 0)
noncomputable def sumLen (bl : D) : Nat → Int
 | 0 => 0
 | x + 1 => sumLen bl x + (el bl x).len
noncomputable def metAnn (g : FuncId) (i : Nat) : Option Ann :=
 match g, i with
 | 37, 2 => some { τ := Nat, slots := fun S _ x => [(3, .int .i64 ((slD S 0).len - 1 - x))], blks := fun _ _ _ => [], inv := fun S _ x => x ≤ (slD S 0).len ∧ ∀ j, 0 < j → j < (slD S 0).len → (slD S 0).len < j + 1 + x → ¬ ((el (slD S 0) j).asInt < (el (slD S 0) (j - 1)).asInt), meas := fun S _ x => (slD S 0).len - x }
 | 36, 7 => some { hs := 2, τ := Nat, slots := fun S i x => [(27, .int .i64 x), (7, match i with | 0 => .val (.slice none 0 0) | _ => .slc 75 (.lit 0) (.sym (blkX (el (slD S 0) (slI S 1).toNat) (slI S 5) x).length) none)],
                   blks := fun S i x => match i with | 0 => [(slR S 6, .arr 4 (placedX (el (slD S 0) (slI S 1).toNat) x 0))] | _ => [(slR S 6, .arr 4 (placedX (el (slD S 0) (slI S 1).toNat) x 0)), (75, .arr 29 (blkX (el (slD S 0) (slI S 1).toNat) (slI S 5) x))],
                   inv := fun S i x => x ≤ (slI S 26).toNat ∧ (match i with | 0 => blkX (el (slD S 0) (slI S 1).toNat) (slI S 5) x = [] | _ => blkX (el (slD S 0) (slI S 1).toNat) (slI S 5) x ≠ []), meas := fun S _ x => (slI S 26).toNat - x }
 | 36, 12 => some { hs := 2, τ := Nat, slots := fun S i x => [(41, .int .i64 x), (9, match i with | 0 => .val (.slice none 0 0) | _ => .slc 76 (.lit 0) (.sym (blkM (el (slD S 0) (slI S 1).toNat) (slI S 5) (slI S 8).toNat x).length) none)],
                    blks := fun S i x => match i with | 0 => [(slR S 6, .arr 4 (placedX (el (slD S 0) (slI S 1).toNat) (slI S 8).toNat x))] | _ => [(slR S 6, .arr 4 (placedX (el (slD S 0) (slI S 1).toNat) (slI S 8).toNat x)), (76, .arr 3 (blkM (el (slD S 0) (slI S 1).toNat) (slI S 5) (slI S 8).toNat x))],
                    inv := fun S i x => x ≤ (slI S 40).toNat ∧ (match i with | 0 => blkM (el (slD S 0) (slI S 1).toNat) (slI S 5) (slI S 8).toNat x = [] | _ => blkM (el (slD S 0) (slI S 1).toNat) (slI S 5) (slI S 8).toNat x ≠ []), meas := fun S _ x => (slI S 40).toNat - x }
 | 11, 6 => some { τ := Nat, slots := fun _ _ x => [(29, .int .i64 x)], blks := fun S _ x => [(slB S 6, .grd 45 3 (gridL (slI S 4).toNat (farF (slD S 3)) x 0))], inv := fun S _ x => x ≤ (slI S 4).toNat, meas := fun S _ x => (slI S 4).toNat - x }
 | 11, 9 => some { τ := Nat, slots := fun _ _ x => [(33, .int .i64 x)], blks := fun S _ x => [(slB S 6, .grd 45 3 (gridL (slI S 4).toNat (farF (slD S 3)) (slI S 29).toNat x))], inv := fun S _ x => x ≤ (slI S 4).toNat, meas := fun S _ x => (slI S 4).toNat - x }
 | 11, 20 => some { τ := Nat, slots := fun _ _ x => [(97, .int .i64 x)], blks := fun _ _ _ => [], inv := fun S _ x => x ≤ (slI S 4).toNat, meas := fun S _ x => (slI S 4).toNat - x }
 | 11, 23 => some { τ := Nat, slots := fun _ _ x => [(101, .int .i64 x)], blks := fun _ _ _ => [], inv := fun S _ x => x ≤ (slI S 4).toNat, meas := fun S _ x => (slI S 4).toNat - x }
 | 11, 26 => some { τ := Nat, slots := fun _ _ x => [(105, .int .i64 x)], blks := fun _ _ _ => [], inv := fun S _ x => x ≤ (slI S 4).toNat, meas := fun S _ x => (slI S 4).toNat - x }
 | 11, 35 => some { τ := Nat, slots := fun S _ x => [(160, .int .i64 x), (14, .int .i64 (sumLen (slD S 158) x))], blks := fun _ _ _ => [], inv := fun S _ x => x ≤ (slD S 158).len, meas := fun S _ x => (slD S 158).len - x }
 | 11, 40 => some { τ := Nat, slots := fun S _ x => [(169, .int .i64 x), (14, .int .i64 (slI S 14 + x))], blks := fun _ _ _ => [], inv := fun S _ x => x ≤ (slD S 167).len, meas := fun S _ x => (slD S 167).len - x }
 | 11, 43 => some { τ := Nat, slots := fun _ _ x => [(174, .int .i64 x)], blks := fun _ _ _ => [], inv := fun S _ x => x ≤ (slI S 4).toNat, meas := fun S _ x => (slI S 4).toNat - x }
 | g, i => l2Ann g i
end Go.Ev

end

section
open Go.Proofs
namespace Go.Ev
noncomputable def lvN (d : D) (k : Nat) : Int := (nthD (levelRow (tShape d) (tA d) (tB d)) k).asInt
open Classical in
noncomputable def hoP (d : D) (first : Int) (v y : Nat) : List D := ((List.range y).filter fun k => decide (lvN d k = v)).map fun (k : Nat) => D.int (first + k)
noncomputable def hoL (d : D) (first : Int) : Nat → List D
 | 0 => []
 | x + 1 => hoL d first x ++ hoP d first x (dN d)
noncomputable def hoX (d : D) (first : Int) (x y : Nat) : List D := hoL d first x ++ hoP d first x y
open Classical in
noncomputable def honD (l : D) (t : Int) : D := if hasT l t then .list (hoL (el l t.toNat) (sumZ l t.toNat) (dN (el l t.toNat) + 1)) else .nil
structure tabOK (l : D) (t : Int) : Prop where
 out : 0 ≤ t ∧ t < l.len ∧ l.len ≤ 100 ∧ sizeT' (el l t.toNat) ≠ 0
structure leastP (d : D) (k y : Nat) : Prop where
 out : ∀ m, m < y → reachP (tShape d) (tA d) (tB d) (dN d) k m → k ≤ m
structure eqDD (a b : D) : Prop where
 out : a.len = b.len ∧ ∀ i, i < a.len → eqD (el a i) (el b i)
structure rows100 (a : D) : Prop where
 out : a.len ≤ 100 ∧ ∀ i, i < a.len → (el a i).len ≤ 100
noncomputable def con51 : Con := fun | [.dat 22 l, .int .i64 t] => some (smallD l, .dat 29 (honD l t)) | _ => none
noncomputable def con73 : Con := fun | [.dat 22 l, .int .i64 t] => some (tabOK l t, .dat 29 (.list (hoL (el l t.toNat) (sumZ l t.toNat) (dN (el l t.toNat) + 1)))) | _ => none
noncomputable def con74 : Con := fun | [.dat 22 l, .int .i64 t] => some (tabOK l t, .dat 48 (.list (blkX (el l t.toNat) (sumZ l t.toNat) (dN (el l t.toNat))))) | _ => none
noncomputable def con48 : Con := fun | [.dat 48 a, .dat 48 b] => some (rows100 a, .prop (eqDD a b)) | _ => none
noncomputable def con23 : Con := fun | [.dat 22 l, .int .i64 t] => some (fewD l ∧ i64P t, .prop True) | _ => none
noncomputable def con5 : Con := fun | [.dat 22 _, .int .i64 t] => some (i64P t, .prop True) | _ => none
noncomputable def rh1 : FuncId → Option Con
 | 43 => some (nilC [some 29, some 29] con43)
 | 134 => some con134
 | 132 => some con132
 | g => rf2 g
noncomputable def hon1 : FuncId → Option Con
 | 51 => some con51
 | 36 => some con36
 | 73 => some con73
 | 74 => some con74
 | 48 => some con48
 | g => rh1 g
noncomputable def hon2 : FuncId → Option Con
 | 23 => some con23
 | g => hon1 g
noncomputable def honAnn (g : FuncId) (i : Nat) : Option Ann :=
 match g, i with
 | 107, 4 => some { τ := Nat, slots := fun _ _ x => [(17, .int .i64 x)], blks := fun _ _ _ => [], inv := fun S _ x => x ≤ (slD S 0).len ∧ ∀ i, i < x → eqD (el (slD S 0) i) (el (slD S 1) i), meas := fun S _ x => (slD S 0).len - x }
 | 73, 4 => some { hs := 2, τ := Nat, slots := fun S i x => [(7, .int .i64 x), (6, match i with | 0 => .val (.slice none 0 0) | _ => .slc 77 (.lit 0) (.sym (hoL (el (slD S 0) (slI S 1).toNat) (sumZ (slD S 0) (slI S 1).toNat) x).length) none)],
                   blks := fun S i x => match i with | 0 => [] | _ => [(77, .arr 3 (hoL (el (slD S 0) (slI S 1).toNat) (sumZ (slD S 0) (slI S 1).toNat) x))],
                   inv := fun S i x => x ≤ dN (el (slD S 0) (slI S 1).toNat) + 1 ∧ (match i with | 0 => hoL (el (slD S 0) (slI S 1).toNat) (sumZ (slD S 0) (slI S 1).toNat) x = [] | _ => hoL (el (slD S 0) (slI S 1).toNat) (sumZ (slD S 0) (slI S 1).toNat) x ≠ []), meas := fun S _ x => dN (el (slD S 0) (slI S 1).toNat) + 1 - x }
 | 73, 7 => some { hs := 2, τ := Nat, slots := fun S i x => [(8, .int .i64 x), (6, match i with | 0 => .val (.slice none 0 0) | _ => .slc 77 (.lit 0) (.sym (hoX (el (slD S 0) (slI S 1).toNat) (sumZ (slD S 0) (slI S 1).toNat) (slI S 7).toNat x).length) none)],
                   blks := fun S i x => match i with | 0 => [] | _ => [(77, .arr 3 (hoX (el (slD S 0) (slI S 1).toNat) (sumZ (slD S 0) (slI S 1).toNat) (slI S 7).toNat x))],
                   inv := fun S i x => x ≤ dN (el (slD S 0) (slI S 1).toNat) ∧ (match i with | 0 => hoX (el (slD S 0) (slI S 1).toNat) (sumZ (slD S 0) (slI S 1).toNat) (slI S 7).toNat x = [] | _ => hoX (el (slD S 0) (slI S 1).toNat) (sumZ (slD S 0) (slI S 1).toNat) (slI S 7).toNat x ≠ []), meas := fun S _ x => dN (el (slD S 0) (slI S 1).toNat) - x }
 | 74, 4 => some { hs := 2, τ := Nat, slots := fun S i x => [(7, .int .i64 x), (5, match i with | 0 => .val (.slice none 0 0) | _ => .slc 78 (.lit 0) (.sym (blkX (el (slD S 0) (slI S 1).toNat) (sumZ (slD S 0) (slI S 1).toNat) x).length) none)],
                   blks := fun S i x => match i with | 0 => [] | _ => [(78, .arr 29 (blkX (el (slD S 0) (slI S 1).toNat) (sumZ (slD S 0) (slI S 1).toNat) x))],
                   inv := fun S i x => x ≤ dN (el (slD S 0) (slI S 1).toNat) ∧ (match i with | 0 => blkX (el (slD S 0) (slI S 1).toNat) (sumZ (slD S 0) (slI S 1).toNat) x = [] | _ => blkX (el (slD S 0) (slI S 1).toNat) (sumZ (slD S 0) (slI S 1).toNat) x ≠ []), meas := fun S _ x => dN (el (slD S 0) (slI S 1).toNat) - x }
 | 74, 10 => some { hs := 2, τ := Nat, slots := fun S i x => [(11, .int .i64 x), (10, .prop (leastP (el (slD S 0) (slI S 1).toNat) (slI S 7).toNat x)), (9, match i with | 0 => .val (.slice none 0 0) | _ => .slc 79 (.lit 0) (.sym (blkM (el (slD S 0) (slI S 1).toNat) (sumZ (slD S 0) (slI S 1).toNat) (slI S 7).toNat x).length) none)],
                    blks := fun S i x => match i with | 0 => [] | _ => [(79, .arr 3 (blkM (el (slD S 0) (slI S 1).toNat) (sumZ (slD S 0) (slI S 1).toNat) (slI S 7).toNat x))],
                    inv := fun S i x => x ≤ dN (el (slD S 0) (slI S 1).toNat) ∧ (match i with | 0 => blkM (el (slD S 0) (slI S 1).toNat) (sumZ (slD S 0) (slI S 1).toNat) (slI S 7).toNat x = [] | _ => blkM (el (slD S 0) (slI S 1).toNat) (sumZ (slD S 0) (slI S 1).toNat) (slI S 7).toNat x ≠ []), meas := fun S _ x => dN (el (slD S 0) (slI S 1).toNat) - x }
 | g, i => rlAnn g i
end Go.Ev

end

section
open Go.Proofs
namespace Go.Ev
noncomputable def hl1 : FuncId → Option Con
 | 51 => some (extC con51)
 | 32 => some con32
 | 53 => some con53
 | 54 => some con54
 | g => seat5 g
end Go.Ev

end

section
open Go.Proofs
namespace Go.Ev
noncomputable def cmpZ (a b : Int) : Int := if a < b then -1 else if b < a then 1 else 0
noncomputable def orL : List D → Int
 | [] => 0
 | d :: r => if d.asInt = 0 then orL r else d.asInt
noncomputable def orZ (l : D) : Int := orL l.asList
structure zeroP (l : D) (x : Nat) : Prop where
 out : ∀ j, j < x → (el l j).asInt = 0
noncomputable def rowH (F : Int) (n x : Nat) : List D := ((List.range x).map fun (k : Nat) => D.int (F + k)) ++ List.replicate (n - x) (D.int 0)
noncomputable def con101 : Con := fun | [.int .i64 a, .int .i64 b] => some (True, .int .i64 (cmpZ a b)) | _ => none
noncomputable def con112 : Con := fun | [.dat 29 l] => some (l.len ≤ 100, .int .i64 (orZ l)) | _ => none
noncomputable def on1 : FuncId → Option Con
 | 101 => some con101
 | 112 => some con112
 | g => seat5 g
noncomputable def onAnn (g : FuncId) (i : Nat) : Option Ann :=
 match g, i with
 | 112, 3 => some { τ := Nat, slots := fun _ _ x => [(8, .int .i64 x)], blks := fun _ _ _ => [], inv := fun S _ x => x ≤ (slD S 0).len ∧ zeroP (slD S 0) x, meas := fun S _ x => (slD S 0).len - x }
 | 51, 7 => some { τ := Nat, slots := fun _ _ x => [(26, .int .i64 x)], blks := fun S _ x => [(slR S 24, .arr 3 (rowH (sumZ (slD S 0) (slI S 1).toNat) (bkL S (slR S 24)).length x))], inv := fun S _ x => x ≤ (bkL S (slR S 24)).length, meas := fun S _ x => (bkL S (slR S 24)).length - x }
 | g, i => l2Ann g i
end Go.Ev

end
