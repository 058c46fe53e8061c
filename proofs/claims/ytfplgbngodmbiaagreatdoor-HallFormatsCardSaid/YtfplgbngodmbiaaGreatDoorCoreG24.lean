/-
  Part of the engine that the claim is proved with: it states nothing of the document by itself.
-/
import Derived.Test.YtfplgbngodmbiaaGreatDoorCoreGlob
import Derived.Test.YtfplgbngodmbiaaGreatDoorCoreSort
import Derived.Test.YtfplgbngodmbiaaGreatDoorCoreSeC

section
open Go.Proofs
namespace Go.Ev
def atI (d : D) (k : Nat) : Int := (nthD d.asList k).asInt
def seenL (d : D) (k : Nat) : List D := (List.range d.len).map fun (x : Nat) => D.bool (∃ i, i < k ∧ atI d i = x)
def lastAt (d : D) (x : Nat) : Nat → Int
  | 0 => 0
  | k + 1 => if atI d k = x then k else lastAt d x k
def backL (d : D) (k : Nat) : List D := (List.range d.len).map fun (x : Nat) => D.int (lastAt d x k)
def eqD (a b : D) : Prop := a.len = b.len ∧ ∀ i, i < a.len → atI a i = atI b i
noncomputable def con43 : Con := fun | [.dat 29 a, .dat 29 b] => some (a.len ≤ 100, .prop (eqD a b)) | _ => none
noncomputable def permAnn : FuncId → Nat → Option Ann
  | 80, 2 => some { τ := Nat, slots := fun _ _ i => [(3, .int .i64 i)], blks := fun _ _ _ => [], inv := fun S _ i => i ≤ (slD S 0).len ∧ ∀ w : Nat, w < i → ∃ k, k < (slD S 0).len ∧ atI (slD S 0) k = w, meas := fun S _ i => (slD S 0).len - i }
  | 80, 6 => some { τ := Nat × Prop, slots := fun _ _ x => [(5, .int .i64 x.1), (4, .prop x.2)], blks := fun _ _ _ => [], inv := fun S _ x => x.1 ≤ (slD S 0).len ∧ (x.2 ↔ ∃ k, k < x.1 ∧ atI (slD S 0) k = slI S 3), meas := fun S _ x => (slD S 0).len - x.1 }
  | 103, 3 => some { τ := Nat, slots := fun _ _ x => [(11, .int .i64 x)], blks := fun S _ x => [(0, .arr 4 (seenL (slD S 0) x))], inv := fun S _ x => x ≤ (slD S 0).len ∧ (∀ i, i < x → 0 ≤ atI (slD S 0) i ∧ atI (slD S 0) i < (slD S 0).len) ∧ ∀ i j, i < j → j < x → atI (slD S 0) i ≠ atI (slD S 0) j, meas := fun S _ x => (slD S 0).len - x }
  | 43, 4 => some { τ := Nat, slots := fun _ _ x => [(13, .int .i64 x)], blks := fun _ _ _ => [], inv := fun S _ x => x ≤ (slD S 0).len ∧ ∀ i, i < x → atI (slD S 0) i = atI (slD S 1) i, meas := fun S _ x => (slD S 0).len - x }
  | 42, 5 => some { τ := Nat, slots := fun _ _ x => [(14, .int .i64 x)], blks := fun S _ x => [(0, .arr 3 (backL (slD S 0) x))], inv := fun S _ x => x ≤ (slD S 0).len, meas := fun S _ x => (slD S 0).len - x }
  | _, _ => none
noncomputable def conDec : Con := fun
  | [.int .i64 n] => some (0 ≤ n ∧ n ≤ 1000, .str (decB n))
  | [.val (.int .i64 n)] => some (0 ≤ n ∧ n ≤ 1000, .str (decB n))
  | _ => none
noncomputable def tabS : FuncId → Option Con := fun g => cond (isTab g) (some conDec) none
theorem tabS_ok (g : FuncId) : TabOK Tryz.prog (tabM g) (tabS g) := by
  unfold TabOK tabS
  cases hg : isTab g with
  | false =>
    intro xs
    unfold tabM
    split
    · rw [hg]; rfl
    · rfl
  | true =>
    intro us p r hc hp σ ν xs hl
    have key : ∀ n : Int, 0 ≤ n → n ≤ 1000 → tabM g [.int .i64 n] = some (.string ⟨⟨decB n⟩⟩) := fun n h0 h1 => by
      obtain ⟨m, rfl⟩ := Int.eq_ofNat_of_zero_le h0
      show cond (isTab g && Nat.ble m 1000) _ none = _
      rw [hg, Nat.ble_eq_true_of_le (by omega)]
      rfl
    unfold conDec at hc
    split at hc
    · rename_i n
      simp only [Option.some.injEq, Prod.mk.injEq] at hc
      obtain ⟨rfl, rfl⟩ := hc
      obtain ⟨v', rfl⟩ : ∃ v', xs = [v'] := by
        have := hl.1
        match xs, this with
        | [a], _ => exact ⟨a, rfl⟩
      have hv := hl.2 0 _ _ rfl rfl
      cases hv
      exact ⟨rfl, _, key n hp.1 hp.2, .str⟩
    · rename_i n
      simp only [Option.some.injEq, Prod.mk.injEq] at hc
      obtain ⟨rfl, rfl⟩ := hc
      obtain ⟨v', rfl⟩ : ∃ v', xs = [v'] := by
        have := hl.1
        match xs, this with
        | [a], _ => exact ⟨a, rfl⟩
      have hv := hl.2 0 _ _ rfl rfl
      cases hv
      exact ⟨rfl, _, key n hp.1 hp.2, .str⟩
    · cases hc
noncomputable def ctx (con : FuncId → Option Con) (ann : FuncId → Nat → Option Ann) : Ctx := { P := Tryz.prog, con := con, ora := fun g => cond (Nat.beq g 21) (some (.bool true)) none, bits := 8148143480379124170695548490005220526561112381261839627163311972662352389597279522111094783, ann := ann, tab := tabS, srt := rowsF, srtC := srtF }
end Go.Ev

end

section
open Go.Proofs
namespace Go.Ev
def el (l : D) (i : Nat) : D := nthD l.asList i
def tName (d : D) : List UInt8 := (d.fld 0).asStr
def tShape (d : D) : Int := (d.fld 1).asInt
def tA (d : D) : Int := (d.fld 2).asInt
def tB (d : D) : Int := (d.fld 3).asInt
def tOpen (d : D) : D := d.fld 4
def tX (d : D) : Int := (d.fld 5).asInt
def tY (d : D) : Int := (d.fld 6).asInt
structure nameP (s : List UInt8) : Prop where
  out : 1 ≤ s.length ∧ s.length ≤ 12 ∧ ∀ i, i < s.length → 97 ≤ byteAt s i ∧ byteAt s i ≤ 122
open Classical in
noncomputable def sizeZ (sh a b : Int) : Int :=
  if sh = 1 ∧ (1 ≤ a ∧ a ≤ 24) ∧ b = 0 then a
  else if sh = 2 ∧ (1 ≤ a ∧ a ≤ 11) ∧ 0 ≤ b ∧ b ≤ 2 then 2 * a + b
  else if sh = 3 ∧ (1 ≤ a ∧ a ≤ 8) ∧ 1 ≤ b ∧ b ≤ 8 then a + 2 * b
  else if sh = 4 ∧ (1 ≤ a ∧ a ≤ 24) ∧ 0 ≤ b ∧ b ≤ a then a else 0
structure risingP (o : D) (n : Int) : Prop where
  out : ∀ i, i < o.len → 0 ≤ atI o i ∧ atI o i < n ∧ (0 < i → atI o (i - 1) < atI o i)
def placeP (x : Int) : Prop := 0 ≤ x ∧ x ≤ 1000
open Classical in
noncomputable def errZ (nm : List UInt8) (sh a b : Int) (o : D) (x y : Int) : Int :=
  if ¬ nameP nm then 4 else if sizeZ sh a b = 0 then 10 else if ¬ risingP o (sizeZ sh a b) then 11 else if ¬ (placeP x ∧ placeP y) then 2 else 0
noncomputable def errT (d : D) : Int := errZ (tName d) (tShape d) (tA d) (tB d) (tOpen d) (tX d) (tY d)
noncomputable def sizeT' (d : D) : Int := sizeZ (tShape d) (tA d) (tB d)
open Classical in
noncomputable def idxZ (l : D) (s : List UInt8) : Nat → Nat → Int
  | 0, _ => -1
  | f + 1, i => if tName (el l i) = s then i else idxZ l s f (i + 1)
structure twiceP (l : D) (i : Nat) : Prop where
  out : ∃ k, k < i ∧ tName (el l k) = tName (el l i)
open Classical in
noncomputable def err1 (l : D) (i : Nat) : Int := if errT (el l i) ≠ 0 then errT (el l i) else if twiceP l i then 5 else 0
open Classical in
noncomputable def scanZ (l : D) : Nat → Nat → Int × Int
  | 0, _ => (0, 0)
  | f + 1, i => if err1 l i ≠ 0 then ((i : Nat), err1 l i) else scanZ l f (i + 1)
open Classical in
noncomputable def badZ (l : D) : Int × Int := if 16 < l.len then (0, 7) else scanZ l l.len 0
noncomputable def sumZ (l : D) : Nat → Int
  | 0 => 0
  | n + 1 => sumZ l n + sizeT' (el l n)
def listD (l : List D) : D := match l with | [] => .nil | l => .list l
def seatRow (i n : Nat) : List D := (List.range n).map fun (k : Nat) => D.sct [.int (i : Int), .int (k : Int)]
noncomputable def seatsL (l : D) : Nat → List D
  | 0 => []
  | n + 1 => seatsL l n ++ seatRow n (sizeT' (el l n)).toNat
def copyT (d : D) : D := .sct [.str (tName d), .int (tShape d), .int (tA d), .int (tB d), .list (tOpen d).asList, .int (tX d), .int (tY d)]
def copyL (l : D) (n : Nat) : List D := (List.range n).map fun i => copyT (el l i)
def copyD (l : D) : D := listD (copyL l l.len)
structure sameT (a b : D) : Prop where
  out : tName a = tName b ∧ tShape a = tShape b ∧ tA a = tA b ∧ tB a = tB b ∧ tX a = tX b ∧ tY a = tY b ∧ eqD (tOpen a) (tOpen b)
structure sameAll (a b : D) : Prop where
  out : a.len = b.len ∧ ∀ i, i < a.len → sameT (el a i) (el b i)
structure fewT (d : D) : Prop where
  out : (tName d).length ≤ 40 ∧ (tOpen d).len ≤ 40
structure fewD (l : D) : Prop where
  out : l.len ≤ 20 ∧ ∀ i, i < l.len → fewT (el l i)
structure smallD (l : D) : Prop where
  out : l.len ≤ 100 ∧ ∀ i, i < l.len → (tOpen (el l i)).len ≤ 100
structure seatedD (l : D) : Prop where
  out : l.len ≤ 100 ∧ ∀ i, i < l.len → sizeT' (el l i) ≠ 0
noncomputable def con126 : Con := fun | [.str s] => some (True, .prop (nameP s)) | _ => none
noncomputable def con127 : Con := fun | [.dat 29 o, .int .i64 n] => some (o.len ≤ 100, .prop (risingP o n)) | _ => none
noncomputable def con63 : Con := fun | [.agg [.str nm, .int .u8 sh, .int .i64 a, .int .i64 b, .dat 29 o, .int .i64 x, .int .i64 y]] => some (o.len ≤ 100, .int .i64 (errZ nm sh a b o x y)) | _ => none
noncomputable def con28 : Con := fun | [.agg [.str _, .int .u8 sh, .int .i64 a, .int .i64 b, .dat 29 _, .int .i64 _, .int .i64 _]] => some (True, .int .i64 (sizeZ sh a b)) | _ => none
noncomputable def con93 : Con := fun | [.agg [.str _, .int .u8 sh, .int .i64 a, .int .i64 b, .dat 29 _, .int .i64 _, .int .i64 _]] => some (sizeZ sh a b ≠ 0, .int .i64 (sizeZ sh a b)) | _ => none
noncomputable def con114 : Con := fun | [.dat 22 l, .str s] => some (l.len ≤ 100, .int .i64 (idxZ l s l.len 0)) | _ => none
noncomputable def con62 : Con := fun | [.dat 22 l] => some (smallD l, .tup [.int .i64 (badZ l).1, .int .i64 (badZ l).2]) | _ => none
noncomputable def con92 : Con := fun | [.dat 22 l, .int .i64 n] => some (0 ≤ n ∧ n ≤ l.len ∧ seatedD l, .int .i64 (sumZ l n.toNat)) | _ => none
noncomputable def con70 : Con := fun | [.dat 22 l, .int .i64 n] => some (0 ≤ n ∧ n ≤ l.len ∧ l.len ≤ 100, .int .i64 (sumZ l n.toNat)) | _ => none
noncomputable def con69 : Con := fun | [.dat 22 l] => some (l.len ≤ 100, .dat 91 (listD (seatsL l l.len))) | _ => none
noncomputable def con66 : Con := fun | [.dat 22 l] => some (smallD l, .dat 22 (copyD l)) | _ => none
noncomputable def con79 : Con := fun
  | [.agg [.str n1, .int .u8 s1, .int .i64 a1, .int .i64 b1, .dat 29 o1, .int .i64 x1, .int .i64 y1], .agg [.str n2, .int .u8 s2, .int .i64 a2, .int .i64 b2, .dat 29 o2, .int .i64 x2, .int .i64 y2]] => some (o1.len ≤ 100, .prop (n1 = n2 ∧ s1 = s2 ∧ a1 = a2 ∧ b1 = b2 ∧ x1 = x2 ∧ y1 = y2 ∧ eqD o1 o2))
  | _ => none
noncomputable def con60 : Con := fun | [.dat 22 a, .dat 22 b] => some (smallD a, .prop (sameAll a b)) | _ => none
noncomputable def con19 : Con := fun | [.dat 22 l] => some (True, .prop (fewD l)) | _ => none
noncomputable def chk1 : FuncId → Option Con
  | 43 => some con43
  | 126 => some con126
  | 130 => some con126
  | 127 => some con127
  | 28 => some con28
  | 114 => some con114
  | _ => none
noncomputable def chk2 : FuncId → Option Con
  | 63 => some con63
  | 68 => some con63
  | 93 => some con93
  | 79 => some con79
  | g => chk1 g
noncomputable def chk3 : FuncId → Option Con
  | 62 => some con62
  | 67 => some con62
  | 92 => some con92
  | 70 => some con70
  | 69 => some con69
  | 66 => some con66
  | 60 => some con60
  | 19 => some con19
  | g => chk2 g
noncomputable def lastZ (o : D) (k : Nat) : Int := match k with | 0 => -1 | k + 1 => atI o k
noncomputable def chkAnn : FuncId → Nat → Option Ann
  | 126, 4 => some { τ := Nat, slots := fun _ _ x => [(14, .int .i64 x)], blks := fun _ _ _ => [], inv := fun S _ x => x ≤ (slS S 0).length ∧ ∀ i, i < x → 97 ≤ byteAt (slS S 0) i ∧ byteAt (slS S 0) i ≤ 122, meas := fun S _ x => (slS S 0).length - x }
  | 130, 4 => some { τ := Nat, slots := fun _ _ x => [(3, .int .i64 x)], blks := fun _ _ _ => [], inv := fun S _ x => x ≤ (slS S 0).length ∧ ∀ i, i < x → 97 ≤ byteAt (slS S 0) i ∧ byteAt (slS S 0) i ≤ 122, meas := fun S _ x => (slS S 0).length - x }
  | 127, 3 => some { τ := Nat, slots := fun S _ x => [(10, .int .i64 x), (5, .int .i64 (lastZ (slD S 0) x))], blks := fun _ _ _ => [], inv := fun S _ x => x ≤ (slD S 0).len ∧ ∀ i, i < x → 0 ≤ atI (slD S 0) i ∧ atI (slD S 0) i < slI S 1 ∧ (0 < i → atI (slD S 0) (i - 1) < atI (slD S 0) i), meas := fun S _ x => (slD S 0).len - x }
  | 114, 2 => some { τ := Nat, slots := fun _ _ x => [(9, .int .i64 x)], blks := fun _ _ _ => [], inv := fun S _ x => x ≤ (slD S 0).len ∧ idxZ (slD S 0) (slS S 1) ((slD S 0).len - x) x = idxZ (slD S 0) (slS S 1) (slD S 0).len 0, meas := fun S _ x => (slD S 0).len - x }
  | 62, 4 => some { τ := Nat, slots := fun _ _ x => [(12, .int .i64 x)], blks := fun _ _ _ => [], inv := fun S _ x => x ≤ (slD S 0).len ∧ scanZ (slD S 0) ((slD S 0).len - x) x = scanZ (slD S 0) (slD S 0).len 0, meas := fun S _ x => (slD S 0).len - x }
  | 67, 4 => some { τ := Nat, slots := fun _ _ x => [(4, .int .i64 x)], blks := fun _ _ _ => [], inv := fun S _ x => x ≤ (slD S 0).len ∧ scanZ (slD S 0) ((slD S 0).len - x) x = scanZ (slD S 0) (slD S 0).len 0, meas := fun S _ x => (slD S 0).len - x }
  | 67, 10 => some { τ := Nat, slots := fun _ _ x => [(6, .int .i64 x)], blks := fun _ _ _ => [], inv := fun S _ x => x ≤ (slI S 4).toNat ∧ ∀ k, k < x → tName (el (slD S 0) k) ≠ tName (el (slD S 0) (slI S 4).toNat), meas := fun S _ x => (slI S 4).toNat - x }
  | 92, 3 => some { τ := Nat, slots := fun S _ x => [(12, .int .i64 x), (5, .int .i64 (sumZ (slD S 0) x))], blks := fun _ _ _ => [], inv := fun S _ x => x ≤ (slI S 1).toNat, meas := fun S _ x => (slI S 1).toNat - x }
  | 70, 3 => some { τ := Nat, slots := fun S _ x => [(6, .int .i64 x), (5, .int .i64 (sumZ (slD S 0) x))], blks := fun _ _ _ => [], inv := fun S _ x => x ≤ (slI S 1).toNat, meas := fun S _ x => (slI S 1).toNat - x }
  | 121, 4 => some { τ := Nat, slots := fun _ _ x => [(17, .int .i64 x)], blks := fun _ _ _ => [], inv := fun S _ x => x ≤ (slD S 0).len ∧ ∀ i, i < x → sameT (el (slD S 0) i) (el (slD S 1) i), meas := fun S _ x => (slD S 0).len - x }
  | 129, 2 => some { τ := Nat, slots := fun _ _ x => [(8, .int .i64 x)], blks := fun _ _ _ => [], inv := fun S _ x => x ≤ (slD S 0).len ∧ ∀ i, i < x → fewT (el (slD S 0) i), meas := fun S _ x => (slD S 0).len - x }
  | 66, 3 => some { hs := 2, τ := Nat, slots := fun _ i x => match i with | 0 => [(8, .int .i64 0), (3, .val (.slice none 0 0))] | _ => [(8, .int .i64 x), (3, .slc 60 (.lit 0) (.sym x) none)],
                    blks := fun S i x => match i with | 0 => [] | _ => [(60, .arr 31 (copyL (slD S 0) x))], inv := fun S i x => match i with | 0 => x = 0 | _ => 0 < x ∧ x ≤ (slD S 0).len, meas := fun S _ x => (slD S 0).len - x }
  | 69, 3 => some { hs := 2, τ := Nat, slots := fun S i x => match i with | 0 => [(4, .int .i64 x), (3, .val (.slice none 0 0))] | _ => [(4, .int .i64 x), (3, .slc 60 (.lit 0) (.sym (seatsL (slD S 0) x).length) none)],
                    blks := fun S i x => match i with | 0 => [] | _ => [(60, .arr 151 (seatsL (slD S 0) x))], inv := fun S i x => match i with | 0 => x ≤ (slD S 0).len ∧ seatsL (slD S 0) x = [] | _ => x ≤ (slD S 0).len ∧ seatsL (slD S 0) x ≠ [], meas := fun S _ x => (slD S 0).len - x }
  | 69, 6 => some { hs := 2, τ := Nat, slots := fun S i k => match i with | 0 => [(5, .int .i64 k), (3, .val (.slice none 0 0))] | _ => [(5, .int .i64 k), (3, .slc 60 (.lit 0) (.sym (seatsL (slD S 0) (slI S 4).toNat ++ seatRow (slI S 4).toNat k).length) none)],
                    blks := fun S i k => match i with | 0 => [] | _ => [(60, .arr 151 (seatsL (slD S 0) (slI S 4).toNat ++ seatRow (slI S 4).toNat k))],
                    inv := fun S i k => k ≤ (sizeT' (el (slD S 0) (slI S 4).toNat)).toNat ∧ match i with | 0 => seatsL (slD S 0) (slI S 4).toNat ++ seatRow (slI S 4).toNat k = [] | _ => seatsL (slD S 0) (slI S 4).toNat ++ seatRow (slI S 4).toNat k ≠ [], meas := fun S _ k => (sizeT' (el (slD S 0) (slI S 4).toNat)).toNat - k }
  | 20, 7 => some { τ := Nat, slots := fun _ _ x => [(44, .int .i64 x)], blks := fun _ _ _ => [], inv := fun S _ x => x ≤ (slD S 0).len, meas := fun S _ x => (slD S 0).len - x }
  | 20, 22 => some { τ := Nat × Int × Prop, slots := fun _ _ x => [(94, .int .i64 x.1), (17, .int .i64 x.2.1), (18, .prop x.2.2)], blks := fun _ _ _ => [],
                     inv := fun S _ x => x.1 ≤ (slD S 0).len ∧ ((x.2.2 ∧ ∃ k : Nat, k < x.1 ∧ x.2.1 = k ∧ tName (el (slD S 0) k) = slS S 1) ∨ (¬ x.2.2 ∧ x.2.1 = 0 ∧ ∀ k, k < x.1 → tName (el (slD S 0) k) ≠ slS S 1)), meas := fun S _ x => (slD S 0).len - x.1 }
  | _, _ => none
noncomputable def chk68 (o : D) (n : Int) : FuncId → Nat → Option Ann
  | 68, 7 => some { τ := Nat, slots := fun _ _ x => [(4, .int .i64 x)], blks := fun _ _ _ => [], inv := fun _ _ x => x ≤ o.len ∧ ∀ i, i < x → 0 ≤ atI o i ∧ atI o i < n ∧ (0 < i → atI o (i - 1) < atI o i), meas := fun _ _ x => o.len - x }
  | _, _ => none
end Go.Ev

end

section
open Go.Proofs
namespace Go.Ev
def tblB : List UInt8 := [116, 97, 98, 108, 101, 32]
def spB : List UInt8 := [32]
def nlB : List UInt8 := [10]
def w1B : List UInt8 := [114, 111, 117, 110, 100]
def w2B : List UInt8 := [108, 111, 110, 103]
def w3B : List UInt8 := [104, 111, 114, 115, 101, 115, 104, 111, 101]
def w4B : List UInt8 := [114, 111, 119]
def wordB (sh : Int) : List UInt8 :=
  if sh = 1 then w1B else if sh = 2 then w2B else if sh = 3 then w3B else w4B
def headB (t : D) : List UInt8 := tblB ++ tName t ++ spB
def lineB (t : D) : List UInt8 := headB t ++ wordB (tShape t)
def nums4 (t : D) : List D := [.int (tA t), .int (tB t), .int (tX t), .int (tY t)]
def numsL (t : D) : List D := nums4 t ++ (tOpen t).asList
def numsB (L : List D) : Nat → List UInt8
  | 0 => []
  | k + 1 => numsB L k ++ (spB ++ decB (nthD L k).asInt)
def tableB (t : D) : List UInt8 := lineB t ++ numsB (numsL t) (numsL t).length ++ nlB
def fmtL (l : D) : Nat → List UInt8
  | 0 => []
  | n + 1 => fmtL l n ++ tableB (el l n)
open Classical in
noncomputable def fmtD (l : D) : List UInt8 := if (badZ l).2 = 0 then fmtL l l.len else []
noncomputable def con83 : Con := fun | [.int .u8 sh] => some (True, .str (wordB sh)) | _ => none
noncomputable def con58 : Con := fun | [.dat 22 l] => some (smallD l, .str (fmtD l)) | _ => none
noncomputable def con30 : Con := fun | [.dat 22 l] => some (smallD l ∧ (badZ l).2 = 0, .str (fmtL l l.len)) | _ => none
noncomputable def con27 : Con := fun | [.dat 22 l] => some (fewD l, .prop True) | _ => none
noncomputable def con9 : Con := fun | [.dat 22 _] => some (True, .prop True) | _ => none
noncomputable def fmt1 : FuncId → Option Con
  | 83 => some con83
  | g => chk3 g
noncomputable def fmt2 : FuncId → Option Con
  | 58 => some con58
  | 30 => some con30
  | g => chk3 g
noncomputable def fmt3 : FuncId → Option Con
  | 27 => some con27
  | g => chk3 g
noncomputable def bkRow (S : SS) (b o r : Nat) : Nat := match bkV S b o with | .slc b _ _ _ => b | _ => r
noncomputable def slRow (S : SS) (t : Tmp) : Nat := match S.fr.get t with | some (.slc b _ _ _) => b | _ => 0
noncomputable def bldBox (r n : Nat) : SB := .box 133 [.ptr 0 0, .slc r (.lit 0) (.sym n) none]
noncomputable def bldRow (s : List UInt8) : SB := .arr 5 (strD s)
noncomputable def fmtAnn : FuncId → Nat → Option Ann
  | 58, 5 => some { hs := 2, τ := Nat, slots := fun _ i x => match i with | 0 => [(13, .int .i64 0)] | _ => [(13, .int .i64 x)],
                    blks := fun S i x => match i with | 0 => [(0, .box 133 [.val (.pointer none), .val (.slice none 0 0)])] | _ => [(0, bldBox 60 (fmtL (slD S 0) x).length), (60, bldRow (fmtL (slD S 0) x))],
                    inv := fun S i x => match i with | 0 => x = 0 | _ => 0 < x ∧ x ≤ (slD S 0).len, meas := fun S _ x => (slD S 0).len - x }
  | 58, 9 => some { τ := Nat, slots := fun _ _ j => [(39, .int .i64 j)],
                    blks := fun S _ j => [(0, .box 133 [.ptr 0 0, .slc (bkRow S 0 1 70) (.lit 0) (.sym ((bkL S (bkRow S 0 1 70)).length + (numsB (bkL S (slRow S 37)) j).length)) none]), (bkRow S 0 1 70, .arr 5 (bkL S (bkRow S 0 1 70) ++ strD (numsB (bkL S (slRow S 37)) j)))],
                    inv := fun S _ j => j ≤ (bkL S (slRow S 37)).length, meas := fun S _ j => (bkL S (slRow S 37)).length - j }
  | 30, 3 => some { τ := Nat, slots := fun S _ x => [(4, .int .i64 x), (3, .str (fmtL (slD S 0) x))], blks := fun _ _ _ => [], inv := fun S _ x => x ≤ (slD S 0).len, meas := fun S _ x => (slD S 0).len - x }
  | 30, 8 => some { τ := Nat, slots := fun S _ j => [(6, .int .i64 j), (3, .str (fmtL (slD S 0) (slI S 4).toNat ++ (lineB (el (slD S 0) (slI S 4).toNat) ++ numsB (numsL (el (slD S 0) (slI S 4).toNat)) (4 + j))))], blks := fun _ _ _ => [],
                    inv := fun S _ j => j ≤ (tOpen (el (slD S 0) (slI S 4).toNat)).len, meas := fun S _ j => (tOpen (el (slD S 0) (slI S 4).toNat)).len - j }
  | _, _ => none
noncomputable def fmtJoin : FuncId → Nat → Option Ann
  | 58, 8 => some { τ := Unit, slots := fun _ _ _ => [],
                    blks := fun S _ _ => [(0, bldBox (bkRow S 0 1 70) (fmtL (slD S 0) (slI S 13).toNat ++ lineB (el (slD S 0) (slI S 13).toNat)).length), (bkRow S 0 1 70, bldRow (fmtL (slD S 0) (slI S 13).toNat ++ lineB (el (slD S 0) (slI S 13).toNat)))],
                    inv := fun _ _ _ => True, meas := fun _ _ _ => 0 }
  | _, _ => none
noncomputable def ctxJ (con : FuncId → Option Con) : Ctx := { ctx con fmtAnn with join := fmtJoin }
end Go.Ev

end
