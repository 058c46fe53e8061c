/-
  Part of the engine that the claim is proved with: it states nothing of the document by itself.
-/
import Derived.KernelRfl
namespace Go.Ev
def addT (q : Nat) : Nat :=
 bif Nat.beq q 2 then 272 else
 bif Nat.beq q 3 then 4328657424 else
 bif Nat.beq q 4 then 81927025744491024 else
 bif Nat.beq q 5 then 247902484485588772559745462800 else
 bif Nat.beq q 7 then 33031507011770334954012677623655500133022363305842895499792 else
 bif Nat.beq q 8 then 514631494928646303341455936939146235248427799039887685160188751890747765264 else
 bif Nat.beq q 9 then 8986690708024339884259668388453865091868182506470258411551265922896781674643265104972283578167824 else
 bif Nat.beq q 11 then 29746795075044179023199769003279618807929714330241442087952522769060923989201372842300727724826674241384195250202557532797285432230389551354622480 else
 bif Nat.beq q 13 then 228527463238487477244356069653781014826245992661723087179312299720966081519087695279046248348868383621198850510016809003276740850274336279020495611276569391074549980160324854608204461749236931050622693904 else
 bif Nat.beq q 16 then 798974726605473726946832238011593618400339158202517049033210936078539962612148351302787556971974837864606271200763683943951953866025539096785282858647326000342156170857478456413950631519959977197563975844721619162716127815821009475742892049151496040916675244806998969647283770674449648040311876430683451920 else
 0
def mulT (q : Nat) : Nat :=
 bif Nat.beq q 2 then 4096 else
 bif Nat.beq q 3 then 4834000896 else
 bif Nat.beq q 4 then 2391432431133523968 else
 bif Nat.beq q 5 then 90137679466370109728138199040 else
 bif Nat.beq q 7 then 7141944096324814997458722369008857060984214660764397469696 else
 bif Nat.beq q 8 then 23691910682714665197238709536041582193718400246807875409196429481426745819136 else
 bif Nat.beq q 9 then 12992295474418726299168584010125499800446975643965808714274855111902658395364003326119775607717888 else
 bif Nat.beq q 11 then 3551856128326417394946179692249942024991980761836727066854741701494294519783604700601957422649296693784840132329757452861785221176492092397977600 else
 bif Nat.beq q 13 then 22295362267168455836780581296502142713193839802415965513453518232860450842239626055886683678241290872445301200332992482257640748467010855976444617341072307694936630483531127207946915317864826156745752576 else
 bif Nat.beq q 16 then 116196760129267793630862849262464326346044543732748708940920453221664288556434379745879494961270582141731748813355742142288220638766218855867759359510984593843506004200114943278699875244065120512813025380665946106619127097398772031257643617143689515450995722003729973585221105779229319991106539050771048038400 else
 0
def prN (q : Nat) : Nat :=
 bif Nat.beq q 2 then 2 else
 bif Nat.beq q 3 then 3 else
 bif Nat.beq q 4 then 2 else
 bif Nat.beq q 5 then 5 else
 bif Nat.beq q 7 then 7 else
 bif Nat.beq q 8 then 2 else
 bif Nat.beq q 9 then 3 else
 bif Nat.beq q 11 then 11 else
 bif Nat.beq q 13 then 13 else
 bif Nat.beq q 16 then 2 else
 0
def rsN (q : Nat) : Nat :=
 bif Nat.beq q 2 then 0 else
 bif Nat.beq q 3 then 0 else
 bif Nat.beq q 4 then 3 else
 bif Nat.beq q 5 then 0 else
 bif Nat.beq q 7 then 0 else
 bif Nat.beq q 8 then 3 else
 bif Nat.beq q 9 then 2 else
 bif Nat.beq q 11 then 0 else
 bif Nat.beq q 13 then 0 else
 bif Nat.beq q 16 then 3 else
 0
def tabN (T q a b : Nat) : Nat := Nat.mod (Nat.shiftRight T (Nat.mul 4 (Nat.add (Nat.mul q a) b))) 16
def aN (q a b : Nat) : Nat := tabN (addT q) q a b
def mN (q a b : Nat) : Nat := tabN (mulT q) q a b
def qsL : List Nat := [2, 3, 4, 5, 7, 8, 9, 11, 13, 16]
def upto (n : Nat) (f : Nat → Bool) : Bool := Nat.rec true (fun k ih => cond (f k) ih false) n
theorem upto_all {n : Nat} {f : Nat → Bool} (h : upto n f = true) : ∀ k, k < n → f k = true := by
 induction n with
 | zero => intro k hk; omega
 | succ n ih =>
  intro k hk
  have h' : cond (f n) (upto n f) false = true := h
  cases hf : f n with
  | false => rw [hf] at h'; cases h'
  | true =>
   rw [hf] at h'
   rcases Nat.lt_or_ge k n with hk' | hk'
   ·exact ih h' k hk'
   ·rw [show k = n by omega]; exact hf
def two (q : Nat) (f : Nat → Nat → Bool) : Bool := upto q fun a => upto q fun b => f a b
def three (q : Nat) (f : Nat → Nat → Nat → Bool) : Bool := upto q fun a => upto q fun b => upto q fun c => f a b c
theorem rngB : (qsL.all fun q => two q fun a b => Nat.blt (aN q a b) q && Nat.blt (mN q a b) q) = true := by kernel_rfl
theorem assB : (qsL.all fun q => three q fun a b c => Nat.beq (aN q a (aN q b c)) (aN q (aN q a b) c)) = true := by kernel_rfl
theorem mssB : (qsL.all fun q => three q fun a b c => Nat.beq (mN q a (mN q b c)) (mN q (mN q a b) c)) = true := by kernel_rfl
theorem disB : (qsL.all fun q => three q fun a b c => Nat.beq (mN q a (aN q b c)) (aN q (mN q a b) (mN q a c))) = true := by kernel_rfl
theorem comB : (qsL.all fun q => two q fun a b => Nat.beq (aN q a b) (aN q b a) && Nat.beq (mN q a b) (mN q b a)) = true := by kernel_rfl
theorem unitB : (qsL.all fun q => upto q fun a => Nat.beq (aN q a 0) a && (Nat.beq (mN q a 1) a && Nat.beq (mN q a 0) 0)) = true := by kernel_rfl
theorem zeroB : (qsL.all fun q => two q fun a b => (Nat.beq (mN q a b) 0) == (Nat.beq a 0 || Nat.beq b 0)) = true := by kernel_rfl
def cntN (f : Nat → Bool) (n : Nat) : Nat := Nat.rec 0 (fun k ih => cond (f k) (Nat.succ ih) ih) n
theorem oppB : (qsL.all fun q => upto q fun a => Nat.beq (cntN (fun u => Nat.beq (aN q a u) 0) q) 1) = true := by kernel_rfl
theorem invB : (qsL.all fun q => upto q fun a => Nat.beq (cntN (fun u => Nat.beq (mN q a u) 1) q) (cond (Nat.beq a 0) 0 1)) = true := by kernel_rfl
theorem beqN (a b : Nat) : Nat.beq a b = true ↔ a = b := ⟨Nat.eq_of_beq_eq_true, fun h => by subst h; exact Nat.beq_refl a⟩
theorem get1 {f : Nat → Nat → Bool} (h : (qsL.all fun q => upto q (f q)) = true) {q a : Nat} (hq : q ∈ qsL) (ha : a < q) : f q a = true := upto_all (List.all_eq_true.1 h q hq) a ha
theorem get2 {f : Nat → Nat → Nat → Bool} (h : (qsL.all fun q => two q (f q)) = true) {q a b : Nat} (hq : q ∈ qsL) (ha : a < q) (hb : b < q) : f q a b = true := upto_all (upto_all (List.all_eq_true.1 h q hq) a ha) b hb
theorem get3 {f : Nat → Nat → Nat → Nat → Bool} (h : (qsL.all fun q => three q (f q)) = true) {q a b c : Nat} (hq : q ∈ qsL) (ha : a < q) (hb : b < q) (hc : c < q) : f q a b c = true := upto_all (upto_all (upto_all (List.all_eq_true.1 h q hq) a ha) b hb) c hc
structure fldP (q : Int) : Prop where
 out : q = 2 ∨ q = 3 ∨ q = 4 ∨ q = 5 ∨ q = 7 ∨ q = 8 ∨ q = 9 ∨ q = 11 ∨ q = 13 ∨ q = 16
theorem fld_nat {q : Int} (h : fldP q) : ∃ n : Nat, n ∈ qsL ∧ q = n := by
 rcases h.out with h | h | h | h | h | h | h | h | h | h <;> subst h
 ·exact ⟨2, by decide, rfl⟩
 ·exact ⟨3, by decide, rfl⟩
 ·exact ⟨4, by decide, rfl⟩
 ·exact ⟨5, by decide, rfl⟩
 ·exact ⟨7, by decide, rfl⟩
 ·exact ⟨8, by decide, rfl⟩
 ·exact ⟨9, by decide, rfl⟩
 ·exact ⟨11, by decide, rfl⟩
 ·exact ⟨13, by decide, rfl⟩
 ·exact ⟨16, by decide, rfl⟩
structure eltP (q a : Int) : Prop where
 out : 0 ≤ a ∧ a < q
theorem elt_nat {n : Nat} {a : Int} (h : eltP n a) : ∃ k : Nat, k < n ∧ a = k := ⟨a.toNat, by have := h.out; omega, by have := h.out; omega⟩
def addZ (q a b : Int) : Int := (aN q.toNat a.toNat b.toNat : Nat)
def mulZ (q a b : Int) : Int := (mN q.toNat a.toNat b.toNat : Nat)
theorem addZ_nat (q a b : Nat) : addZ q a b = (aN q a b : Nat) := rfl
theorem mulZ_nat (q a b : Nat) : mulZ q a b = (mN q a b : Nat) := rfl
section
variable {q a b c : Int}
theorem add_elt (hq : fldP q) (ha : eltP q a) (hb : eltP q b) : eltP q (addZ q a b) := by
 obtain ⟨n, hn, rfl⟩ := fld_nat hq; obtain ⟨a, h1, rfl⟩ := elt_nat ha; obtain ⟨b, h2, rfl⟩ := elt_nat hb
 have := get2 rngB hn h1 h2
 simp only [Bool.and_eq_true] at this
 have h := Nat.le_of_ble_eq_true this.1
 exact ⟨by rw [addZ_nat]; omega, by rw [addZ_nat]; omega⟩
theorem mul_elt (hq : fldP q) (ha : eltP q a) (hb : eltP q b) : eltP q (mulZ q a b) := by
 obtain ⟨n, hn, rfl⟩ := fld_nat hq; obtain ⟨a, h1, rfl⟩ := elt_nat ha; obtain ⟨b, h2, rfl⟩ := elt_nat hb
 have := get2 rngB hn h1 h2
 simp only [Bool.and_eq_true] at this
 have h := Nat.le_of_ble_eq_true this.2
 exact ⟨by rw [mulZ_nat]; omega, by rw [mulZ_nat]; omega⟩
theorem add_assoc' (hq : fldP q) (ha : eltP q a) (hb : eltP q b) (hc : eltP q c) : addZ q a (addZ q b c) = addZ q (addZ q a b) c := by
 obtain ⟨n, hn, rfl⟩ := fld_nat hq; obtain ⟨a, h1, rfl⟩ := elt_nat ha; obtain ⟨b, h2, rfl⟩ := elt_nat hb; obtain ⟨c, h3, rfl⟩ := elt_nat hc
 exact congrArg Nat.cast (Nat.eq_of_beq_eq_true (get3 assB hn h1 h2 h3))
theorem mul_assoc' (hq : fldP q) (ha : eltP q a) (hb : eltP q b) (hc : eltP q c) : mulZ q a (mulZ q b c) = mulZ q (mulZ q a b) c := by
 obtain ⟨n, hn, rfl⟩ := fld_nat hq; obtain ⟨a, h1, rfl⟩ := elt_nat ha; obtain ⟨b, h2, rfl⟩ := elt_nat hb; obtain ⟨c, h3, rfl⟩ := elt_nat hc
 exact congrArg Nat.cast (Nat.eq_of_beq_eq_true (get3 mssB hn h1 h2 h3))
theorem distrib' (hq : fldP q) (ha : eltP q a) (hb : eltP q b) (hc : eltP q c) : mulZ q a (addZ q b c) = addZ q (mulZ q a b) (mulZ q a c) := by
 obtain ⟨n, hn, rfl⟩ := fld_nat hq; obtain ⟨a, h1, rfl⟩ := elt_nat ha; obtain ⟨b, h2, rfl⟩ := elt_nat hb; obtain ⟨c, h3, rfl⟩ := elt_nat hc
 exact congrArg Nat.cast (Nat.eq_of_beq_eq_true (get3 disB hn h1 h2 h3))
theorem add_comm' (hq : fldP q) (ha : eltP q a) (hb : eltP q b) : addZ q a b = addZ q b a := by
 obtain ⟨n, hn, rfl⟩ := fld_nat hq; obtain ⟨a, h1, rfl⟩ := elt_nat ha; obtain ⟨b, h2, rfl⟩ := elt_nat hb
 have := get2 comB hn h1 h2
 simp only [Bool.and_eq_true] at this
 exact congrArg Nat.cast (Nat.eq_of_beq_eq_true this.1)
theorem mul_comm' (hq : fldP q) (ha : eltP q a) (hb : eltP q b) : mulZ q a b = mulZ q b a := by
 obtain ⟨n, hn, rfl⟩ := fld_nat hq; obtain ⟨a, h1, rfl⟩ := elt_nat ha; obtain ⟨b, h2, rfl⟩ := elt_nat hb
 have := get2 comB hn h1 h2
 simp only [Bool.and_eq_true] at this
 exact congrArg Nat.cast (Nat.eq_of_beq_eq_true this.2)
theorem add_zero' (hq : fldP q) (ha : eltP q a) : addZ q a 0 = a := by
 obtain ⟨n, hn, rfl⟩ := fld_nat hq; obtain ⟨a, h1, rfl⟩ := elt_nat ha
 have := get1 unitB hn h1
 simp only [Bool.and_eq_true] at this
 exact congrArg Nat.cast (Nat.eq_of_beq_eq_true this.1)
theorem mul_one' (hq : fldP q) (ha : eltP q a) : mulZ q a 1 = a := by
 obtain ⟨n, hn, rfl⟩ := fld_nat hq; obtain ⟨a, h1, rfl⟩ := elt_nat ha
 have := get1 unitB hn h1
 simp only [Bool.and_eq_true] at this
 exact congrArg Nat.cast (Nat.eq_of_beq_eq_true this.2.1)
theorem mul_zero' (hq : fldP q) (ha : eltP q a) : mulZ q a 0 = 0 := by
 obtain ⟨n, hn, rfl⟩ := fld_nat hq; obtain ⟨a, h1, rfl⟩ := elt_nat ha
 have := get1 unitB hn h1
 simp only [Bool.and_eq_true] at this
 exact congrArg Nat.cast (Nat.eq_of_beq_eq_true this.2.2)
theorem mul_zero_iff (hq : fldP q) (ha : eltP q a) (hb : eltP q b) : mulZ q a b = 0 ↔ (a = 0 ∨ b = 0) := by
 obtain ⟨n, hn, rfl⟩ := fld_nat hq; obtain ⟨a, h1, rfl⟩ := elt_nat ha; obtain ⟨b, h2, rfl⟩ := elt_nat hb
 have := get2 zeroB hn h1 h2
 simp only [beq_iff_eq] at this
 have h : (Nat.beq (mN n a b) 0 = true ↔ (Nat.beq a 0 || Nat.beq b 0) = true) := by rw [this]
 rw [Bool.or_eq_true, beqN, beqN, beqN] at h
 rw [mulZ_nat]
 constructor
 ·intro hz; rcases h.1 (by omega) with h | h <;> omega
 ·intro hz; have := h.2 (by omega); omega
end
open Classical in
noncomputable def cntZ (f : Int → Prop) : Nat → Int
 | 0 => 0
 | n + 1 => if f n then cntZ f n + 1 else cntZ f n
theorem cnt_nat {f : Int → Prop} {g : Nat → Bool} (h : ∀ k : Nat, f k ↔ g k = true) : ∀ n, cntZ f n = (cntN g n : Nat)
 | 0 => rfl
 | n + 1 => by
  have e : cntN g (n + 1) = cond (g n) (Nat.succ (cntN g n)) (cntN g n) := rfl
  unfold cntZ
  rw [e, cnt_nat h n]
  cases hg : g n with
  | true => rw [if_pos ((h n).2 hg)]; rfl
  | false => rw [if_neg (fun hf => by rw [(h n).1 hf] at hg; cases hg)]; rfl
theorem cnt_rng (f : Int → Prop) : ∀ n : Nat, 0 ≤ cntZ f n ∧ cntZ f n ≤ n
 | 0 => ⟨Int.le_refl _, Int.le_refl _⟩
 | n + 1 => by
  have := cnt_rng f n
  unfold cntZ
  split <;> constructor <;> omega
theorem opp_one {q a : Int} (hq : fldP q) (ha : eltP q a) : cntZ (fun u => addZ q a u = 0) q.toNat = 1 := by
 obtain ⟨n, hn, rfl⟩ := fld_nat hq; obtain ⟨a, h1, rfl⟩ := elt_nat ha
 have := get1 oppB hn h1
 rw [cnt_nat (g := fun u => Nat.beq (aN n a u) 0)]
 ·exact congrArg Nat.cast (Nat.eq_of_beq_eq_true this)
 ·intro k; rw [addZ_nat, beqN]; omega
theorem inv_one {q a : Int} (hq : fldP q) (ha : eltP q a) : cntZ (fun u => mulZ q a u = 1) q.toNat = min a 1 := by
 obtain ⟨n, hn, rfl⟩ := fld_nat hq; obtain ⟨a, h1, rfl⟩ := elt_nat ha
 have := get1 invB hn h1
 rw [cnt_nat (g := fun u => Nat.beq (mN n a u) 1)]
 ·have h := Nat.eq_of_beq_eq_true this
  show ((cntN (fun u => Nat.beq (mN n a u) 1) n : Nat) : Int) = _
  rw [h]
  cases a with
  | zero => rfl
  | succ a => show (1 : Int) = _; omega
 ·intro k; rw [mulZ_nat, beqN]; omega
def plusG (q p a d b : Int) : Nat → Int → Int → Int
 | 0, _, s => s
 | n + 1, u, s => if u < q then plusG q p a d b n (u * p) (s + (a.tdiv u + d * b.tdiv u).tmod p * u) else s
def plusZ (q p a d b : Int) : Int := plusG q p a d b 5 1 0
def raisedZ (q p r a : Int) : Int := plusZ q p (a.tmod (q.tdiv p) * p) (a.tdiv (q.tdiv p)) r
end Go.Ev
