/-
  Part of the engine that the claim is proved with: it states nothing of the document by itself.
-/
import Derived.KernelRfl
namespace Go.Ev
def addT (q : Nat) : Nat :=
 bif Nat.beq q 2 then 272 else
 bif Nat.beq q 3 then 4328657424 else
 bif Nat.beq q 4 then 81927025744491024 else
 bif Nat.beq q 5 then 247902484485588772559745462800 else
 bif Nat.beq q 7 then 33031507011770334954012677623655500133022363305842895499792 else
 bif Nat.beq q 8 then 514631494928646303341455936939146235248427799039887685160188751890747765264 else
 bif Nat.beq q 9 then 8986690708024339884259668388453865091868182506470258411551265922896781674643265104972283578167824 else
 bif Nat.beq q 11 then 29746795075044179023199769003279618807929714330241442087952522769060923989201372842300727724826674241384195250202557532797285432230389551354622480 else
 bif Nat.beq q 13 then 228527463238487477244356069653781014826245992661723087179312299720966081519087695279046248348868383621198850510016809003276740850274336279020495611276569391074549980160324854608204461749236931050622693904 else
 bif Nat.beq q 16 then 798974726605473726946832238011593618400339158202517049033210936078539962612148351302787556971974837864606271200763683943951953866025539096785282858647326000342156170857478456413950631519959977197563975844721619162716127815821009475742892049151496040916675244806998969647283770674449648040311876430683451920 else
 0
def mulT (q : Nat) : Nat :=
 bif Nat.beq q 2 then 4096 else
 bif Nat.beq q 3 then 4834000896 else
 bif Nat.beq q 4 then 2391432431133523968 else
 bif Nat.beq q 5 then 90137679466370109728138199040 else
 bif Nat.beq q 7 then 7141944096324814997458722369008857060984214660764397469696 else
 bif Nat.beq q 8 then 23691910682714665197238709536041582193718400246807875409196429481426745819136 else
 bif Nat.beq q 9 then 12992295474418726299168584010125499800446975643965808714274855111902658395364003326119775607717888 else
 bif Nat.beq q 11 then 3551856128326417394946179692249942024991980761836727066854741701494294519783604700601957422649296693784840132329757452861785221176492092397977600 else
 bif Nat.beq q 13 then 22295362267168455836780581296502142713193839802415965513453518232860450842239626055886683678241290872445301200332992482257640748467010855976444617341072307694936630483531127207946915317864826156745752576 else
 bif Nat.beq q 16 then 116196760129267793630862849262464326346044543732748708940920453221664288556434379745879494961270582141731748813355742142288220638766218855867759359510984593843506004200114943278699875244065120512813025380665946106619127097398772031257643617143689515450995722003729973585221105779229319991106539050771048038400 else
 0
def prN (q : Nat) : Nat :=
 bif Nat.beq q 2 then 2 else
 bif Nat.beq q 3 then 3 else
 bif Nat.beq q 4 then 2 else
 bif Nat.beq q 5 then 5 else
 bif Nat.beq q 7 then 7 else
 bif Nat.beq q 8 then 2 else
 bif Nat.beq q 9 then 3 else
 bif Nat.beq q 11 then 11 else
 bif Nat.beq q 13 then 13 else
 bif Nat.beq q 16 then 2 else
 0
def rsN (q : Nat) : Nat :=
 bif Nat.beq q 2 then 0 else
 bif Nat.beq q 3 then 0 else
 bif Nat.beq q 4 then 3 else
 bif Nat.beq q 5 then 0 else
 bif Nat.beq q 7 then 0 else
 bif Nat.beq q 8 then 3 else
 bif Nat.beq q 9 then 2 else
 bif Nat.beq q 11 then 0 else
 bif Nat.beq q 13 then 0 else
 bif Nat.beq q 16 then 3 else
 0
def tabN (T q a b : Nat) : Nat := Nat.mod (Nat.shiftRight T (Nat.mul 4 (Nat.add (Nat.mul q a) b))) 16
def aN (q a b : Nat) : Nat := tabN (addT q) q a b
def mN (q a b : Nat) : Nat := tabN (mulT q) q a b
def qsL : List Nat := [2, 3, 4, 5, 7, 8, 9, 11, 13, 16]
def upto (n : Nat) (f : Nat → Bool) : Bool := Nat.rec true (fun k ih => cond (f k) ih false) n
theorem upto_all {n : Nat} {f : Nat → Bool} (h : upto n f = true) : ∀ k, k < n → f k = true := by
 induction n with
 | zero => intro k hk; omega
 | succ n ih =>
  intro k hk
  have h' : cond (f n) (upto n f) false = true := h
  cases hf : f n with
  | false => rw [hf] at h'; cases h'
  | true =>
   rw [hf] at h'
   rcases Nat.lt_or_ge k n with hk' | hk'
   ·exact ih h' k hk'
   ·rw [show k = n by omega]; exact hf
def two (q : Nat) (f : Nat → Nat → Bool) : Bool := upto q fun a => upto q fun b => f a b
def three (q : Nat) (f : Nat → Nat → Nat → Bool) : Bool := upto q fun a => upto q fun b => upto q fun c => f a b c
theorem rngB : (qsL.all fun q => two q fun a b => Nat.blt (aN q a b) q && Nat.blt (mN q a b) q) = true := by kernel_rfl
theorem beqN (a b : Nat) : Nat.beq a b = true ↔ a = b := ⟨Nat.eq_of_beq_eq_true, fun h => by subst h; exact Nat.beq_refl a⟩
theorem get2 {f : Nat → Nat → Nat → Bool} (h : (qsL.all fun q => two q (f q)) = true) {q a b : Nat} (hq : q ∈ qsL) (ha : a < q) (hb : b < q) : f q a b = true := upto_all (upto_all (List.all_eq_true.1 h q hq) a ha) b hb
structure fldP (q : Int) : Prop where
 out : q = 2 ∨ q = 3 ∨ q = 4 ∨ q = 5 ∨ q = 7 ∨ q = 8 ∨ q = 9 ∨ q = 11 ∨ q = 13 ∨ q = 16
theorem fld_nat {q : Int} (h : fldP q) : ∃ n : Nat, n ∈ qsL ∧ q = n := by
 rcases h.out with h | h | h | h | h | h | h | h | h | h <;> subst h
 ·exact ⟨2, by decide, rfl⟩
 ·exact ⟨3, by decide, rfl⟩
 ·exact ⟨4, by decide, rfl⟩
 ·exact ⟨5, by decide, rfl⟩
 ·exact ⟨7, by decide, rfl⟩
 ·exact ⟨8, by decide, rfl⟩
 ·exact ⟨9, by decide, rfl⟩
 ·exact ⟨11, by decide, rfl⟩
 ·exact ⟨13, by decide, rfl⟩
 ·exact ⟨16, by decide, rfl⟩
structure eltP (q a : Int) : Prop where
 out : 0 ≤ a ∧ a < q
theorem elt_nat {n : Nat} {a : Int} (h : eltP n a) : ∃ k : Nat, k < n ∧ a = k := ⟨a.toNat, by have := h.out; omega, by have := h.out; omega⟩
def addZ (q a b : Int) : Int := (aN q.toNat a.toNat b.toNat : Nat)
def mulZ (q a b : Int) : Int := (mN q.toNat a.toNat b.toNat : Nat)
theorem addZ_nat (q a b : Nat) : addZ q a b = (aN q a b : Nat) := rfl
theorem mulZ_nat (q a b : Nat) : mulZ q a b = (mN q a b : Nat) := rfl
section
variable {q a b c : Int}
theorem add_elt (hq : fldP q) (ha : eltP q a) (hb : eltP q b) : eltP q (addZ q a b) := by
 obtain ⟨n, hn, rfl⟩ := fld_nat hq; obtain ⟨a, h1, rfl⟩ := elt_nat ha; obtain ⟨b, h2, rfl⟩ := elt_nat hb
 have := get2 rngB hn h1 h2
 simp only [Bool.and_eq_true] at this
 have h := Nat.le_of_ble_eq_true this.1
 exact ⟨by rw [addZ_nat]; omega, by rw [addZ_nat]; omega⟩
theorem mul_elt (hq : fldP q) (ha : eltP q a) (hb : eltP q b) : eltP q (mulZ q a b) := by
 obtain ⟨n, hn, rfl⟩ := fld_nat hq; obtain ⟨a, h1, rfl⟩ := elt_nat ha; obtain ⟨b, h2, rfl⟩ := elt_nat hb
 have := get2 rngB hn h1 h2
 simp only [Bool.and_eq_true] at this
 have h := Nat.le_of_ble_eq_true this.2
 exact ⟨by rw [mulZ_nat]; omega, by rw [mulZ_nat]; omega⟩
end
def plusG (q p a d b : Int) : Nat → Int → Int → Int
 | 0, _, s => s
 | n + 1, u, s => if u < q then plusG q p a d b n (u * p) (s + (a.tdiv u + d * b.tdiv u).tmod p * u) else s
def plusZ (q p a d b : Int) : Int := plusG q p a d b 5 1 0
def raisedZ (q p r a : Int) : Int := plusZ q p (a.tmod (q.tdiv p) * p) (a.tdiv (q.tdiv p)) r
end Go.Ev
