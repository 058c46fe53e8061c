/-
  Part of the engine that the claim is proved with: it states nothing of the document by itself.
-/
import Derived.Test.YtpcokmpipjcndaaGreatDoorCoreAwake
import Derived.Test.YtpcokmpipjcndaaGreatDoorCoreG23
open Go.Proofs
namespace Go.Ev
def isBytes : Option Value → List UInt8 → Bool
 | some (.string s), l => s.data.toList.map (·.toNat) == l.map (·.toNat)
 | _, _ => false
theorem toNats_inj : ∀ (a b : List UInt8), a.map (·.toNat) = b.map (·.toNat) → a = b
 | [], [], _ => rfl
 | x :: a, y :: b, h => by
  simp only [List.map_cons, List.cons.injEq] at h
  rw [UInt8.toNat_inj.1 h.1, toNats_inj a b h.2]
 | [], _ :: _, h => by simp at h
 | _ :: _, [], h => by simp at h
theorem isBytes_ok {v : Option Value} {l : List UInt8} (h : isBytes v l = true) : v = some (.string ⟨⟨l⟩⟩) := by
 unfold isBytes at h
 split at h
 ·rename_i s
  have h2 := toNats_inj _ _ (eq_of_beq h)
  obtain ⟨⟨x⟩⟩ := s
  simp only at h2
  rw [h2]
 ·cases h
def GA : Msk := { bits := GB, fast := true, ora := fun _ => none }
noncomputable def chkDec (n : Nat) : Bool := isBytes (evCall Tryz.prog GA 100 29 [.int .i64 (.ofNat n)]) (decF 5 n)
theorem df0 : ((List.range 40).all fun j => chkDec (0 + j)) = true := by kernel_rfl
theorem df1 : ((List.range 40).all fun j => chkDec (40 + j)) = true := by kernel_rfl
theorem df2 : ((List.range 40).all fun j => chkDec (80 + j)) = true := by kernel_rfl
theorem df3 : ((List.range 40).all fun j => chkDec (120 + j)) = true := by kernel_rfl
theorem df4 : ((List.range 40).all fun j => chkDec (160 + j)) = true := by kernel_rfl
theorem df5 : ((List.range 40).all fun j => chkDec (200 + j)) = true := by kernel_rfl
theorem df6 : ((List.range 40).all fun j => chkDec (240 + j)) = true := by kernel_rfl
theorem df7 : ((List.range 40).all fun j => chkDec (280 + j)) = true := by kernel_rfl
theorem df8 : ((List.range 40).all fun j => chkDec (320 + j)) = true := by kernel_rfl
theorem df9 : ((List.range 40).all fun j => chkDec (360 + j)) = true := by kernel_rfl
theorem df10 : ((List.range 40).all fun j => chkDec (400 + j)) = true := by kernel_rfl
theorem df11 : ((List.range 40).all fun j => chkDec (440 + j)) = true := by kernel_rfl
theorem df12 : ((List.range 40).all fun j => chkDec (480 + j)) = true := by kernel_rfl
theorem df13 : ((List.range 40).all fun j => chkDec (520 + j)) = true := by kernel_rfl
theorem df14 : ((List.range 40).all fun j => chkDec (560 + j)) = true := by kernel_rfl
theorem df15 : ((List.range 40).all fun j => chkDec (600 + j)) = true := by kernel_rfl
theorem df16 : ((List.range 40).all fun j => chkDec (640 + j)) = true := by kernel_rfl
theorem df17 : ((List.range 40).all fun j => chkDec (680 + j)) = true := by kernel_rfl
theorem df18 : ((List.range 40).all fun j => chkDec (720 + j)) = true := by kernel_rfl
theorem df19 : ((List.range 40).all fun j => chkDec (760 + j)) = true := by kernel_rfl
theorem df20 : ((List.range 40).all fun j => chkDec (800 + j)) = true := by kernel_rfl
theorem df21 : ((List.range 40).all fun j => chkDec (840 + j)) = true := by kernel_rfl
theorem df22 : ((List.range 40).all fun j => chkDec (880 + j)) = true := by kernel_rfl
theorem df23 : ((List.range 40).all fun j => chkDec (920 + j)) = true := by kernel_rfl
theorem df24 : ((List.range 40).all fun j => chkDec (960 + j)) = true := by kernel_rfl
theorem df25 : ((List.range 40).all fun j => chkDec (1000 + j)) = true := by kernel_rfl
theorem dec_row : ∀ k, k < 26 → ((List.range 40).all fun j => chkDec (40 * k + j)) = true
 | 0, _ => df0
 | 1, _ => df1
 | 2, _ => df2
 | 3, _ => df3
 | 4, _ => df4
 | 5, _ => df5
 | 6, _ => df6
 | 7, _ => df7
 | 8, _ => df8
 | 9, _ => df9
 | 10, _ => df10
 | 11, _ => df11
 | 12, _ => df12
 | 13, _ => df13
 | 14, _ => df14
 | 15, _ => df15
 | 16, _ => df16
 | 17, _ => df17
 | 18, _ => df18
 | 19, _ => df19
 | 20, _ => df20
 | 21, _ => df21
 | 22, _ => df22
 | 23, _ => df23
 | 24, _ => df24
 | 25, _ => df25
 | _ + 26, h => by omega
theorem dec_facts (n : Nat) (h : n ≤ 1000) : chkDec n = true := by
 have h1 := List.all_eq_true.1 (dec_row (n / 40) (by omega)) (n % 40) (List.mem_range.2 (Nat.mod_lt _ (by omega)))
 rw [Nat.div_add_mod] at h1
 exact h1
theorem tabM_ev {g : FuncId} {xs : List Value} {v : Value} (h : tabM g xs = some v) : evCall Tryz.prog GA 100 g xs = some v := by
 unfold tabM at h
 split at h
 ·rename_i n
  cases hc : isTab g && Nat.ble n 1000 with
  | false => rw [hc] at h; cases h
  | true =>
   rw [hc] at h
   simp only [cond_true, Option.some.injEq] at h
   simp only [Bool.and_eq_true, isTab] at hc
   obtain ⟨hg, hn⟩ := hc
   have hn := Nat.le_of_ble_eq_true hn
   have hf := dec_facts n hn
   unfold chkDec at hf
   subst h
   rw [Nat.eq_of_beq_eq_true hg]; exact isBytes_ok hf
 ·cases h
end Go.Ev
