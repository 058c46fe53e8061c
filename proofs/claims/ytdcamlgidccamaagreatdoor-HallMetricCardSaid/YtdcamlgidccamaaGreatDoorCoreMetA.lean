/-
  Part of the engine that the claim is proved with: it states nothing of the document by itself.
-/
import Derived.Test.YtdcamlgidccamaaGreatDoorCoreMetMath
import Derived.Test.YtdcamlgidccamaaGreatDoorCoreLev
open Go.Proofs
namespace Go.Ev
set_option maxRecDepth 100000
set_option maxHeartbeats 4000000
theorem vc38 : ∀ (o : D) (v : Int), symFun (ctx seat3 metAnn) 4 (38 : FuncId) [V.dat (29 : TypeId) o, V.int IntKind.i64 v] (V.prop (isIn o v)) = ((∃ (x : Nat), (x ≤ o.len ∧ notIn o v x) ∧ (0 = (x : Int) ∧ True) ∧ True) ∧
 ∀ (x : Nat), x ≤ o.len ∧ notIn o v x → o.len - x < LIM ∧ ((x : Int) < (o.len : Int) → 0 ≤ (x : Int) ∧ (x : Int) < (o.len : Int) ∧ (v = (el o x).asInt → (0 ≤ (x : Int) ↔ isIn o v)) ∧ ((v = (el o x).asInt → False) →
 ((-9223372036854775808) ≤ (x : Int) + 1 ∧ (x : Int) + 1 < 9223372036854775808) ∧ ∃ (y : Nat), (y ≤ o.len ∧ notIn o v y) ∧ o.len - y < o.len - x ∧ ((x : Int) + 1 = (y : Int) ∧ True) ∧ True)) ∧ (((x : Int) < (o.len : Int)
 → False) → (false = true ↔ isIn o v))) := by intros; kernel_rfl
theorem vc37 : ∀ (o : D), symFun (ctx seat3 metAnn) 4 (37 : FuncId) [V.dat (29 : TypeId) o] (V.prop (sortedP o)) = (((-9223372036854775808) ≤ (o.len : Int) - 1 ∧ (o.len : Int) - 1 < 9223372036854775808) ∧ (∃ (x : Nat),
 (x ≤ o.len ∧ ∀ (j : Nat), 0 < j → j < o.len → o.len < j + 1 + x → (el o j).asInt < (el o (j - 1)).asInt → False) ∧ ((o.len : Int) - 1 = (o.len : Int) - 1 - (x : Int) ∧ True) ∧ True) ∧ ∀ (x : Nat), (x ≤ o.len ∧ ∀ (j :
 Nat), 0 < j → j < o.len → o.len < j + 1 + x → (el o j).asInt < (el o (j - 1)).asInt → False) → o.len - x < LIM ∧ (0 < (o.len : Int) - 1 - (x : Int) → 0 ≤ (o.len : Int) - 1 - (x : Int) ∧ (o.len : Int) - 1 - (x : Int) <
 (o.len : Int) ∧ ((-9223372036854775808) ≤ (o.len : Int) - 1 - (x : Int) - 1 ∧ (o.len : Int) - 1 - (x : Int) - 1 < 9223372036854775808) ∧ 0 ≤ (o.len : Int) - 1 - (x : Int) - 1 ∧ (o.len : Int) - 1 - (x : Int) - 1 < (o.len
 : Int) ∧ (((el o ((o.len : Int) - 1 - (x : Int)).toNat).asInt = (el o ((o.len : Int) - 1 - (x : Int)).toNat).asInt → False) → (((((el o ((o.len : Int) - 1 - (x : Int) - 1).toNat).asInt = (el o ((o.len : Int) - 1 - (x :
 Int) - 1).toNat).asInt → False) → False) → False) → ((el o ((o.len : Int) - 1 - (x : Int)).toNat).asInt < (el o ((o.len : Int) - 1 - (x : Int) - 1).toNat).asInt → (false = true ↔ sortedP o)) ∧ (((el o ((o.len : Int) - 1
 - (x : Int)).toNat).asInt < (el o ((o.len : Int) - 1 - (x : Int) - 1).toNat).asInt → False) → ((-9223372036854775808) ≤ (o.len : Int) - 1 - (x : Int) - 1 ∧ (o.len : Int) - 1 - (x : Int) - 1 < 9223372036854775808) ∧ ∃ (y
 : Nat), (y ≤ o.len ∧ ∀ (j : Nat), 0 < j → j < o.len → o.len < j + 1 + y → (el o j).asInt < (el o (j - 1)).asInt → False) ∧ o.len - y < o.len - x ∧ ((o.len : Int) - 1 - (x : Int) - 1 = (o.len : Int) - 1 - (y : Int) ∧
 True) ∧ True)) ∧ ((((el o ((o.len : Int) - 1 - (x : Int) - 1).toNat).asInt = (el o ((o.len : Int) - 1 - (x : Int) - 1).toNat).asInt → False) → False) → (false = true ↔ sortedP o))) ∧ ((((el o ((o.len : Int) - 1 - (x :
 Int)).toNat).asInt = (el o ((o.len : Int) - 1 - (x : Int)).toNat).asInt → False) → False) → ((el o ((o.len : Int) - 1 - (x : Int)).toNat).asInt < (el o ((o.len : Int) - 1 - (x : Int) - 1).toNat).asInt → (false = true ↔
 sortedP o)) ∧ (((el o ((o.len : Int) - 1 - (x : Int)).toNat).asInt < (el o ((o.len : Int) - 1 - (x : Int) - 1).toNat).asInt → False) → ((-9223372036854775808) ≤ (o.len : Int) - 1 - (x : Int) - 1 ∧ (o.len : Int) - 1 - (x
 : Int) - 1 < 9223372036854775808) ∧ ∃ (y : Nat), (y ≤ o.len ∧ ∀ (j : Nat), 0 < j → j < o.len → o.len < j + 1 + y → (el o j).asInt < (el o (j - 1)).asInt → False) ∧ o.len - y < o.len - x ∧ ((o.len : Int) - 1 - (x : Int) -
 1 = (o.len : Int) - 1 - (y : Int) ∧ True) ∧ True))) ∧ ((0 < (o.len : Int) - 1 - (x : Int) → False) → (true = true ↔ sortedP o))) := by intros; kernel_rfl
theorem vc31 : ∀ (sh a b : Int) (o : D), symFun (ctx seat3 metAnn) 4 (31 : FuncId) [V.agg [V.int IntKind.u8 sh, V.int IntKind.u8 a, V.int IntKind.u8 b, V.dat (39 : TypeId) o]] (V.tup [V.dat (22 : TypeId) (oneD sh a b o),
 V.int IntKind.i64 (oneN sh a b o), V.prop True]) = (0 + 1 ≤ [D.sct [D.int sh, D.int a, D.int b, o]].length ∧ 0 + 1 ≤ [D.sct [D.int sh, D.int a, D.int b, o]].length ∧ codesP (D.list (List.take 1 [D.sct [D.int sh, D.int a,
 D.int b, o]])) ∧ smallD (madeD (D.list (List.take 1 [D.sct [D.int sh, D.int a, D.int b, o]]))) ∧ (1 ≤ countZ (madeD (D.list (List.take 1 [D.sct [D.int sh, D.int a, D.int b, o]]))) → (countZ (madeD (D.list (List.take 1
 [D.sct [D.int sh, D.int a, D.int b, o]]))) ≤ 24 → (0 : Int) ≤ 0 ∧ 0 < (↑(madeD (D.list (List.take 1 [D.sct [D.int sh, D.int a, D.int b, o]]))).len : Int) ∧ (tOpen (el (madeD (D.list (List.take 1 [D.sct [D.int sh, D.int
 a, D.int b, o]]))) (Int.toNat 0))).len ≤ 100 ∧ madeD (D.list (List.take 1 [D.sct [D.int sh, D.int a, D.int b, o]])) = oneD sh a b o ∧ countZ (madeD (D.list (List.take 1 [D.sct [D.int sh, D.int a, D.int b, o]]))) = oneN
 sh a b o ∧ (seatsZ (tName (el (madeD (D.list (List.take 1 [D.sct [D.int sh, D.int a, D.int b, o]]))) (Int.toNat 0))) (tShape (el (madeD (D.list (List.take 1 [D.sct [D.int sh, D.int a, D.int b, o]]))) (Int.toNat 0))) (tA
 (el (madeD (D.list (List.take 1 [D.sct [D.int sh, D.int a, D.int b, o]]))) (Int.toNat 0))) (tB (el (madeD (D.list (List.take 1 [D.sct [D.int sh, D.int a, D.int b, o]]))) (Int.toNat 0))) (tOpen (el (madeD (D.list
 (List.take 1 [D.sct [D.int sh, D.int a, D.int b, o]]))) (Int.toNat 0))) (tX (el (madeD (D.list (List.take 1 [D.sct [D.int sh, D.int a, D.int b, o]]))) (Int.toNat 0))) (tY (el (madeD (D.list (List.take 1 [D.sct [D.int sh,
 D.int a, D.int b, o]]))) (Int.toNat 0))) = countZ (madeD (D.list (List.take 1 [D.sct [D.int sh, D.int a, D.int b, o]]))) ↔ True) ∧ True) ∧ ((countZ (madeD (D.list (List.take 1 [D.sct [D.int sh, D.int a, D.int b, o]]))) ≤
 24 → False) → madeD (D.list (List.take 1 [D.sct [D.int sh, D.int a, D.int b, o]])) = oneD sh a b o ∧ countZ (madeD (D.list (List.take 1 [D.sct [D.int sh, D.int a, D.int b, o]]))) = oneN sh a b o ∧ (false = true ↔ True) ∧
 True)) ∧ ((1 ≤ countZ (madeD (D.list (List.take 1 [D.sct [D.int sh, D.int a, D.int b, o]]))) → False) → madeD (D.list (List.take 1 [D.sct [D.int sh, D.int a, D.int b, o]])) = oneD sh a b o ∧ countZ (madeD (D.list
 (List.take 1 [D.sct [D.int sh, D.int a, D.int b, o]]))) = oneN sh a b o ∧ (false = true ↔ True) ∧ True)) := by intros; kernel_rfl
theorem s38 (o : D) (v : Int) (ho : o.len ≤ 100) : symFun (ctx seat3 metAnn) 4 38 [.dat 29 o, .int .i64 v] (.prop (isIn o v)) := by
  rw [vc38]; simp only [imp_false]
  refine ⟨⟨0, ⟨Nat.zero_le _, ⟨fun j h => absurd h (Nat.not_lt_zero _)⟩⟩, ⟨rfl, trivial⟩, trivial⟩, fun z ⟨hz1, hz2⟩ => ⟨by unfold LIM; omega, fun hlt => ⟨by omega, hlt, fun he => ⟨fun _ => ⟨z, by omega, he.symm⟩, fun _ => by omega⟩, fun hne => ⟨by omega, z + 1, ⟨by omega, ⟨fun j hj => ?_⟩⟩, by omega, ⟨rfl, trivial⟩, trivial⟩⟩, fun hge => ⟨fun h => (by cases h), fun h => ?_⟩⟩⟩
  · rcases Nat.lt_succ_iff_lt_or_eq.1 hj with h | h
    · exact hz2.out j h
    · subst h; exact fun h => hne h.symm
  · obtain ⟨j, hj, he⟩ := h.out
    exact absurd he (hz2.out j (by omega))
theorem s37 (o : D) (ho : o.len ≤ 100) : symFun (ctx seat3 metAnn) 4 37 [.dat 29 o] (.prop (sortedP o)) := by
  rw [vc37]
  refine ⟨by omega, ⟨0, ⟨Nat.zero_le _, fun j h1 h2 h3 => by omega⟩, ⟨by omega, trivial⟩, trivial⟩, fun x hx => ⟨by unfold LIM; omega, fun hlt => ?_, fun hge => ?_⟩⟩
  · obtain ⟨i, hi⟩ : ∃ i : Nat, (o.len : Int) - 1 - x = (i : Int) := ⟨((o.len : Int) - 1 - x).toNat, by omega⟩
    obtain ⟨j, hj⟩ : ∃ j : Nat, (o.len : Int) - 1 - x - 1 = (j : Int) := ⟨((o.len : Int) - 1 - x - 1).toNat, by omega⟩
    rw [hj, hi, Int.toNat_natCast, Int.toNat_natCast]
    have hij : j = i - 1 := by omega
    have nxt : ¬ ((el o i).asInt < (el o j).asInt) → ∃ y : Nat, (y ≤ o.len ∧ ∀ j : Nat, 0 < j → j < o.len → o.len < j + 1 + y → (el o j).asInt < (el o (j - 1)).asInt → False) ∧ o.len - y < o.len - x ∧ ((j : Int) = (o.len : Int) - 1 - (y : Int) ∧ True) ∧ True := fun hc =>
      ⟨x + 1, ⟨by omega, fun k h1 h2 h3 h4 => by
        by_cases e : k = i
        · subst e; rw [hij] at hc; exact hc h4
        · exact hx.2 k h1 h2 (by omega) h4⟩, by omega, ⟨by omega, trivial⟩, trivial⟩
    have bad : (el o i).asInt < (el o j).asInt → (false = true ↔ sortedP o) := fun hc => ⟨fun h => (by cases h), fun h => absurd hc (by rw [hij]; exact h.out i (by omega) (by omega))⟩
    exact ⟨by omega, by omega, by omega, by omega, by omega, fun h => absurd rfl h, fun _ => ⟨bad, fun hc => ⟨by omega, nxt hc⟩⟩⟩
  · have hge : ¬ (0 : Int) < (o.len : Int) - 1 - x := hge
    exact ⟨fun _ => ⟨fun i h1 h2 h3 => hx.2 i h1 h2 (by omega) h3⟩, fun _ => rfl⟩
theorem one_facts {sh a b : Int} {o : D} (h : byteP sh ∧ byteP a ∧ byteP b ∧ bytesP o) : codesP (.list [.sct [.int sh, .int a, .int b, o]]) ∧ (oneD sh a b o).len = 1 ∧ errT (el (oneD sh a b o) 0) = 0 ∧ 1 ≤ oneN sh a b o ∧ oneN sh a b o ≤ 24 ∧ okHall (oneD sh a b o) ∧ smallD (oneD sh a b o) ∧ (tOpen (el (oneD sh a b o) 0)).len ≤ 24 := by
  have hc : codesP (.list [.sct [.int sh, .int a, .int b, o]]) := ⟨fun i hi => by
    have : i = 0 := by simp [len_list] at hi; omega
    subst this
    exact ⟨h⟩⟩
  have hl : (D.list [.sct [.int sh, .int a, .int b, o]]).len = 1 := rfl
  have he := made_el (.list [.sct [.int sh, .int a, .int b, o]]) (i := 0) (by rw [hl]; omega)
  have hm := made_err (c := el (.list [.sct [.int sh, .int a, .int b, o]]) 0) (i := 0) (hc.out 0 (by rw [hl]; omega)) (by omega)
  have hs := made_size h.1 h.2.1 h.2.2.1
  have e : el (oneD sh a b o) 0 = madeRow (el (.list [.sct [.int sh, .int a, .int b, o]]) 0) 0 := he
  have hn : oneN sh a b o = mN sh a b := by unfold oneN; rw [e]; exact hm.2.1
  refine ⟨hc, ?_, by rw [e]; exact hm.1, by omega, by omega, made_ok hc, made_small hc, by rw [e]; exact hm.2.2⟩
  show (madeD _).len = 1
  rw [made_len, hl]; rfl
theorem s31 (sh a b : Int) (o : D) (h : byteP sh ∧ byteP a ∧ byteP b ∧ bytesP o) : symFun (ctx seat3 metAnn) 4 31 [.agg [.int .u8 sh, .int .u8 a, .int .u8 b, .dat 39 o]] (.tup [.dat 22 (oneD sh a b o), .int .i64 (oneN sh a b o), .prop True]) := by
  rw [vc31]
  obtain ⟨h1, h2, h3, h4, h5, h6, h7, h8⟩ := one_facts h
  have e : madeD (.list (List.take 1 [.sct [.int sh, .int a, .int b, o]])) = oneD sh a b o := rfl
  rw [e]
  have hcnt : countZ (oneD sh a b o) = oneN sh a b o := by
    unfold countZ; rw [if_pos h6, h2]
    show (0 : Int) + sizeT' (el (oneD sh a b o) 0) = oneN sh a b o
    rw [Int.zero_add]; rfl
  have hsz : seatsZ (tName (el (oneD sh a b o) 0)) (tShape (el (oneD sh a b o) 0)) (tA (el (oneD sh a b o) 0)) (tB (el (oneD sh a b o) 0)) (tOpen (el (oneD sh a b o) 0)) (tX (el (oneD sh a b o) 0)) (tY (el (oneD sh a b o) 0)) = oneN sh a b o := by
    unfold seatsZ
    show (if errT (el (oneD sh a b o) 0) = 0 then sizeT' (el (oneD sh a b o) 0) else 0) = oneN sh a b o
    rw [if_pos h3]; rfl
  rw [hcnt]
  refine ⟨by simp, by simp, h1, h7, fun _ => ⟨fun _ => ⟨by omega, by rw [h2]; omega, by show (tOpen (el (oneD sh a b o) 0)).len ≤ 100; omega, rfl, rfl, ⟨fun _ => trivial, fun _ => hsz⟩, trivial⟩, fun h => absurd h5 h⟩, fun h => absurd h4 h⟩
/-! ### Blocks -/
theorem nth_mapR (f : Nat → D) (n i : Nat) (h : i < n) : nthD ((List.range n).map f) i = f i := by
  unfold nthD; rw [List.getElem?_map, List.getElem?_range h]; rfl
theorem rows_ext {a b : List D} (hl : a.length = b.length) (h : ∀ i, i < a.length → nthD a i = nthD b i) : a = b := by
  apply List.ext_getElem hl
  intro i h1 h2
  have := h i h1
  rw [nthD_get _ _ h1, nthD_get _ _ h2] at this; exact this
theorem nth_setR (l : List D) (i j : Nat) (d : D) (h : j < l.length) : nthD (l.set i d) j = if i = j then d else nthD l j := by
  unfold nthD; rw [List.getElem?_set]
  split
  · rename_i e; subst e; rw [if_pos h]; rfl
  · rfl
section
variable {sh a b first : Int} {n : Nat}
theorem pl_len (x y : Nat) : (placedL sh a b n x y).length = n := by simp [placedL]
theorem pl_nth {x y m : Nat} (h : m < n) : nthD (placedL sh a b n x y) m = D.bool (placed2 sh a b n x y m) := nth_mapR _ _ _ h
theorem pl_congr {x y x' y' : Nat} (h : ∀ m, m < n → (placed2 sh a b n x y m ↔ placed2 sh a b n x' y' m)) : placedL sh a b n x y = placedL sh a b n x' y' := by
  unfold placedL
  apply List.map_congr_left
  intro m hm
  rw [propext (h m (List.mem_range.1 hm))]
theorem pl_zero : List.replicate n (D.bool (false = true)) = placedL sh a b n 0 0 := by
  refine rows_ext (by simp [pl_len]) fun i hi => ?_
  have hi : i < n := by simpa using hi
  rw [pl_nth hi]
  have : placed2 sh a b n 0 0 i = (false = true) := propext ⟨fun h => by
    rcases h.out with h | h
    · obtain ⟨k, hk, _⟩ := h.out; omega
    · omega, fun h => by cases h⟩
  rw [this]
  unfold nthD
  rw [List.getElem?_replicate, if_pos hi]; rfl
theorem pl_set {x y : Nat} (hy : y < n) (hr : reachP sh a b n x y) : (placedL sh a b n x y).set y (D.bool True) = placedL sh a b n x (y + 1) := by
  refine rows_ext (by simp [pl_len]) fun i hi => ?_
  have hi : i < n := by simpa [pl_len] using hi
  rw [nth_setR _ _ _ _ (by rw [pl_len]; exact hi), pl_nth hi, pl_nth hi]
  split
  · rename_i e
    subst e
    have : placed2 sh a b n x (y + 1) y = True := propext ⟨fun _ => trivial, fun _ => ⟨.inr ⟨by omega, hr⟩⟩⟩
    rw [this]
  · rename_i e
    have : placed2 sh a b n x (y + 1) i = placed2 sh a b n x y i := propext ⟨fun h => ⟨h.out.imp id fun g => ⟨by omega, g.2⟩⟩, fun h => ⟨h.out.imp id fun g => ⟨by omega, g.2⟩⟩⟩
    rw [this]
theorem pl_far {x y : Nat} (hr : ¬ reachP sh a b n x y) : placedL sh a b n x y = placedL sh a b n x (y + 1) := pl_congr fun m _ =>
  ⟨fun h => ⟨h.out.imp id fun g => ⟨by omega, g.2⟩⟩, fun h => ⟨h.out.imp id fun g => ⟨by
    rcases Nat.lt_succ_iff_lt_or_eq.1 g.1 with e | e
    · exact e
    · subst e; exact absurd g.2 hr, g.2⟩⟩⟩
theorem pl_row {x : Nat} : placedL sh a b n x n = placedL sh a b n (x + 1) 0 := pl_congr fun m hm =>
  ⟨fun h => ⟨.inl (h.out.elim (fun g => by obtain ⟨k, h1, h2⟩ := g.out; exact ⟨k, by omega, h2⟩) (fun g => ⟨x, by omega, g.2⟩))⟩, fun h => by
    rcases h.out with g | g
    · obtain ⟨k, h1, h2⟩ := g.out
      by_cases e : k = x
      · subst e; exact ⟨.inr ⟨hm, h2⟩⟩
      · exact ⟨.inl ⟨k, by omega, h2⟩⟩
    · exact absurd g.1 (Nat.not_lt_zero _)⟩
theorem pl_skip {x : Nat} (hx : x < n) (hp : placedP sh a b n x x) : placedL sh a b n x 0 = placedL sh a b n (x + 1) 0 := pl_congr fun m hm =>
  ⟨fun h => by
    rcases h.out with g | g
    · obtain ⟨k, h1, h2⟩ := g.out; exact ⟨.inl ⟨k, by omega, h2⟩⟩
    · exact absurd g.1 (Nat.not_lt_zero _), fun h => by
    rcases h.out with g | g
    · obtain ⟨k, h1, h2⟩ := g.out
      by_cases e : k = x
      · subst e
        obtain ⟨k', h3, h4⟩ := hp.out
        exact ⟨.inl ⟨k', h3, reach_trans hx h4 h2⟩⟩
      · exact ⟨.inl ⟨k, by omega, h2⟩⟩
    · exact absurd g.1 (Nat.not_lt_zero _)⟩
theorem bm_near {k y : Nat} (h : reachP sh a b n k y) : blkMem sh a b first n k (y + 1) = blkMem sh a b first n k y ++ [.int (first + y)] := by
  unfold blkMem; rw [List.range_succ, List.filter_append, List.map_append]; simp [h]
theorem bm_far {k y : Nat} (h : ¬ reachP sh a b n k y) : blkMem sh a b first n k (y + 1) = blkMem sh a b first n k y := by
  unfold blkMem; rw [List.range_succ, List.filter_append, List.map_append]; simp [h]
theorem bm_len (k y : Nat) : (blkMem sh a b first n k y).length ≤ y := by
  unfold blkMem; rw [List.length_map]; exact Nat.le_trans (List.length_filter_le _ _) (by rw [List.length_range]; exact Nat.le_refl _)
theorem bm_self {k : Nat} (hk : k < n) : blkMem sh a b first n k n ≠ [] := fun h => by
  have : D.int (first + k) ∈ blkMem sh a b first n k n := by
    unfold blkMem
    exact List.mem_map.2 ⟨k, List.mem_filter.2 ⟨List.mem_range.2 hk, by simp [reach_self]⟩, rfl⟩
  rw [h] at this; cases this
theorem bl_lead {x : Nat} (h : ¬ placedP sh a b n x x) : blkL sh a b first n (x + 1) = blkL sh a b first n x ++ [.list (blkMem sh a b first n x n)] := by
  unfold blkL; rw [List.range_succ, List.filter_append, List.map_append]; simp [h]
theorem bl_skip {x : Nat} (h : placedP sh a b n x x) : blkL sh a b first n (x + 1) = blkL sh a b first n x := by
  unfold blkL; rw [List.range_succ, List.filter_append, List.map_append]; simp [h]
theorem bl_len (x : Nat) : (blkL sh a b first n x).length ≤ x := by
  unfold blkL; rw [List.length_map]; exact Nat.le_trans (List.length_filter_le _ _) (by rw [List.length_range]; exact Nat.le_refl _)
end
end Go.Ev
