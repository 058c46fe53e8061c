/-
  Part of the engine that the claim is proved with: it states nothing of the document by itself.
-/
import Derived.Test.YtpopdemanadllaaGreatDoorCoreSeR

namespace Go.Ev
section
variable {P : Program} {base : Nat} {H0 : AHeap × Sig} {ν : Nu} {σ : Sig} {S : SS} {F : AFrame} {H : AHeap} {K : V → SS → Prop}
structure Keeps (S S' : SS) : Prop where
 nx : S.nx ≤ S'.nx
 sz : S'.sz = S.sz
 ro : S'.ro = S.ro
 fl : S'.fl = S.fl
 wr : ∀ b, b ∈ S.wr → b ∈ S'.wr
 hp : ∀ b, b < S.nx → b ∉ S'.wr → S'.hp.get b = S.hp.get b
 rb : ∀ b, b < S.ro → b < S.nx → S'.hp.get b = S.hp.get b
theorem Keeps.refl (S : SS) : Keeps S S := ⟨Nat.le_refl _, rfl, rfl, rfl, fun _ h => h, fun _ _ _ => rfl, fun _ _ _ => rfl⟩
theorem Keeps.trans {a b c : SS} (h : Keeps a b) (k : Keeps b c) : Keeps a c := ⟨Nat.le_trans h.nx k.nx, k.sz.trans h.sz, k.ro.trans h.ro, k.fl.trans h.fl, fun x hx => k.wr x (h.wr x hx), fun x hx hn => (k.hp x (Nat.lt_of_lt_of_le hx h.nx) hn).trans (h.hp x hx fun hm => hn (k.wr x hm)), fun x hx hn => (k.rb x (by rw [h.ro]; exact hx) (Nat.lt_of_lt_of_le hn h.nx)).trans (h.rb x hx hn)⟩
theorem T.get_put {α : Type} (t : T α) (n m : Nat) (a : Option α) : (t.put n a).get m = if m = n then a else t.get m := T.get_setN a t n m
theorem Keeps.alloc (S : SS) (k : SB) : Keeps S (S.alloc k) := ⟨Nat.le_succ _, rfl, rfl, rfl, fun _ h => h, fun b hb _ => by show T.get (T.put S.hp S.nx (some k)) b = _; rw [T.get_put, if_neg (by omega)], fun b _ hb => by show T.get (T.put S.hp S.nx (some k)) b = _; rw [T.get_put, if_neg (by omega)]⟩
theorem Keeps.write (S : SS) (b : Nat) (k : Option SB) (hro : S.ro ≤ b) : Keeps S (S.write b k) := ⟨Nat.le_refl _, rfl, rfl, rfl, fun _ h => List.mem_cons_of_mem _ h, fun b' _ hn => by
 show T.get (T.put S.hp b k) b' = _
 rw [T.get_put, if_neg (fun e => hn (by show b' ∈ b :: S.wr; rw [e]; exact List.mem_cons_self))], fun b' hb _ => by
 show T.get (T.put S.hp b k) b' = _
 rw [T.get_put, if_neg (by omega)]⟩
theorem Keeps.push (S : SS) (b : Nat) (k : SB) (hro : S.ro ≤ b) : Keeps S ((S.write b none).alloc k) := (Keeps.write S b none hro).trans (Keeps.alloc _ k)
def XNn (n : Nat) (ν ν' : Nu) : Prop := ∀ b : Bid, b.id < n → ν' b = ν b
theorem XNn.refl {n : Nat} (ν : Nu) : XNn n ν ν := fun _ _ => rfl
theorem XNn.trans {n m : Nat} {a b c : Nu} (h : XNn n a b) (k : XNn m b c) (hm : n ≤ m) : XNn n a c := fun i hi => (k i (Nat.lt_of_lt_of_le hi hm)).trans (h i hi)
theorem XNn.mono {n m : Nat} {a b : Nu} (h : XNn m a b) (hm : n ≤ m) : XNn n a b := fun i hi => h i (Nat.lt_of_lt_of_le hi hm)
theorem XNn.xn {P : Program} {base : Nat} {H0 : AHeap × Sig} {ν ν' : Nu} {σ : Sig} {S : SS} {F : AFrame} {H : AHeap} (hr : SR P base H0 ν σ S F H) (h : XNn S.nx ν ν') : XN ν ν' := fun b c hb => by
 rcases Nat.lt_or_ge b.id S.nx with hlt | hge
 ·rw [h b hlt]; exact hb
 ·rw [hr.dom b hge] at hb; cases hb
theorem xnewn (n : Nat) (ν : Nu) (c : Nat × Nat) : XNn n ν (fun b => if b = n then some c else ν b) := fun b hb => if_neg (fun e => by subst e; exact Nat.lt_irrefl _ hb)
def OpR (P : Program) (base : Nat) (H0 : AHeap × Sig) (ν : Nu) (σ : Sig) (S : SS) (F : AFrame) (r : Option (Value × AHeap)) (K : V → SS → Prop) : Prop :=
 ∃ v' h', r = some (v', h') ∧ ∃ v S' ν' σ', K v S' ∧ SR P base H0 ν' σ' S' F h' ∧ VRel P σ' ν' v v' ∧ XNn S.nx ν ν' ∧ XS σ σ' ∧ S'.fr = S.fr ∧ Keeps S S'
theorem OpR.pure (hr : SR P base H0 ν σ S F H) {v : V} {v' : Value} (hv : VRel P σ ν v v') (hk : K v S) : OpR P base H0 ν σ S F (some (v', H)) K :=
 ⟨v', H, rfl, v, S, ν, σ, hk, hr, hv, .refl _, .refl _, rfl, .refl _⟩
theorem valOf_ok {v : Value} {u : V} (h : valOf v = some u) : VRel P σ ν u v := by
 unfold valOf at h
 split at h
 ·rename_i cs
  cases hf : Ev.flat (.agg cs) with
  | false => rw [hf] at h; cases h
  | true =>
   rw [hf] at h
   simp only [cond_true, Option.some.injEq] at h
   subst h
   have := LRel.vals (P := P) (σ := σ) (ν := ν) (l := cs.toList) (by simpa [Ev.flat] using hf)
   exact VRel.agg this.1 this.2
 ·rename_i hna
  cases hf : Ev.flat v with
  | false =>
   rw [hf] at h
   simp only [cond_false] at h
   split at h
   ·rename_i vs
    cases hz : Nat.beq vs.size 0 with
    | false => rw [hz] at h; cases h
    | true =>
     rw [hz] at h
     simp only [cond_true, Option.some.injEq] at h
     subst h
     have := Array.eq_empty_of_size_eq_zero (Nat.eq_of_beq_eq_true hz)
     subst this
     exact .undef
   ·cases h
  | true =>
   rw [hf] at h
   simp only [cond_true, Option.some.injEq] at h
   subst h
   refine .val ?_
   cases v with
   | agg cs => exact absurd rfl (hna cs)
   | _ => exact hf
theorem evalS_ok (hr : SR P base H0 ν σ S F H) {x : Operand} {v : V} (h : evalS S x = some v) : VRel P σ ν v (aeval F x) := by
 cases x with
 | tmp t => exact hr.fr t v h
 | const c => exact valOf_ok h
 | func f => simp only [evalS, Option.some.injEq] at h; subst h; exact VRel.fn (fs' := []) (cs' := []) rfl (fun j v v' h _ => by simp at h) rfl (fun j v v' h _ => by simp at h)
 | global g => cases h
theorem withV_ok (hr : SR P base H0 ν σ S F H) {x : Operand} {Kx : V → Prop} (h : withV S x Kx) : ∃ v, Kx v ∧ VRel P σ ν v (aeval F x) := by
 unfold withV at h
 split at h
 ·rename_i v hv; exact ⟨v, h, evalS_ok hr hv⟩
 ·exact h.elim
theorem withVs_ok (hr : SR P base H0 ν σ S F H) : ∀ {xs : List Operand} {Kx : List V → Prop} (_ : withVs S xs Kx), ∃ vs, Kx vs ∧ LRel P σ ν vs (xs.map (aeval F))
 | [], _, h => ⟨[], h, .nil⟩
 | x :: xs, Kx, h => by
  obtain ⟨v, h1, hv⟩ := withV_ok hr (show withV S x (fun v => withVs S xs fun l => Kx (v :: l)) from h)
  obtain ⟨vs, h2, hvs⟩ := withVs_ok hr h1
  exact ⟨v :: vs, h2, .cons hv hvs⟩
theorem symParts_ok (hr : SR P base H0 ν σ S F H) : ∀ {xs : List (Nat × Operand)} {Kx : List (Nat × V) → Prop} (_ : symParts S xs Kx), ∃ vs, Kx vs ∧ vs.map (·.1) = xs.map (·.1) ∧ LRel P σ ν (vs.map (·.2)) (xs.map fun x => aeval F x.2)
 | [], _, h => ⟨[], h, rfl, .nil⟩
 | x :: xs, Kx, h => by
  obtain ⟨v, h1, hv⟩ := withV_ok hr (show withV S x.2 (fun v => symParts S xs fun l => Kx ((x.1, v) :: l)) from h)
  obtain ⟨vs, h2, he, hvs⟩ := symParts_ok hr h1
  exact ⟨(x.1, v) :: vs, h2, by simp [he], .cons hv hvs⟩
def ORel (P : Program) (σ : Sig) (ν : Nu) : Option V → Option Value → Prop
 | none, none => True
 | some v, some v' => VRel P σ ν v v'
 | _, _ => False
theorem withO_ok (hr : SR P base H0 ν σ S F H) {x : Option Operand} {Kx : Option V → Prop} (h : withO S x Kx) : ∃ v, Kx v ∧ ORel P σ ν v (x.map (aeval F)) := by
 cases x with
 | none => exact ⟨none, h, trivial⟩
 | some x => obtain ⟨v, h1, h2⟩ := withV_ok hr h; exact ⟨some v, h1, h2⟩
theorem intOf_ok {v : V} {v' : Value} {k : IntKind} {n : Int} (h : intOf v = some (k, n)) (hv : VRel P σ ν v v') : v' = .int k n := by
 cases hv <;> simp only [intOf, reduceCtorEq, Option.some.injEq, Prod.mk.injEq] at h
 case int => obtain ⟨rfl, rfl⟩ := h; rfl
 case val hf => cases v' <;> simp_all
 case undef => cases h
theorem nlOf_ok {v : V} {v' : Value} {n : Int} {m : NL} (h : nlOf v = some (n, m)) (hv : VRel P σ ν v v') : (∃ k, v' = .int k n) ∧ m.v = n.toNat := by
 cases hv <;> simp only [nlOf, reduceCtorEq, Option.some.injEq, Prod.mk.injEq] at h
 case int => obtain ⟨rfl, rfl⟩ := h; exact ⟨⟨_, rfl⟩, rfl⟩
 case val hf =>
  cases v' <;> simp only [reduceCtorEq, Option.some.injEq, Prod.mk.injEq] at h
  obtain ⟨rfl, rfl⟩ := h; exact ⟨⟨_, rfl⟩, rfl⟩
 case undef => cases h
theorem propOf_ok {v : V} {v' : Value} {p : Prop} (h : propOf v = some p) (hv : VRel P σ ν v v') : v' = .bool (dec p) := by
 cases hv <;> simp only [propOf, reduceCtorEq, Option.some.injEq] at h
 case prop => subst h; rfl
 case val hf =>
  cases v' <;> simp only [reduceCtorEq, Option.some.injEq] at h
  subst h
  rw [dec_eq]; rfl
 case undef => cases h
theorem strOf_ok {v : V} {v' : Value} {s : List UInt8} (h : strOf v = some s) (hv : VRel P σ ν v v') : v' = .string ⟨⟨s⟩⟩ := by
 cases hv <;> simp only [strOf, reduceCtorEq, Option.some.injEq] at h
 case str => subst h; rfl
 case val hf =>
  cases v' <;> simp only [reduceCtorEq, Option.some.injEq] at h
  subst h; rfl
 case undef => cases h
theorem NL.v_mulK (a : NL) (s : Nat) : (a.mulK s).v = a.v * s := by cases a <;> rfl
theorem NL.v_add (a b : NL) : (a.add b).v = a.v + b.v := by
 cases a <;> cases b <;> simp only [NL.add, NL.v]
 rename_i a b
 cases h : Nat.beq a 0 with
 | true => have := Nat.eq_of_beq_eq_true h; subst this; simp [NL.v]
 | false => rfl
theorem NL.v_sub (a b : NL) : (a.sub b).v = a.v - b.v := by
 cases a <;> cases b <;> simp only [NL.sub, NL.v]
 rename_i a b
 cases h : Nat.beq b 0 with
 | true => have := Nat.eq_of_beq_eq_true h; subst this; simp [NL.v]
 | false => rfl
theorem wrap_inR {k : IntKind} {n : Int} (h : inR k n) : k.wrap n = n := by
 cases k <;> simp only [inR] at h <;> simp [IntKind.wrap, IntKind.bits, IntKind.signed] <;> (try split) <;> omega
theorem inR_nat {k : IntKind} {n : Nat} (h : inR k n) : n < 2 ^ k.bits := by
 cases k <;> simp only [inR] at h <;> simp [IntKind.bits] <;> omega
theorem inR_le {k : IntKind} {m n : Nat} (h : inR k n) (hm : m ≤ n) : inR k m := by
 cases k <;> simp only [inR] at h ⊢ <;> omega
theorem and_bits {k : IntKind} {a b : Int} (h1 : 0 ≤ a) (h2 : 0 ≤ b) (h3 : inR k a) (h4 : inR k b) : k.wrap (BitVec.ofInt k.bits a &&& BitVec.ofInt k.bits b).toNat = bitsN a b := by
 obtain ⟨m, rfl⟩ : ∃ m : Nat, a = m := ⟨a.toNat, by omega⟩
 obtain ⟨n, rfl⟩ : ∃ n : Nat, b = n := ⟨b.toNat, by omega⟩
 rw [BitVec.toNat_and, BitVec.ofInt_natCast, BitVec.ofInt_natCast, BitVec.toNat_ofNat, BitVec.toNat_ofNat, Nat.mod_eq_of_lt (inR_nat h3), Nat.mod_eq_of_lt (inR_nat h4)]
 exact wrap_inR (inR_le h3 Nat.and_le_left)
theorem symInt_ok {op : BinOp} {k : IntKind} {a b : Int} {t : TypeId} {ox oy : Operand} {Kv : V → Prop} (h : symInt op k a b Kv) (H : AHeap) : ∃ v v', binA P op t ox oy (.int k a) (.int k b) H = some (v', H) ∧ Kv v ∧ VRel P σ ν v v' := by
 have e : (k == k) = true := by simp
 have fl : ∀ (k : IntKind) (n : Int), Ev.flat (.int k n) = true := fun _ _ => rfl
 cases op <;> simp only [symInt] at h <;> simp only [binA, e, cond_true, intBin]
 case add =>
  unfold symAdd at h
  split at h
  ·exact ⟨_, _, rfl, h, by rw [wrapF_eq, show Int.add a b = a + b from rfl]; exact .int⟩
  ·exact ⟨_, _, rfl, h.2, by rw [wrapF_eq, show Int.add a b = a + b from rfl, wrap_inR h.1]; exact .int⟩
 case sub => exact ⟨_, _, rfl, h.2, by rw [wrapF_eq, show Int.sub a b = a - b from rfl, wrap_inR h.1]; exact .int⟩
 case mul => exact ⟨_, _, rfl, h.2, by rw [wrapF_eq, show Int.mul a b = a * b from rfl, wrap_inR h.1]; exact .int⟩
 case quo =>
  have hv : (binOp .quo t (.int k a) (.int k b)).val? P = some (.int k (a.tdiv b)) := by
   simp only [binOp, ne_eq, not_true_eq_false, if_false, Op.intDiv, if_neg h.1, wrap_inR h.2.1]; rfl
  refine ⟨_, _, ?_, h.2.2, .int⟩
  simp only [flatVal, hv, fl, cond_true]
 case rem =>
  have hv : (binOp .rem t (.int k a) (.int k b)).val? P = some (.int k (a.tmod b)) := by
   simp only [binOp, ne_eq, not_true_eq_false, if_false, Op.intDiv, if_neg h.1]; rfl
  refine ⟨_, _, ?_, h.2, .int⟩
  simp only [flatVal, hv, fl, cond_true]
 case and =>
  obtain ⟨h1, h2, h3, h4, h5⟩ := h
  have hv : (binOp .and t (.int k a) (.int k b)).val? P = some (.int k (bitsN a b)) := by
   have e : binOp .and t (.int k a) (.int k b) = pure (.int k (k.wrap (BitVec.ofInt k.bits a &&& BitVec.ofInt k.bits b).toNat)) := by simp [binOp, Op.intBits]
   rw [e, and_bits h1 h2 h3 h4]; rfl
  refine ⟨_, _, ?_, h5, .int⟩
  simp only [flatVal, hv, fl, cond_true]
 case shr =>
  obtain ⟨h0, h⟩ := h
  have hv : (binOp .shr t (.int k a) (.int k b)).val? P = some (.int k (shrZ k a b)) := by
   have e : binOp .shr t (.int k a) (.int k b) = pure (.int k (shrZ k a b)) := by
    simp only [binOp, Op.shift]
    rw [if_neg (by omega)]; rfl
   rw [e]; rfl
  refine ⟨_, _, ?_, h, .int⟩
  simp only [flatVal, hv, fl, cond_true]
 case eql => exact ⟨_, _, rfl, h, by rw [← dec_eq (p := a = b) (b := eqI a b) (by rw [eqI_eq]; simp)]; exact .prop⟩
 case neq => exact ⟨_, _, rfl, h, by rw [← dec_eq (p := ¬ a = b) (b := Bool.not (eqI a b)) (by rw [eqI_eq]; simp)]; exact .prop⟩
 case lss => exact ⟨_, _, rfl, h, by rw [← dec_eq (p := a < b) (b := ltI a b) (by rw [ltI_eq]; simp)]; exact .prop⟩
 case leq => exact ⟨_, _, rfl, h, by rw [← dec_eq (p := a ≤ b) (b := Bool.not (ltI b a)) (by rw [ltI_eq]; simp)]; exact .prop⟩
 case gtr => exact ⟨_, _, rfl, h, by rw [← dec_eq (p := b < a) (b := ltI b a) (by rw [ltI_eq]; simp)]; exact .prop⟩
 case geq => exact ⟨_, _, rfl, h, by rw [← dec_eq (p := b ≤ a) (b := Bool.not (ltI a b)) (by rw [ltI_eq]; simp)]; exact .prop⟩
theorem bytes_inj {a b : List UInt8} : ((⟨⟨a⟩⟩ : ByteArray).toList == (⟨⟨b⟩⟩ : ByteArray).toList) = true ↔ a = b := by
 rw [ByteArray.toList_eq, ByteArray.toList_eq]; simp
theorem bytes_less (a b : List UInt8) : Op.bytesLess (⟨⟨a⟩⟩ : ByteArray).toList (⟨⟨b⟩⟩ : ByteArray).toList = true ↔ sLt a b := by
 rw [ByteArray.toList_eq, ByteArray.toList_eq]; exact ⟨fun h => ⟨h⟩, fun h => h.out⟩
theorem bytes_add (a b : List UInt8) : ((⟨⟨a⟩⟩ : ByteArray) ++ (⟨⟨b⟩⟩ : ByteArray)) = ⟨⟨a ++ b⟩⟩ := by
 apply ByteArray.ext
 simp
theorem symStr_ok {op : BinOp} {a b : List UInt8} {t : TypeId} {ox oy : Operand} {Kv : V → Prop} (h : symStr op a b Kv) (H : AHeap) : ∃ v v', binA P op t ox oy (.string ⟨⟨a⟩⟩) (.string ⟨⟨b⟩⟩) H = some (v', H) ∧ Kv v ∧ VRel P σ ν v v' := by
 have nk : nilEqK P t (.string ⟨⟨a⟩⟩) (.string ⟨⟨b⟩⟩) = none := by unfold nilEqK; split <;> simp_all
 have na : nilEqA P op t (.string ⟨⟨a⟩⟩) (.string ⟨⟨b⟩⟩) = none := by unfold nilEqA; rw [nk]
 have fl : ∀ (s : ByteArray), Ev.flat (.string s) = true := fun _ => rfl
 have fb : ∀ (s : Bool), Ev.flat (.bool s) = true := fun _ => rfl
 cases op <;> simp only [symStr] at h <;> simp only [binA, na, fl, Bool.and_self, cond_true, flatVal, val?_bind]
 case add =>
  have hv : (binOp .add t (.string ⟨⟨a⟩⟩) (.string ⟨⟨b⟩⟩)).val? P = some (.string ⟨⟨a ++ b⟩⟩) := by
   simp only [binOp, Op.stringOp, bytes_add]
   rw [if_neg]
   ·rfl
   ·have h1 : (⟨⟨a⟩⟩ : ByteArray).size = a.length := rfl
    have h2 : (⟨⟨b⟩⟩ : ByteArray).size = b.length := rfl
    have hm : IntKind.i64.max = 9223372036854775807 := by decide
    rw [h1, h2, hm]; omega
  refine ⟨_, _, ?_, h.2, .str⟩
  have : (eqGuard .add t ox oy (.string ⟨⟨a⟩⟩) (.string ⟨⟨b⟩⟩)).val? P = some () := rfl
  rw [this]; simp only [Option.bind_some, hv, fl, cond_true]
 case eql =>
  have hv : (binOp .eql t (.string ⟨⟨a⟩⟩) (.string ⟨⟨b⟩⟩)).val? P = some (.bool (dec (a = b))) := by
   simp only [binOp, Op.stringOp]; rw [dec_eq bytes_inj]; rfl
  refine ⟨_, _, ?_, h, .prop⟩
  have : (eqGuard .eql t ox oy (.string ⟨⟨a⟩⟩) (.string ⟨⟨b⟩⟩)).val? P = some () := rfl
  rw [this]; simp only [Option.bind_some, hv, fb, cond_true]
 case neq =>
  have hv : (binOp .neq t (.string ⟨⟨a⟩⟩) (.string ⟨⟨b⟩⟩)).val? P = some (.bool (dec (¬ a = b))) := by
   simp only [binOp, Op.stringOp]
   rw [dec_eq (b := !((⟨⟨a⟩⟩ : ByteArray).toList == (⟨⟨b⟩⟩ : ByteArray).toList))]
   ·rfl
   ·rw [Bool.not_eq_true', ← Bool.not_eq_true, bytes_inj]
  refine ⟨_, _, ?_, h, .prop⟩
  have : (eqGuard .neq t ox oy (.string ⟨⟨a⟩⟩) (.string ⟨⟨b⟩⟩)).val? P = some () := rfl
  rw [this]; simp only [Option.bind_some, hv, fb, cond_true]
 case lss =>
  have hv : (binOp .lss t (.string ⟨⟨a⟩⟩) (.string ⟨⟨b⟩⟩)).val? P = some (.bool (dec (sLt a b))) := by
   simp only [binOp, Op.stringOp]; rw [dec_eq (bytes_less a b)]; rfl
  refine ⟨_, _, ?_, h, .prop⟩
  have : (eqGuard .lss t ox oy (.string ⟨⟨a⟩⟩) (.string ⟨⟨b⟩⟩)).val? P = some () := rfl
  rw [this]; simp only [Option.bind_some, hv, fb, cond_true]
 case leq =>
  have hv : (binOp .leq t (.string ⟨⟨a⟩⟩) (.string ⟨⟨b⟩⟩)).val? P = some (.bool (dec (sLt a b ∨ a = b))) := by
   simp only [binOp, Op.stringOp]
   rw [dec_eq (p := sLt a b ∨ a = b) (b := (Op.bytesLess (⟨⟨a⟩⟩ : ByteArray).toList (⟨⟨b⟩⟩ : ByteArray).toList || (⟨⟨a⟩⟩ : ByteArray).toList == (⟨⟨b⟩⟩ : ByteArray).toList)) (by rw [Bool.or_eq_true, bytes_less, bytes_inj])]; rfl
  refine ⟨_, _, ?_, h, .prop⟩
  have : (eqGuard .leq t ox oy (.string ⟨⟨a⟩⟩) (.string ⟨⟨b⟩⟩)).val? P = some () := rfl
  rw [this]; simp only [Option.bind_some, hv, fb, cond_true]
 case gtr =>
  have hv : (binOp .gtr t (.string ⟨⟨a⟩⟩) (.string ⟨⟨b⟩⟩)).val? P = some (.bool (dec (¬ (sLt a b ∨ a = b)))) := by
   simp only [binOp, Op.stringOp]
   rw [dec_eq (p := ¬ (sLt a b ∨ a = b)) (b := !(Op.bytesLess (⟨⟨a⟩⟩ : ByteArray).toList (⟨⟨b⟩⟩ : ByteArray).toList || (⟨⟨a⟩⟩ : ByteArray).toList == (⟨⟨b⟩⟩ : ByteArray).toList)) (by rw [Bool.not_eq_true', ← Bool.not_eq_true, Bool.or_eq_true, bytes_less, bytes_inj])]; rfl
  refine ⟨_, _, ?_, h, .prop⟩
  have : (eqGuard .gtr t ox oy (.string ⟨⟨a⟩⟩) (.string ⟨⟨b⟩⟩)).val? P = some () := rfl
  rw [this]; simp only [Option.bind_some, hv, fb, cond_true]
 case geq =>
  have hv : (binOp .geq t (.string ⟨⟨a⟩⟩) (.string ⟨⟨b⟩⟩)).val? P = some (.bool (dec (¬ sLt a b))) := by
   simp only [binOp, Op.stringOp]
   rw [dec_eq (p := ¬ sLt a b) (b := !(Op.bytesLess (⟨⟨a⟩⟩ : ByteArray).toList (⟨⟨b⟩⟩ : ByteArray).toList)) (by rw [Bool.not_eq_true', ← Bool.not_eq_true, bytes_less])]; rfl
  refine ⟨_, _, ?_, h, .prop⟩
  have : (eqGuard .geq t ox oy (.string ⟨⟨a⟩⟩) (.string ⟨⟨b⟩⟩)).val? P = some () := rfl
  rw [this]; simp only [Option.bind_some, hv, fb, cond_true]
theorem symBool_ok {op : BinOp} {a b : Prop} {t : TypeId} {ox oy : Operand} {Kv : V → Prop} (ht : isBoolT P t = true) (h : symBool op a b Kv) (H : AHeap) : ∃ v v', binA P op t ox oy (.bool (dec a)) (.bool (dec b)) H = some (v', H) ∧ Kv v ∧ VRel P σ ν v v' := by
 have hu : P.underlying t = some .bool := by unfold isBoolT at ht; split at ht <;> simp_all
 have nk : nilEqK P t (.bool (dec a)) (.bool (dec b)) = none := by unfold nilEqK; split <;> simp_all
 have na : nilEqA P op t (.bool (dec a)) (.bool (dec b)) = none := by unfold nilEqA; rw [nk]
 have fb : ∀ (s : Bool), Ev.flat (.bool s) = true := fun _ => rfl
 have heq : (Op.equal t (.bool (dec a)) (.bool (dec b))).val? P = some (dec a == dec b) := by
  have hq : ∀ d, (Op.equalIn (d + 1) t (.bool (dec a)) (.bool (dec b))).val? P = some (dec a == dec b) := fun d => by
   unfold Op.equalIn
   rw [val?_bind]
   have : (Go.underlying t).val? P = some .bool := by
    unfold Go.underlying
    rw [val?_bind]
    have : (Go.program).val? P = some P := rfl
    rw [this]
    simp only [Option.bind_some, hu]; rfl
   rw [this]; rfl
  exact hq 9999
 have hd : (dec a == dec b) = true ↔ (a ↔ b) := by
  by_cases h1 : a <;> by_cases h2 : b <;> simp [dec_true, dec_false, h1, h2]
 cases op <;> simp only [symBool] at h <;> simp only [binA, na, fb, Bool.and_self, cond_true, flatVal, val?_bind]
 case eql =>
  have hv : (binOp .eql t (.bool (dec a)) (.bool (dec b))).val? P = some (.bool (dec (a ↔ b))) := by
   simp only [binOp]; rw [val?_bind, heq, dec_eq hd]; rfl
  refine ⟨_, _, ?_, h, .prop⟩
  have : (eqGuard .eql t ox oy (.bool (dec a)) (.bool (dec b))).val? P = some () := rfl
  rw [this]; simp only [Option.bind_some, hv, fb, cond_true]
 case neq =>
  have hv : (binOp .neq t (.bool (dec a)) (.bool (dec b))).val? P = some (.bool (dec (¬ (a ↔ b)))) := by
   simp only [binOp]
   rw [val?_bind, heq]
   rw [dec_eq (p := ¬ (a ↔ b)) (b := !(dec a == dec b)) (by rw [Bool.not_eq_true', ← Bool.not_eq_true, hd])]
   rfl
  refine ⟨_, _, ?_, h, .prop⟩
  have : (eqGuard .neq t ox oy (.bool (dec a)) (.bool (dec b))).val? P = some () := rfl
  rw [this]; simp only [Option.bind_some, hv, fb, cond_true]
end
end Go.Ev
