/-
  Part of the engine that the claim is proved with: it states nothing of the document by itself.
-/
import Derived.Test.YtehipkhbnhagbaaGreatDoorProg
import Derived.Shelf.Sort.AssemblyIn
import Derived.Shelf.Slices.CompactI
import Derived.Sort.EveryDepth
import Derived.Test.YtehipkhbnhagbaaGreatDoorCoreAwake
import Derived.Test.YtehipkhbnhagbaaGreatDoorCoreG1

section
namespace Go.Proofs
open Go.Shelf
def Tryz.lays189_ren : Go.Shelf.Ren := ⟨fun | 189 => 147 | 125 => 146 | 257 => 181 | 128 => 179 | 129 => 180 | 294 => 235 | 295 => 236 | 296 => 237 | 297 => 238 | 298 => 239 | 299 => 240 | 216 => 94 | 300 => 241 | 301 => 242 | 328 => 264 | 329 => 231 | 330 => 232 | 331 => 265 | 332 => 266 | 215 => 144 | 343 => 274 | n => n, fun | 28 => 29 | 3 => 3 | 46 => 81 | 0 => 0 | 51 => 189 | 53 => 191 | 4 => 4 | 183 => 183 | 182 => 182 | 131 => 46 | 5 => 5 | 9 => 9 | 218 => 209 | 222 => 213 | 228 => 229 | 229 => 89 | n => n, fun | n => n⟩
theorem Tryz.lays189 : Go.Proofs.Lays.n189 Tryz.prog Tryz.lays189_ren := {
  mixed := by kernel_rfl
  f125 := Tryz.func146.trans (congrArg some (by kernel_rfl))
  f128 := Tryz.func179.trans (congrArg some (by kernel_rfl))
  f129 := Tryz.func180.trans (congrArg some (by kernel_rfl))
  f189 := Tryz.func147.trans (congrArg some (by kernel_rfl))
  f215 := Tryz.func144.trans (congrArg some (by kernel_rfl))
  f216 := Tryz.func94.trans (congrArg some (by kernel_rfl))
  f257 := Tryz.func181.trans (congrArg some (by kernel_rfl))
  f294 := Tryz.func235.trans (congrArg some (by kernel_rfl))
  f295 := Tryz.func236.trans (congrArg some (by kernel_rfl))
  f296 := Tryz.func237.trans (congrArg some (by kernel_rfl))
  f297 := Tryz.func238.trans (congrArg some (by kernel_rfl))
  f298 := Tryz.func239.trans (congrArg some (by kernel_rfl))
  f299 := Tryz.func240.trans (congrArg some (by kernel_rfl))
  f300 := Tryz.func241.trans (congrArg some (by kernel_rfl))
  f301 := Tryz.func242.trans (congrArg some (by kernel_rfl))
  f328 := Tryz.func264.trans (congrArg some (by kernel_rfl))
  f329 := Tryz.func231.trans (congrArg some (by kernel_rfl))
  f330 := Tryz.func232.trans (congrArg some (by kernel_rfl))
  f331 := Tryz.func265.trans (congrArg some (by kernel_rfl))
  f332 := Tryz.func266.trans (congrArg some (by kernel_rfl))
  f343 := Tryz.func274.trans (congrArg some (by kernel_rfl))
  t0 := Tryz.underlying0
  a0 := Tryz.isAgg0
  z0 := Tryz.sizeOf0
  v0 := Tryz.zeroValue0
  t3 := Tryz.underlying3
  a3 := Tryz.isAgg3
  z3 := Tryz.sizeOf3
  v3 := Tryz.zeroValue3
  t4 := Tryz.underlying4
  a4 := Tryz.isAgg4
  z4 := Tryz.sizeOf4
  v4 := Tryz.zeroValue4
  t5 := Tryz.underlying5
  a5 := Tryz.isAgg5
  z5 := Tryz.sizeOf5
  v5 := Tryz.zeroValue5
  t9 := Tryz.underlying9
  a9 := Tryz.isAgg9
  z9 := Tryz.sizeOf9
  v9 := Tryz.zeroValue9
  t28 := Tryz.underlying29
  a28 := Tryz.isAgg29
  z28 := Tryz.sizeOf29
  v28 := Tryz.zeroValue29
  t46 := Tryz.underlying81
  a46 := Tryz.isAgg81
  z46 := Tryz.sizeOf81
  v46 := Tryz.zeroValue81
  t51 := Tryz.underlying189
  a51 := Tryz.isAgg189
  z51 := Tryz.sizeOf189
  v51 := Tryz.zeroValue189
  t53 := Tryz.underlying191
  a53 := Tryz.isAgg191
  z53 := Tryz.sizeOf191
  v53 := Tryz.zeroValue191
  t131 := Tryz.underlying46
  a131 := Tryz.isAgg46
  z131 := Tryz.sizeOf46
  v131 := Tryz.zeroValue46
  t182 := Tryz.underlying182
  a182 := Tryz.isAgg182
  z182 := Tryz.sizeOf182
  v182 := Tryz.zeroValue182
  t183 := Tryz.underlying183
  a183 := Tryz.isAgg183
  z183 := Tryz.sizeOf183
  v183 := Tryz.zeroValue183
  t218 := Tryz.underlying209
  a218 := Tryz.isAgg209
  z218 := Tryz.sizeOf209
  v218 := Tryz.zeroValue209
  t222 := Tryz.underlying213
  a222 := Tryz.isAgg213
  z222 := Tryz.sizeOf213
  v222 := Tryz.zeroValue213
  t228 := Tryz.underlying229
  a228 := Tryz.isAgg229
  z228 := Tryz.sizeOf229
  v228 := Tryz.zeroValue229
  t229 := Tryz.underlying89
  a229 := Tryz.isAgg89
  z229 := Tryz.sizeOf89
  v229 := Tryz.zeroValue89 }
def Tryz.lays2_20_ren : Go.Shelf.Ren := ⟨fun | 20 => 148 | n => n, fun | 22 => 29 | 3 => 3 | 4 => 4 | 0 => 0 | n => n, fun | n => n⟩
theorem Tryz.lays2_20 : Go.Proofs.Lays2.n20 Tryz.prog Tryz.lays2_20_ren := {
  mixed := by kernel_rfl
  f20 := Tryz.func148.trans (congrArg some (by kernel_rfl))
  t0 := Tryz.underlying0
  a0 := Tryz.isAgg0
  z0 := Tryz.sizeOf0
  v0 := Tryz.zeroValue0
  t3 := Tryz.underlying3
  a3 := Tryz.isAgg3
  z3 := Tryz.sizeOf3
  v3 := Tryz.zeroValue3
  t4 := Tryz.underlying4
  a4 := Tryz.isAgg4
  z4 := Tryz.sizeOf4
  v4 := Tryz.zeroValue4
  t22 := Tryz.underlying29
  a22 := Tryz.isAgg29
  z22 := Tryz.sizeOf29
  v22 := Tryz.zeroValue29
  i3 := by kernel_rfl }
end Go.Proofs

end

section
open Go.Proofs
namespace Go.Ev

noncomputable def sortF : RowF := ⟨fun zs => zs.mergeSort fun x y => decide (x ≤ y), fun _ => none⟩
noncomputable def compactF : RowF := ⟨fun zs => Lib.compact zs ++ List.replicate (zs.length - (Lib.compact zs).length) 0, fun zs => some (Lib.compact zs).length⟩
theorem compact_le (zs : List Int) : (Lib.compact zs).length ≤ zs.length := by
  unfold Lib.compact Lib.compactUpTo
  rw [List.length_map]
  exact Nat.le_trans (List.length_filter_le _ _) (by simp)
theorem ev_sort0 : evCall Tryz.prog { bits := GB, fast := true, ora := fun _ => none } 100 147 [.slice none 0 0] = some (.tuple #[]) := by kernel_rfl
theorem ev_compact0 : evCall Tryz.prog { bits := GB, fast := true, ora := fun _ => none } 100 148 [.slice none 0 0] = some (.slice none 0 0) := by kernel_rfl
/-- slices.Sort at []int: the library's own text, by the shelf's contract. -/
theorem sort147 : SortFact Tryz.prog 147 sortF := by
  refine ⟨fun args w => ?_, fun zs => ⟨List.length_mergeSort _, fun k h => by cases h⟩, fun n w => (tab_of_ev (P := Tryz.prog) (GOK.of okGB) mixedT ev_sort0).2 n w |>.2, fun n w blk off cap zs hH hb hl _ => ?_⟩
  · obtain ⟨body, hbody⟩ : ∃ body, Tryz.f147.body = some body := ⟨_, rfl⟩
    exact run_callFunc_in (GOK.of okGB) (by kernel_rfl) Tryz.func147 hbody args w
  · have h : Calls Tryz.prog 147 #[.slice (some ⟨blk, off, none⟩) zs.length cap] w (fun e w' => e = .returned (.tuple #[]) ∧ ∃ n os, w' = Sort.grow (Sort.putRow (Value.int .i64) (Sort.ahead w n) blk off (zs.mergeSort fun x y => decide (x ≤ y)).toArray) os) :=
      calls_of_every_depth fun D => AnyS.slices_Sort_int_in Tryz.lays189 D blk off cap zs w hH hb hl
    exact callsIn_wide.2 h
/-- slices.Compact at []int. -/
theorem compact148 : SortFact Tryz.prog 148 compactF := by
  refine ⟨fun args w => ?_, fun zs => ⟨?_, fun k h => ?_⟩, fun n w => (tab_of_ev (P := Tryz.prog) (GOK.of okGB) mixedT ev_compact0).2 n w |>.2, fun n w blk off cap zs hH hb hl hc => ?_⟩
  · obtain ⟨body, hbody⟩ : ∃ body, Tryz.f148.body = some body := ⟨_, rfl⟩
    exact run_callFunc_in (GOK.of okGB) (by kernel_rfl) Tryz.func148 hbody args w
  · show (Lib.compact zs ++ List.replicate (zs.length - (Lib.compact zs).length) 0).length = zs.length
    have := compact_le zs
    rw [List.length_append, List.length_replicate]; omega
  · cases h; exact compact_le zs
  · have h : Calls Tryz.prog 148 #[.slice (some ⟨blk, off, none⟩) zs.length cap] w (fun e w' => e = .returned (.slice (some ⟨blk, off, none⟩) (Lib.compact zs).length cap) ∧ ∃ q, w' = Sort.putRow (Value.int .i64) (Sort.ahead w q) blk off (Lib.compact zs ++ List.replicate (zs.length - (Lib.compact zs).length) 0).toArray) :=
      Any.slices_Compact_int Tryz.lays2_20 blk off cap zs w hH (by omega) hc
    refine callsIn_wide.2 (h.mono ?_)
    rintro e w' ⟨rfl, q, rfl⟩
    exact ⟨rfl, q, #[], by rw [Sort.grow_empty]; rfl⟩
/-- What is known of functions that turn rows in place. -/
noncomputable def rowsF : FuncId → Option RowF := fun g => cond (Nat.beq g 147) (some sortF) (cond (Nat.beq g 148) (some compactF) none)
/-- The functions with the chapter's examples as known, and the library's sort. -/
theorem okGT : GOK Tryz.prog { bits := GB, fast := false, ora := fun g => cond (Nat.beq g 21) (some (.bool true)) none, srt := rowsF } := by
  refine ⟨okGS.1, okGS.2.1, fun g xs v h => ?_, fun g f h => ?_⟩
  · cases h
  · have h : rowsF g = some f := h
    unfold rowsF at h
    cases h1 : Nat.beq g 147 with
    | true => rw [h1] at h; cases h; rw [Nat.eq_of_beq_eq_true h1]; exact sort147
    | false =>
      rw [h1] at h
      cases h2 : Nat.beq g 148 with
      | true => rw [h2] at h; cases h; rw [Nat.eq_of_beq_eq_true h2]; exact compact148
      | false => rw [h2] at h; cases h
#print axioms okGT
end Go.Ev

end

section

/-! The symbolic run: conditions for a run of the evaluator, reckoned from the code; the leaves are Lean's own terms. -/
namespace Go.Ev

/-- Data. -/
inductive D where
  | int (n : Int)
  | bool (p : Prop)
  | str (s : List UInt8)
  | nil
  | list (l : List D)
  | sct (fs : List D)

def D.asInt : D → Int | .int n => n | _ => 0
def D.asProp : D → Prop | .bool p => p | _ => False
def D.asStr : D → List UInt8 | .str s => s | _ => []
def D.asList : D → List D | .list l => l | _ => []
def D.isNil : D → Prop | .nil => True | _ => False
def nthD (l : List D) (i : Nat) : D := (l[i]?).getD .nil
def D.fld (d : D) (j : Nat) : D := match d with | .sct fs => nthD fs j | _ => .nil
def D.len (d : D) : Nat := d.asList.length
theorem asInt_int (n : Int) : (D.int n).asInt = n := rfl
theorem asProp_bool (p : Prop) : (D.bool p).asProp = p := rfl
theorem asStr_str (s : List UInt8) : (D.str s).asStr = s := rfl
theorem asList_list (l : List D) : (D.list l).asList = l := rfl
theorem asList_nil : D.nil.asList = [] := rfl
theorem isNil_nil : D.nil.isNil = True := rfl
theorem isNil_list (l : List D) : (D.list l).isNil = False := rfl
theorem len_list (l : List D) : (D.list l).len = l.length := rfl
theorem len_nil : D.nil.len = 0 := rfl
theorem fld_sct (fs : List D) (j : Nat) : (D.sct fs).fld j = nthD fs j := rfl
theorem nthD_zero (a : D) (l : List D) : nthD (a :: l) 0 = a := rfl
theorem nthD_succ (a : D) (l : List D) (n : Nat) : nthD (a :: l) (n + 1) = nthD l n := rfl
/-- A part of a slice. -/
def D.sub (d : D) (o n : Nat) : D := match d with | .list l => .list ((l.drop o).take n) | d => d

/-- A number that is written out, or one that is not. -/
inductive NL where
  | lit (n : Nat)
  | sym (n : Nat)
def NL.v : NL → Nat | .lit n => n | .sym n => n
def NL.add : NL → NL → NL
  | .lit a, .lit b => .lit (a + b)
  | .lit a, .sym b => cond (Nat.beq a 0) (.sym b) (.sym (a + b))
  | a, b => .sym (a.v + b.v)
def NL.sub : NL → NL → NL
  | .lit a, .lit b => .lit (a - b)
  | a, .lit b => cond (Nat.beq b 0) a (.sym (a.v - b))
  | a, b => .sym (a.v - b.v)

inductive V where
  | val (v : Value)
  | int (k : IntKind) (n : Int)
  | prop (p : Prop)
  | str (s : List UInt8)
  | agg (cs : List V)
  | tup (cs : List V)
  /-- a cell of a block of the call's own -/
  | ptr (b o : Nat)
  /-- an element of a row of the call's own -/
  | ept (b : Nat) (i : NL)
  | slc (b : Nat) (o n : NL) (c : Option NL)
  /-- a slice that nobody writes, of a type -/
  | dat (t : TypeId) (d : D)
  /-- a variable that nobody writes, of a type -/
  | dpt (t : TypeId) (d : D)
  | fn (g : FuncId) (first cap : List V)

/-- A block of the call's own: a variable's cells; a row of elements of a type. -/
inductive SB where
  | box (e : TypeId) (cs : List V)
  | arr (e : TypeId) (l : List D)

structure SS where
  fr : T V
  sz : Nat
  hp : T SB
  nx : Nat
  ro : Nat
  fl : Nat
  wr : List Nat

noncomputable def T.put {α : Type} (t : T α) (n : Nat) (a : Option α) : T α := T.set (Nat.succ n) t n a

noncomputable def SS.put (S : SS) (d : Option Tmp) (v : Option V) (K : SS → Prop) : Prop :=
  match d with
  | none => K S
  | some d => cond (Nat.blt d S.sz) (K { S with fr := S.fr.put d v }) False
noncomputable def SS.alloc (S : SS) (k : SB) : SS := { S with hp := S.hp.put S.nx (some k), nx := Nat.succ S.nx }
noncomputable def SS.write (S : SS) (b : Nat) (k : Option SB) : SS := { S with hp := S.hp.put b k, wr := b :: S.wr }

/-! ### Reading values off -/
def intOf : V → Option (IntKind × Int)
  | .int k n => some (k, n)
  | .val (.int k n) => some (k, n)
  | _ => none
def litOf : V → Option (IntKind × Int)
  | .val (.int k n) => some (k, n)
  | _ => none
def nlOf : V → Option (Int × NL)
  | .int _ n => some (n, .sym n.toNat)
  | .val (.int _ n) => some (n, .lit n.toNat)
  | _ => none
def isProp (b : Bool) : Prop := b = true
def propOf : V → Option Prop
  | .prop p => some p
  | .val (.bool b) => some (isProp b)
  | _ => none
def strOf : V → Option (List UInt8)
  | .str s => some s
  | .val (.string b) => some b.data.toList
  | _ => none
def V.cells : V → List V | .agg cs => cs | v => [v]
noncomputable def V.one : V → Bool
  | .agg _ | .tup _ => false
  | .val v => oneCellB v
  | _ => true
noncomputable def valOf (v : Value) : Option V :=
  match v with
  | .agg cs => cond (flat v) (some (.agg (cs.toList.map .val))) none
  | v => cond (flat v) (some (.val v)) (match v with | .tuple vs => cond (Nat.beq vs.size 0) (some (.val v)) none | _ => none)
noncomputable def evalS (S : SS) : Operand → Option V
  | .tmp t => S.fr.get t
  | .const v => valOf v
  | .func f => some (.fn f [] [])
  | .global _ => none
noncomputable def withV (S : SS) (x : Operand) (K : V → Prop) : Prop := match evalS S x with | some v => K v | none => False
noncomputable def withVs (S : SS) (xs : List Operand) : (List V → Prop) → Prop :=
  List.rec (fun K => K []) (fun x _ ih K => withV S x fun v => ih fun l => K (v :: l)) xs
noncomputable def withO (S : SS) (x : Option Operand) (K : Option V → Prop) : Prop := match x with | some x => withV S x fun v => K (some v) | none => K none

def inR : IntKind → Int → Prop
  | .i64, n => -9223372036854775808 ≤ n ∧ n < 9223372036854775808
  | .u8, n => 0 ≤ n ∧ n < 256
  | .u64, n => 0 ≤ n ∧ n < 18446744073709551616
  | .i32, n => -2147483648 ≤ n ∧ n < 2147483648
  | .u32, n => 0 ≤ n ∧ n < 4294967296
  | .i8, n => -128 ≤ n ∧ n < 128
  | .i16, n => -32768 ≤ n ∧ n < 32768
  | .u16, n => 0 ≤ n ∧ n < 65536

/-! ### Operations -/
noncomputable def symInt (op : BinOp) (k : IntKind) (a b : Int) (K : V → Prop) : Prop :=
  match op with
  | .add => inR k (a + b) ∧ K (.int k (a + b))
  | .sub => inR k (a - b) ∧ K (.int k (a - b))
  | .mul => inR k (a * b) ∧ K (.int k (a * b))
  | .quo => b ≠ 0 ∧ inR k (a.tdiv b) ∧ K (.int k (a.tdiv b))
  | .rem => b ≠ 0 ∧ K (.int k (a.tmod b))
  | .eql => K (.prop (a = b))
  | .neq => K (.prop (¬ a = b))
  | .lss => K (.prop (a < b))
  | .leq => K (.prop (a ≤ b))
  | .gtr => K (.prop (b < a))
  | .geq => K (.prop (b ≤ a))
  | _ => False

noncomputable def symStr (op : BinOp) (a b : List UInt8) (K : V → Prop) : Prop :=
  match op with
  | .add => a.length + b.length < 9223372036854775808 ∧ K (.str (a ++ b))
  | .eql => K (.prop (a = b))
  | .neq => K (.prop (¬ a = b))
  | _ => False

noncomputable def symBool (op : BinOp) (a b : Prop) (K : V → Prop) : Prop :=
  match op with
  | .eql => K (.prop (a ↔ b))
  | .neq => K (.prop (¬ (a ↔ b)))
  | _ => False

noncomputable def symNil (op : BinOp) (x : V) (K : V → Prop) : Prop :=
  match op, x with
  | .eql, .dat _ d => K (.prop d.isNil)
  | .neq, .dat _ d => K (.prop (¬ d.isNil))
  | .eql, .slc _ _ _ _ => K (.val (.bool false))
  | .neq, .slc _ _ _ _ => K (.val (.bool true))
  | _, _ => False

noncomputable def isBoolT (P : Program) (t : TypeId) : Bool := match P.underlying t with | some .bool => true | _ => false
noncomputable def isSliceT (P : Program) (t : TypeId) : Bool := match P.underlying t with | some (.slice _) => true | _ => false
noncomputable def hasSize (P : Program) (t : TypeId) : Bool := match sizeT P t with | some _ => true | none => false
noncomputable def szPos (P : Program) (t : TypeId) : Bool := match sizeT P t with | some k => Nat.blt 0 k | none => false
noncomputable def szFit (P : Program) (t : TypeId) (n : Nat) : Bool := match sizeT P t with | some k => Nat.blt 0 k && Nat.ble k n && Nat.beq (P.cellsOf t) k | none => false
/-- One and the same address, or nil. -/
noncomputable def symPtr (P : Program) (op : BinOp) (t : TypeId) (x y : V) (K : V → Prop) : Prop :=
  match P.underlying t, x, y with
  | some (.pointer e), .ptr b o, .ptr b' o' =>
    cond (Nat.beq b b' && Nat.beq o o' && hasSize P e) (match op with | .eql => K (.val (.bool true)) | .neq => K (.val (.bool false)) | _ => False) False
  | some (.pointer _), .ptr _ _, .val (.pointer none) => (match op with | .eql => K (.val (.bool false)) | .neq => K (.val (.bool true)) | _ => False)
  | _, _, _ => False
noncomputable def symBinS (P : Program) (op : BinOp) (t : TypeId) (x y : V) (K : V → Prop) : Prop :=
  match intOf x, intOf y with
  | some (k, a), some (k', b) => cond (k == k') (symInt op k a b K) False
  | _, _ =>
    match strOf x, strOf y with
    | some a, some b => symStr op a b K
    | _, _ =>
      match propOf x, propOf y with
      | some a, some b => cond (isBoolT P t) (symBool op a b K) False
      | _, _ =>
        match y with
        | .val (.slice none 0 0) => cond (isSliceT P t) (symNil op x K) False
        | y => symPtr P op t x y K

noncomputable def symBin (P : Program) (op : BinOp) (t : TypeId) (ox oy : Operand) (x y : V) (K : V → Prop) : Prop :=
  match x, y with
  | .val a, .val b =>
    match binA P op t ox oy a b { t := .leaf, next := 0, wlow := 0 } with
    | some (v, _) => cond (flat1 v && flat1 a && flat1 b) (forceV1 v fun v => K (.val v)) False
    | none => False
  | x, y => symBinS P op t x y K

noncomputable def symUn (op : UnOp) (x : V) (K : V → Prop) : Prop :=
  match op, x with
  | .not, .val (.bool b) => K (.val (.bool (!b)))
  | .not, .prop p => K (.prop (¬ p))
  | .neg, x => (match intOf x with | some (k, n) => inR k (-n) ∧ K (.int k (-n)) | none => False)
  | _, _ => False

noncomputable def symConv (P : Program) (s d : TypeId) (x : V) (K : V → Prop) : Prop :=
  match P.underlying s, P.underlying d with
  | some _, some (.int k) =>
    (match x with
     | .val (.int _ n) => forceInt (k.wrap n) fun m => K (.val (.int k m))
     | .int _ n => K (.int k (k.wrap n))
     | _ => False)
  | some .string, some .string => (match strOf x with | some s => K (.str s) | none => False)
  | _, _ => False

/-- Bytes, as data. -/
structure byteL (l : List D) : Prop where
  out : ∀ d, d ∈ l → ∃ n : Nat, n < 256 ∧ d = .int n
def bytesD (l : List D) : List UInt8 := l.map fun d => UInt8.ofNat d.asInt.toNat
def strD (s : List UInt8) : List D := s.map fun b => .int b.toNat
noncomputable def sizeIs1 (P : Program) (t : TypeId) : Bool := match sizeT P t with | some s => Nat.beq s 1 | none => false
noncomputable def isI64 (P : Program) (t : TypeId) : Bool := match P.underlying t with | some (.int .i64) => true | _ => false
noncomputable def isU8 (P : Program) (t : TypeId) : Bool := match P.underlying t with | some (.int .u8) => true | _ => false
/-- Bytes to a string; a variable's address to unsafe.Pointer and back. -/
noncomputable def symConvS (P : Program) (S : SS) (s d : TypeId) (x : V) (K : V → Prop) : Prop :=
  match x with
  | .slc b o n _ =>
    (match P.underlying s, P.underlying d, S.hp.get b with
     | some (.slice e), some .string, some (.arr e' l) =>
       cond (isU8 P e && isU8 P e' && sizeIs1 P e') (o.v + n.v ≤ l.length ∧ byteL ((l.drop o.v).take n.v) ∧ K (.str (bytesD ((l.drop o.v).take n.v)))) False
     | _, _, _ => False)
  | .ptr b o =>
    (match P.underlying s, P.underlying d, S.hp.get b with
     | some (.pointer t), some .unsafePointer, some (.box _ cs) => cond (Nat.blt o cs.length && szPos P t) (K (.ptr b o)) False
     | some .unsafePointer, some (.pointer u), some (.box e cs) =>
       cond (Nat.beq o 0 && Nat.beq e u && szFit P u cs.length) (K (.ptr b o)) False
     | _, _, _ => False)
  | x => symConv P s d x K

noncomputable def symPick (c a b : V) (K : V → Prop) : Prop :=
  match c with
  | .val (.bool t) => cond t (K a) (K b)
  | .prop p =>
    (match propOf a, propOf b with
     | some x, some y => K (.prop ((p ∧ x) ∨ (¬ p ∧ y)))
     | _, _ => False)
  | _ => False

noncomputable def sizeIs (P : Program) (t : TypeId) (n : Nat) : Bool := match sizeT P t with | some s => Nat.beq s n | none => false
noncomputable def goDat (P : Program) (rec_ : TypeId → List V → Option D) : List Field → List V → Option (List D)
  | [], [] => some []
  | [], _ => none
  | fd :: fs, vs =>
    match sizeT P fd.type with
    | none => none
    | some s =>
      cond (Nat.ble s vs.length)
        (match rec_ fd.type (vs.take s), goDat P rec_ fs (vs.drop s) with
         | some d, some ds => some (d :: ds)
         | _, _ => none) none
/-- Values as data of a type. -/
noncomputable def datOf (P : Program) : Nat → TypeId → List V → Option D
  | 0, _, _ => none
  | f + 1, t, vs =>
    cond (sizeIs P t vs.length)
    (match P.underlying t, vs with
    | some (.int k), [v] => (match intOf v with | some (k', n) => cond (k == k') (some (.int n)) none | none => none)
    | some .bool, [v] => (propOf v).map .bool
    | some .string, [v] => (strOf v).map .str
    | some (.slice _), [.val (.slice none 0 0)] => some .nil
    | some (.slice _), [.dat t' d] => cond (Nat.beq t t') (some d) none
    | some (.struct fs), vs => (goDat P (datOf P f) fs.toList vs).map .sct
    | _, _ => none) none

noncomputable def goCells (rec_ : TypeId → D → Option (List V)) (d : D) : List Field → Nat → Option (List V)
  | [], _ => some []
  | fd :: fs, j =>
    match rec_ fd.type (d.fld j), goCells rec_ d fs (Nat.succ j) with
    | some vs, some ws => some (vs ++ ws)
    | _, _ => none
/-- Data of a type as values. -/
noncomputable def cellsOf (P : Program) : Nat → TypeId → D → Option (List V)
  | 0, _, _ => none
  | f + 1, t, d =>
    match P.underlying t with
    | some (.int k) => some [.int k d.asInt]
    | some .bool => some [.prop d.asProp]
    | some .string => some [.str d.asStr]
    | some (.slice _) => some [.dat t d]
    | some (.struct fs) => goCells (cellsOf P f) d fs.toList 0
    | _ => none
noncomputable def withCells (P : Program) (t : TypeId) (d : D) (K : V → Prop) : Prop :=
  match cellsOf P 20 t d, isAggT P t with
  | some vs, some true => K (.agg vs)
  | some [v], some false => K v
  | _, _ => False

/-- Where the fields lie: each behind the ones before it. -/
noncomputable def offsOK (P : Program) : List Field → Nat → Bool
  | [], _ => true
  | fd :: fs, o => Nat.beq fd.offset o && (match sizeT P fd.type with | some s => offsOK P fs (o + s) | none => false)

noncomputable def symLoad (P : Program) (S : SS) (t : TypeId) (a : V) (K : V → Prop) : Prop :=
  match a with
  | .ptr b o =>
    match S.hp.get b with
    | some (.box _ cs) =>
      (match isAggT P t, sizeT P t with
       | some false, _ => (match cs[o]? with | some v => K v | none => False)
       | some true, some s => cond (Nat.ble (o + s) cs.length) (K (.agg ((cs.drop o).take s))) False
       | _, _ => False)
    | _ => False
  | .ept b i =>
    match S.hp.get b with
    | some (.arr e l) => cond (Nat.beq e t) (i.v < l.length ∧ withCells P t (nthD l i.v) K) False
    | _ => False
  | .dpt t' d => cond (Nat.beq t t') (withCells P t d K) False
  | _ => False

noncomputable def symStore (P : Program) (S : SS) (t : TypeId) (a x : V) (K : V → SS → Prop) : Prop :=
  match a with
  | .ptr b o =>
    match S.hp.get b, sizeT P t with
    | some (.box be cs), some s =>
      cond (Nat.ble S.ro b && Nat.beq x.cells.length s && Nat.ble (o + s) cs.length && x.cells.all V.one)
        (K (.val undef) (S.write b (some (.box be (cs.take o ++ x.cells ++ cs.drop (o + x.cells.length)))))) False
    | _, _ => False
  | .ept b i =>
    match S.hp.get b with
    | some (.arr e l) =>
      cond (Nat.beq e t && Nat.ble S.ro b)
        (match datOf P 20 t x.cells with
         | some d => i.v < l.length ∧ K (.val undef) (S.write b (some (.arr e (l.set i.v d))))
         | none => False) False
    | _ => False
  | _ => False

noncomputable def symBox (S : SS) (e : TypeId) (x : V) (K : V → SS → Prop) : Prop :=
  cond (x.cells.all V.one) (K (.ptr S.nx 0) (S.alloc (.box e x.cells))) False
noncomputable def symAlloc (P : Program) (S : SS) (e : TypeId) (K : V → SS → Prop) : Prop :=
  match zeroT P e with
  | some z => cond (flat z) (K (.ptr S.nx 0) (S.alloc (.box e (z.cells.toList.map .val)))) False
  | none => False

/-- Nought, as data. -/
noncomputable def zeroD (P : Program) (e : TypeId) : Option D :=
  match zeroT P e with
  | some z => datOf P 20 e (z.cells.toList.map .val)
  | none => none
noncomputable def symMakeSlice (P : Program) (S : SS) (t : TypeId) (l c : V) (K : V → SS → Prop) : Prop :=
  match P.underlying t with
  | some (.slice e) =>
    match nlOf l, nlOf c, zeroD P e, P.info? e with
    | some (li, l), some (ci, c), some z, some i =>
      cond (Nat.blt 0 i.size && zflat P e) (0 ≤ li ∧ li ≤ ci ∧ ci ≤ 16777216 ∧ i.bytes * c.v ≤ 281474976710656 ∧ K (.slc S.nx (.lit 0) l (some c)) (S.alloc (.arr e (List.replicate c.v z)))) False
    | _, _, _, _ => False
  | _ => False

noncomputable def posT (P : Program) (e : TypeId) : Bool := match sizeT P e with | some s => Nat.blt 0 s | none => false
noncomputable def bnd (x : Option V) (d : Int × NL) : Option (Int × NL) := match x with | none => some d | some v => nlOf v
noncomputable def capLe (n : NL) : Option NL → Int → Prop
  | none, h => h ≤ n.v
  | some c, h => h ≤ c.v
noncomputable def capSub : Option NL → NL → Option NL
  | none, _ => none
  | some c, l => some (c.sub l)
noncomputable def symSlice (P : Program) (S : SS) (t : TypeId) (x : V) (lo hi mx : Option V) (K : V → Prop) : Prop :=
  match P.underlying t, mx with
  | some (.slice e), none =>
    (match x with
    | .slc b o n c =>
      (match bnd lo (0, .lit 0), bnd hi (n.v, n), S.hp.get b with
       | some (l, ln), some (h, hn), some (.arr e' _) => cond (Nat.beq e e') (0 ≤ l ∧ l ≤ h ∧ capLe n c h ∧ K (.slc b (o.add ln) (hn.sub ln) (capSub c ln))) False
       | _, _, _ => False)
    | .dat t' d =>
      (match bnd lo (0, .lit 0), bnd hi (d.len, .sym d.len) with
       | some (l, ln), some (h, hn) => cond (Nat.beq t t' && posT P e) (0 ≤ l ∧ l ≤ h ∧ h ≤ d.len ∧ K (.dat t (d.sub ln.v (hn.sub ln).v))) False
       | _, _ => False)
    | _ => False)
  | some .string, none =>
    (match strOf x with
     | some s =>
       (match bnd lo (0, .lit 0), bnd hi (s.length, .sym s.length) with
        | some (l, ln), some (h, hn) => 0 ≤ l ∧ l ≤ h ∧ h ≤ s.length ∧ K (.str ((s.drop ln.v).take (hn.sub ln).v))
        | _, _ => False)
     | none => False)
  | _, _ => False

noncomputable def symFieldAddr (P : Program) (s : TypeId) (x : V) (f : Nat) (K : V → Prop) : Prop :=
  match x, fieldA P s f with
  | .ptr b o, some fd => (match sizeT P fd.type with | some 0 | none => False | some _ => K (.ptr b (o + fd.offset)))
  | .dpt t d, some fd =>
    (match P.underlying s, sizeT P fd.type with
     | some (.struct fs), some (.succ _) => cond (Nat.beq t s && offsOK P fs.toList 0) (K (.dpt fd.type (d.fld f))) False
     | _, _ => False)
  | _, _ => False

noncomputable def symField (P : Program) (t : TypeId) (x : V) (f : Nat) (K : V → Prop) : Prop :=
  match x, fieldA P t f with
  | .agg cs, some fd =>
    (match isAggT P fd.type, sizeT P fd.type with
     | some true, some s => cond (Nat.ble (fd.offset + s) cs.length) (K (.agg ((cs.drop fd.offset).take s))) False
     | some false, _ => (match cs[fd.offset]? with | some v => K v | none => False)
     | _, _ => False)
  | _, _ => False

noncomputable def symIndexAddr (P : Program) (S : SS) (t : TypeId) (x ix : V) (K : V → Prop) : Prop :=
  match nlOf ix, P.underlying t with
  | some (i, n), some (.slice e) =>
    (match x with
     | .slc b o l _ => (match S.hp.get b with | some (.arr e' _) => cond (Nat.beq e e') (0 ≤ i ∧ i < l.v ∧ K (.ept b (o.add n))) False | _ => False)
     | .dat t' d => cond (Nat.beq t t' && posT P e) (0 ≤ i ∧ i < d.len ∧ K (.dpt e (nthD d.asList n.v))) False
     | _ => False)
  | _, _ => False

def byteAt (s : List UInt8) (i : Nat) : Int := ((s[i]?).getD 0).toNat
noncomputable def symIndex (P : Program) (t : TypeId) (x ix : V) (K : V → Prop) : Prop :=
  match nlOf ix, strOf x, P.underlying t with
  | some (i, n), some s, some .string => 0 ≤ i ∧ i < s.length ∧ K (.int .u8 (byteAt s n.v))
  | _, _, _ => False

noncomputable def symExtract (x : V) (ix : Nat) (K : V → Prop) : Prop :=
  match x with | .tup vs => (match vs[ix]? with | some v => K v | none => False) | _ => False

noncomputable def symNilCheck (x : V) (K : V → Prop) : Prop :=
  match x with
  | .ptr _ _ | .ept _ _ | .dpt _ _ | .fn _ _ _ => K x
  | _ => False

/-- The parts of a struct that is written out: its cells are nought's but where a part lies. -/
noncomputable def fillV (places : List (Nat × Nat)) : List (Nat × V) → List V → Option (List V)
  | [], cs => some cs
  | (i, v) :: ps, cs =>
    match places[i]? with
    | some (o, s) => cond (Nat.beq v.cells.length s && Nat.ble (o + s) cs.length) (fillV places ps (cs.take o ++ v.cells ++ cs.drop (o + v.cells.length))) none
    | none => none
noncomputable def placesOf (P : Program) : List Field → Option (List (Nat × Nat))
  | [] => some []
  | fd :: fs => match sizeT P fd.type, placesOf P fs with | some s, some ps => some ((fd.offset, s) :: ps) | _, _ => none
noncomputable def symBuild (P : Program) (t : TypeId) (parts : List (Nat × V)) (K : V → Prop) : Prop :=
  match P.underlying t, zeroT P t with
  | some (.struct fs), some z =>
    (match placesOf P fs.toList with
     | some places => cond (flat z) (match fillV places parts (z.cells.toList.map .val) with | some cs => K (.agg cs) | none => False) False
     | none => False)
  | _, _ => False
noncomputable def isSliceOf (P : Program) (t e : TypeId) : Bool := (match P.underlying t with | some (.slice e') => Nat.beq e' e | _ => false) && sizeIs P t 1
/-- The types of a type's cells. -/
noncomputable def cellTs (P : Program) : Nat → TypeId → List TypeId
  | 0, _ => []
  | f + 1, t =>
    match P.underlying t with
    | some (.struct fs) => (fs.toList.map fun fd => cellTs P f fd.type).flatten
    | some (.array _ _) => []
    | _ => [t]
noncomputable def elemTs (P : Program) (t : TypeId) : List TypeId := match P.underlying t with | some (.slice e) => cellTs P 20 e | _ => []
/-- A row of the call's own that nobody writes from now on: data. -/
noncomputable def frz1 (P : Program) (S : SS) (t : TypeId) (v : V) (K : V → SS → Prop) : Prop :=
  match v with
  | .slc b o n _ =>
    (match S.hp.get b with
     | some (.arr e l) => cond (isSliceOf P t e && Nat.ble S.ro b) (o.v + n.v ≤ l.length ∧ K (.dat t (.list ((l.drop o.v).take n.v))) (S.write b none)) False
     | _ => False)
  | v => K v S
noncomputable def frzL (P : Program) : List TypeId → List V → SS → (List V → SS → Prop) → Prop
  | _, [], S, K => K [] S
  | [], v :: vs, S, K => K (v :: vs) S
  | t :: ts, v :: vs, S, K => frz1 P S t v fun v S => frzL P ts vs S fun vs S => K (v :: vs) S
noncomputable def frzV (P : Program) (S : SS) (ts : List TypeId) (v : V) (K : V → SS → Prop) : Prop :=
  match v with
  | .agg cs => frzL P ts cs S fun cs S => K (.agg cs) S
  | .slc b o n c => (match ts with | t :: _ => frz1 P S t (.slc b o n c) K | [] => K (.slc b o n c) S)
  | v => K v S
noncomputable def frzParts (P : Program) (ts : List TypeId) : List (Nat × V) → SS → (List (Nat × V) → SS → Prop) → Prop
  | [], S, K => K [] S
  | x :: ps, S, K => frzV P S ts x.2 fun v S => frzParts P ts ps S fun ps S => K ((x.1, v) :: ps) S
/-- The elements of a slice that is written out: one after the other, all of them. -/
noncomputable def elemsD (P : Program) (e : TypeId) : List (Nat × V) → Nat → Option (List D)
  | [], _ => some []
  | (i, v) :: ps, j =>
    cond (Nat.beq i j) (match datOf P 20 e v.cells, elemsD P e ps (Nat.succ j) with | some d, some ds => some (d :: ds) | _, _ => none) none
noncomputable def symBuildSlice (P : Program) (S : SS) (t : TypeId) (len : Nat) (parts : List (Nat × V)) (K : V → SS → Prop) : Prop :=
  match P.underlying t with
  | some (.slice e) =>
    (match elemsD P e parts 0, sizeT P e, zeroD P e with
     | some ds, some (.succ s), some _ =>
       cond (Nat.beq ds.length len && Nat.ble len 16777216 && Nat.ble (len * Nat.succ s) 16777216 && zflat P e) (K (.slc S.nx (.lit 0) (.lit len) (some (.lit len))) (S.alloc (.arr e ds))) False
     | _, _, _ => False)
  | _ => False

/-- The elements that an argument of append has. -/
noncomputable def srcT (P : Program) (e t2 : TypeId) : Option TypeId := match P.underlying t2 with | some (.slice e2) => some e2 | some .string => some e | _ => none
/-- What is appended. -/
noncomputable def srcS (P : Program) (S : SS) (e : TypeId) (ts : TypeId) (x : V) (K : NL → List D → Prop) : Prop :=
  match x with
  | .str s => cond (isU8 P e && sizeIs1 P e) (K (.sym s.length) (strD s)) False
  | .val (.string s) => cond (isU8 P e && sizeIs1 P e) (K (.lit s.data.toList.length) (strD s.data.toList)) False
  | .val (.slice none 0 0) => K (.lit 0) []
  | .slc b o n _ => (match S.hp.get b with | some (.arr e' l) => cond (Nat.beq e e') (o.v + n.v ≤ l.length ∧ K n ((l.drop o.v).take n.v)) False | _ => False)
  | .dat t d => cond (Nat.beq t ts) (K (.sym d.len) d.asList) False
  | _ => False
noncomputable def caseNL (n : NL) (A B : Prop) : Prop :=
  match n with
  | .lit n => cond (Nat.beq n 0) A B
  | .sym n => (n = 0 → A) ∧ (0 < n → B)
noncomputable def zsizeOK (inf : TypeInfo) : Bool := match inf.zero with | some z => Nat.beq z.cells.size inf.size | none => false
noncomputable def isSlcV : V → Bool
  | .val (.slice none 0 0) | .slc _ _ _ _ | .dat _ _ => true
  | _ => false
noncomputable def symAppend (P : Program) (S : SS) (t t2 : TypeId) (s x : V) (K : V → SS → Prop) : Prop :=
  match P.underlying t with
  | some (.slice e) =>
   match srcT P e t2 with
   | some e2 =>
    (match P.info? e with
     | some inf =>
       cond (Nat.beq e e2 && zsizeOK inf && Nat.ble inf.bytes 4096 && Nat.blt 0 inf.bytes && Nat.blt 0 inf.size)
         (srcS P S e t2 x fun k new =>
           caseNL k (cond (isSlcV s) (K s S) False)
             (match s with
              | .val (.slice none 0 0) => k.v ≤ 16777216 ∧ K (.slc S.nx (.lit 0) k none) (S.alloc (.arr e new))
              | .slc b o n c =>
                (match S.hp.get b with
                 | some (.arr e' l) =>
                   cond (Nat.beq e e')
                     (let out : Prop := K (.slc S.nx (.lit 0) (n.add k) none) (S.alloc (.arr e ((l.drop o.v).take n.v ++ new)))
                      o.v + n.v ≤ l.length ∧ n.v + k.v ≤ 16777216 ∧
                      (match c with
                       | none => cond (Nat.ble S.ro b) (K (.slc S.nx (.lit 0) (n.add k) none) ((S.write b none).alloc (.arr e ((l.drop o.v).take n.v ++ new)))) False
                       | some c =>
                         let inn : Prop := o.v + n.v + k.v ≤ l.length ∧ cond (Nat.ble S.ro b) (K (.slc b o (n.add k) (some c)) (S.write b (some (.arr e (l.take (o.v + n.v) ++ new ++ l.drop (o.v + n.v + k.v)))))) False
                         (match n, k, c with
                          | .lit n, .lit k, .lit c => cond (Nat.ble (n + k) c) inn out
                          | n, k, c => (n.v + k.v ≤ c.v → inn) ∧ (c.v < n.v + k.v → out)))) False
                 | _ => False)
              | _ => False)) False
     | none => False)
   | none => False
  | _ => False

/-- clear, of a row of integers of the call's own. -/
noncomputable def symClear (P : Program) (S : SS) (t : TypeId) (x : V) (K : V → SS → Prop) : Prop :=
  match P.underlying t, x with
  | some (.slice e), .slc b o n _ =>
    (match S.hp.get b, zeroT P e with
     | some (.arr e' l), some (.int .i64 (.ofNat 0)) =>
       cond (Nat.beq e e' && isI64 P e && sizeIs1 P e && Nat.ble S.ro b)
         (n.v ≤ 16777216 ∧ o.v + n.v ≤ l.length ∧ (n.v = 0 → K (.tup []) S) ∧ (0 < n.v → K (.tup []) (S.write b (some (.arr e (l.take o.v ++ List.replicate n.v (.int 0) ++ l.drop (o.v + n.v))))))) False
     | _, _ => False)
  | _, _ => False
/-- unsafe.SliceData and unsafe.String: the row is let go. -/
noncomputable def symData (x : V) (K : V → SS → Prop) (S : SS) : Prop :=
  match x with
  | .slc b o n _ => n.v ≠ 0 ∧ K (.ept b o) S
  | .val (.slice none 0 0) => K (.val (.pointer none)) S
  | _ => False
noncomputable def symUStr (P : Program) (S : SS) (t : TypeId) (p n : V) (K : V → SS → Prop) : Prop :=
  match p with
  | .ept b o =>
    (match P.underlying t, S.hp.get b, nlOf n, intOf n with
     | some (.pointer e), some (.arr e' l), some (_, m), some (.i64, z) =>
       cond (Nat.beq e e' && isU8 P e && sizeIs1 P e && Nat.beq (P.cellsOf e) 1 && Nat.ble S.ro b)
         (0 ≤ z ∧ 0 < m.v ∧ m.v ≤ 16777216 ∧ o.v + m.v ≤ l.length ∧ byteL ((l.drop o.v).take m.v) ∧ K (.str (bytesD ((l.drop o.v).take m.v))) (S.write b none)) False
     | _, _, _, _ => False)
  | .val (.pointer none) => (match n with | .val (.int .i64 (.ofNat 0)) => K (.val (.string ⟨#[]⟩)) S | _ => False)
  | _ => False
noncomputable def isStrT (P : Program) (t : TypeId) : Bool := match P.underlying t with | some .string => true | _ => false
noncomputable def symLen (P : Program) (t : TypeId) (x : V) (K : V → Prop) : Prop :=
  match x with
  | .slc _ _ n _ => cond (isSliceT P t) (match n with | .lit n => K (.val (.int .i64 n)) | .sym n => K (.int .i64 n)) False
  | .dat _ d => cond (isSliceT P t) (K (.int .i64 d.len)) False
  | .val (.slice none 0 0) => cond (isSliceT P t) (K (.val (.int .i64 0))) False
  | .str s => cond (isStrT P t) (K (.int .i64 s.length)) False
  | .val (.string b) => cond (isStrT P t) (K (.val (.int .i64 b.size))) False
  | _ => False

noncomputable def symMinMax (mx : Bool) (args : List V) (K : V → Prop) : Prop :=
  match args with
  | [a, b] =>
    match intOf a, intOf b with
    | some (k, x), some (k', y) => cond (k == k') (K (.int k (cond mx (max x y) (min x y)))) False
    | _, _ => False
  | _ => False

/-! ### Calls -/
/-- What a function does: on arguments of a form it asks something, and returns this. -/
abbrev Con := List V → Option (Prop × V)

/-- No reference within. -/
noncomputable def V.plain : V → Bool
  | .val v => flat1 v
  | .int _ _ | .prop _ | .str _ => true
  | _ => false
noncomputable def V.plainR : V → Bool
  | .agg cs | .tup cs => cs.all V.plain
  | v => v.plain
noncomputable def V.free : V → Bool
  | .dat _ _ | .dpt _ _ => true
  | v => v.plain
noncomputable def V.freeR : V → Bool
  | .agg cs | .tup cs => cs.all V.free
  | v => v.free
/-- A row of the call's own, lent: nobody writes it for as long. -/
noncomputable def lend (P : Program) (S : SS) (t : TypeId) (v : V) (K : V → Prop) : Prop :=
  match v with
  | .slc b o n _ => (match S.hp.get b with | some (.arr e l) => cond (isSliceOf P t e) (o.v + n.v ≤ l.length ∧ K (.dat t (.list ((l.drop o.v).take n.v)))) False | _ => False)
  | .val (.slice none 0 0) => cond (isSliceT P t && sizeIs P t 1) (K (.dat t .nil)) False
  | v => cond v.freeR (K v) False
noncomputable def lendAll (P : Program) (S : SS) : List TypeId → List V → (List V → Prop) → Prop
  | _, [], K => K []
  | t :: ts, v :: vs, K => lend P S t v fun v => lendAll P S ts vs fun vs => K (v :: vs)
  | [], v :: vs, K => cond v.freeR (lendAll P S [] vs fun vs => K (v :: vs)) False

/-- A loop's head: what its slots and blocks hold there. -/
structure Ann where
  /-- how many forms the head has -/
  hs : Nat := 1
  τ : Type
  slots : SS → Nat → τ → List (Tmp × V)
  blks : SS → Nat → τ → List (Nat × SB)
  inv : SS → Nat → τ → Prop
  meas : SS → Nat → τ → Nat
/-- What a slot, a block holds at the loop. -/
noncomputable def slI (S : SS) (t : Tmp) : Int := match (S.fr.get t).bind intOf with | some (_, n) => n | none => 0
noncomputable def slP (S : SS) (t : Tmp) : Prop := match (S.fr.get t).bind propOf with | some p => p | none => False
noncomputable def slS (S : SS) (t : Tmp) : List UInt8 := match (S.fr.get t).bind strOf with | some p => p | none => []
noncomputable def slD (S : SS) (t : Tmp) : D := match S.fr.get t with | some (.dat _ d) => d | some (.dpt _ d) => d | _ => .nil
noncomputable def bkL (S : SS) (b : Nat) : List D := match S.hp.get b with | some (.arr _ l) => l | _ => []
noncomputable def bkV (S : SS) (b o : Nat) : V := match S.hp.get b with | some (.box _ l) => (match l[o]? with | some v => v | none => .val undef) | _ => .val undef
noncomputable def bkI (S : SS) (b o : Nat) : Int := match intOf (bkV S b o) with | some (_, n) => n | none => 0

abbrev SQ := AEx → SS → Prop
structure Ctx where
  P : Program
  con : FuncId → Option Con
  ora : FuncId → Option Value
  bits : Nat
  ann : FuncId → Nat → Option Ann
  /-- what is known of functions at plain arguments -/
  tab : FuncId → Option Con := fun _ => none
  srt : FuncId → Option RowF := fun _ => none
abbrev SRun := FuncId → Code → SS → SQ → Prop

noncomputable def resS (P : Program) (S : SS) : List ResultVar → (List V → Prop) → Prop
  | [], K => K []
  | .tmp t :: rs, K => (match S.fr.get t with | some v => resS P S rs fun vs => K (v :: vs) | none => False)
  | .cell a t :: rs, K => (match S.fr.get a with | some a => symLoad P S t a fun v => resS P S rs fun vs => K (v :: vs) | none => False)
noncomputable def frameS (args : List V) : Nat → T V → T V :=
  List.rec (fun _ t => t) (fun v _ ih n t => ih (Nat.succ n) (t.put n (some v))) args

noncomputable def symInline (C : Ctx) (run : SRun) (g : FuncId) (args : List V) (S : SS) (K : V → SS → Prop) : Prop :=
  match cond (Nat.testBit C.bits g) C.P.funcs[g]? none with
  | some fn =>
    match fn.body with
    | some body =>
      cond (Nat.blt fn.ntmps args.length || Nat.blt 1000000 fn.ntmps) False
        (run g body { S with fr := frameS args 0 .leaf, sz := fn.ntmps, fl := S.nx } fun e S1 =>
          match e with
          | .exit _ => False
          | _ => resS C.P S1 fn.results.toList fun vs =>
            match vs with
            | [v] => K v { S1 with fr := S.fr, sz := S.sz, fl := S.fl }
            | vs => K (.tup vs) { S1 with fr := S.fr, sz := S.sz, fl := S.fl })
    | none => False
  | none => False

/-- Numbers, as data. -/
structure intL (l : List D) : Prop where
  out : ∀ d, d ∈ l → ∃ n : Int, d = .int n
def sortD (f : RowF) (l : List D) : List D := (f.new (l.map D.asInt)).map D.int
/-- A row of integers of the call's own, turned in place. -/
noncomputable def symSort (P : Program) (f : RowF) (S : SS) (args : List V) (K : V → SS → Prop) : Prop :=
  match args with
  | [.val (.slice none 0 0)] => (f.ret [] = none → K (.tup []) S) ∧ (∀ k, f.ret [] = some k → K (.val (.slice none 0 0)) S)
  | [.slc b o n c] =>
    (match S.hp.get b with
     | some (.arr e l) =>
       cond (isI64 P e && sizeIs1 P e && Nat.ble S.ro b)
         (0 < n.v ∧ n.v ≤ 16777216 ∧ o.v + n.v ≤ l.length ∧ intL ((l.drop o.v).take n.v) ∧ (f.new (((l.drop o.v).take n.v).map D.asInt)).length = n.v ∧
           (f.ret (((l.drop o.v).take n.v).map D.asInt) = none → K (.tup []) (S.write b (some (.arr e (l.take o.v ++ sortD f ((l.drop o.v).take n.v) ++ l.drop (o.v + n.v)))))) ∧
           (∀ k, f.ret (((l.drop o.v).take n.v).map D.asInt) = some k → k ≤ n.v ∧ K (.slc b o (.sym k) c) (S.write b (some (.arr e (l.take o.v ++ sortD f ((l.drop o.v).take n.v) ++ l.drop (o.v + n.v))))))) False
     | _ => False)
  | _ => False
noncomputable def symCall (C : Ctx) (run : SRun) (g : FuncId) (ts : List TypeId) (args : List V) (S : SS) (K : V → SS → Prop) : Prop :=
  match externA C.P g [undef], args, C.ora g with
  | some _, [x], _ => K x S
  | some _, _, _ => False
  | none, [], some v => cond (flat1 v) (K (.val v) S) False
  | none, args, _ =>
   match C.tab g with
   | some c => (match c args with | some (p, r) => p ∧ K r S | none => False)
   | none =>
    match C.srt g with
    | some f => symSort C.P f S args K
    | none => (match C.con g with
    | some c =>
      lendAll C.P S ts args fun as =>
        match c as with
        | some (p, r) => p ∧ cond (r.freeR && (r.plainR || args.all V.freeR)) (K r S) False
        | none => False
    | none => symInline C run g args S K)

noncomputable def symCallOp (C : Ctx) (run : SRun) (c : Call) (S : SS) (K : V → SS → Prop) : Prop :=
  withVs S c.args.toList fun args =>
    match c.callee with
    | .builtin .len => (match args, c.argTypes.toList with | [x], t :: _ => symLen C.P t x fun v => K v S | _, _ => False)
    | .builtin .append => (match args, c.argTypes.toList with | [s, x], t :: t2 :: _ => symAppend C.P S t t2 s x K | _, _ => False)
    | .builtin .clear => (match args, c.argTypes.toList with | [x], t :: _ => symClear C.P S t x K | _, _ => False)
    | .builtin .unsafeSliceData => (match args with | [x] => symData x K S | _ => False)
    | .builtin .unsafeString => (match args, c.argTypes.toList with | [p, n], t :: _ => symUStr C.P S t p n K | _, _ => False)
    | .builtin .min => symMinMax false args fun v => K v S
    | .builtin .max => symMinMax true args fun v => K v S
    | .value f => withV S f fun fv => match fv with
      | .fn g first cap => symCall C run g (cond first.isEmpty c.argTypes.toList []) (first ++ (args ++ cap)) S K
      | _ => False
    | _ => False

noncomputable def symParts (S : SS) (parts : List (Nat × Operand)) : (List (Nat × V) → Prop) → Prop :=
  List.rec (fun K => K []) (fun x _ ih K => withV S x.2 fun v => ih fun l => K ((x.1, v) :: l)) parts

noncomputable def symOp (C : Ctx) (run : SRun) (o : Op) (S : SS) (K : V → SS → Prop) : Prop :=
  match o with
  | .call c => symCallOp C run c S K
  | .move x | .assign x => withV S x fun v => K v S
  | .pick c a b => withV S c fun c => withV S a fun a => withV S b fun b => symPick c a b fun v => K v S
  | .alloc e => symAlloc C.P S e K
  | .box e x => withV S x fun v => symBox S e v K
  | .build t parts => symParts S parts.toList fun ps => symBuild C.P t ps fun v => K v S
  | .buildSlice t len parts => symParts S parts.toList fun ps => frzParts C.P (elemTs C.P t) ps S fun ps S => symBuildSlice C.P S t len ps K
  | .load t a => withV S a fun a => symLoad C.P S t a fun v => K v S
  | .store t a x => withV S a fun a => withV S x fun x => symStore C.P S t a x K
  | .nilCheck x => withV S x fun x => symNilCheck x fun v => K v S
  | .makeFunc (.func f) first cap => withVs S first.toList fun fs => withVs S cap.toList fun cs => K (.fn f fs cs) S
  | .makeSlice t l c => withV S l fun l => withV S c fun c => symMakeSlice C.P S t l c K
  | .slice t x lo hi mx => withV S x fun x => withO S lo fun lo => withO S hi fun hi => withO S mx fun mx => symSlice C.P S t x lo hi mx fun v => K v S
  | .fieldAddr s x f => withV S x fun x => symFieldAddr C.P s x f fun v => K v S
  | .field t x f => withV S x fun x => symField C.P t x f fun v => K v S
  | .indexAddr t x ix => withV S x fun x => withV S ix fun ix => symIndexAddr C.P S t x ix fun v => K v S
  | .index t x ix => withV S x fun x => withV S ix fun ix => symIndex C.P t x ix fun v => K v S
  | .extract t ix => withV S t fun t => symExtract t ix fun v => K v S
  | .binOp op t x y _ => withV S x fun a => withV S y fun b => symBin C.P op t x y a b fun v => K v S
  | .unOp op _ x => withV S x fun x => symUn op x fun v => K v S
  | .convert s d x => withV S x fun x => symConvS C.P S s d x fun v => K v S
  | _ => False

/-! ### Regions -/
noncomputable def symFetch (S : SS) (ops : Array Oper) (o : Oper) (yes no : SS → Prop) : Prop :=
  match o.guard with
  | none => yes S
  | some (j, want) =>
    match (ops[j]?).bind (·.dst) with
    | some d =>
      (match S.fr.get d with
       | some (.val (.bool b)) => cond (b == want) (yes S) (no S)
       | some (.val (.tuple _)) => no S
       | some (.prop p) =>
         cond want ((p → yes { S with fr := S.fr.put d (some (.val (.bool true))) }) ∧ (¬ p → no { S with fr := S.fr.put d (some (.val (.bool false))) }))
           ((¬ p → yes { S with fr := S.fr.put d (some (.val (.bool false))) }) ∧ (p → no { S with fr := S.fr.put d (some (.val (.bool true))) }))
       | _ => False)
    | none => False

noncomputable def symOps (C : Ctx) (run : SRun) (ops : Array Oper) : List Oper → SS → (SS → Prop) → Prop :=
  fun l => List.rec (fun S K => K S) (fun o _ ih S K =>
    symFetch S ops o (fun S => symOp C run o.op S fun v S1 => S1.put o.dst (some v) fun S2 => ih S2 K) (fun S => S.put o.dst (some (.val undef)) fun S2 => ih S2 K)) l
/-- Operations that turn nothing that was there. -/
noncomputable def symPre (C : Ctx) (run : SRun) (ops : Array Oper) : List Oper → SS → (SS → Prop) → Prop :=
  fun l => List.rec (fun S K => K S) (fun o _ ih S K =>
    symFetch S ops o (fun S => symOp C run o.op { S with ro := S.nx } fun v S1 => { S1 with ro := S.ro }.put o.dst (some v) fun S2 => ih S2 K) (fun S => S.put o.dst (some (.val undef)) fun S2 => ih S2 K)) l
/-- What only looks at what was there; n0: from which block on the region's own lie. -/
noncomputable def symSoft (C : Ctx) (run : SRun) (n0 : Nat) (o : Op) (S : SS) (K : V → SS → Prop) : Prop :=
  match o with
  | .load t a => withV S a fun a => match a with | .ptr b off => cond (Nat.blt b n0) (symLoad C.P S t (.ptr b off) fun v => K v S) False | _ => False
  | o => symOp C run o S K
noncomputable def symEarly (C : Ctx) (run : SRun) (ops : Array Oper) (n0 : Nat) (g : Bool) : List Oper → SS → (SS → Prop) → Prop :=
  fun l => List.rec (fun S K => K S) (fun o _ ih S K =>
    symFetch S ops o (fun S => cond (softOp o.op) (symSoft C run n0 o.op S fun v S1 => S1.put o.dst (some v) fun S2 => ih S2 K)
      (symOp C run o.op { S with ro := cond g S.nx n0 } fun v S1 => { S1 with ro := n0 }.put o.dst (some v) fun S2 => ih S2 K)) (fun S => S.put o.dst (some (.val undef)) fun S2 => ih S2 K)) l
/-- Which blocks an operation loads, and which it turns. -/
noncomputable def isBox (S : SS) (b : Nat) : Bool := match S.hp.get b with | some (.box _ _) => true | _ => false
noncomputable def symFoot (S : SS) (o : Op) (K : List Nat → List Nat → Prop) : Prop :=
  match o with
  | .load _ a => withV S a fun a => match a with | .ptr b _ => cond (isBox S b) (K [b] []) False | _ => False
  | .store _ a _ => withV S a fun a => match a with | .ptr b _ => cond (isBox S b) (K [] [b]) False | _ => False
  | .convert _ _ x => withV S x fun x => match intOf x with | some _ => K [] [] | none => False
  | _ => K [] []
noncomputable def symC (C : Ctx) (run : SRun) (ops : Array Oper) : List Oper → SS → List Nat → List Nat → (SS → Prop) → Prop :=
  fun l => List.rec (fun S ld st K => cond (ld.all fun b => st.all fun b' => !Nat.beq b b') (K S) False) (fun o _ ih S ld st K =>
    symFetch S ops o (fun S => cond (ld.all fun b => isBox S b) (symFoot S o.op fun l1 s1 => symOp C run o.op S fun v S1 => S1.put o.dst (some v) fun S2 => ih S2 (l1 ++ ld) (s1 ++ st) K) False) (fun S => S.put o.dst (some (.val undef)) fun S2 => ih S2 ld st K)) l
noncomputable def symDraw (C : Ctx) (run : SRun) (ops : Array Oper) (W : Nat) (S : SS) (Q : SQ) : Prop :=
  cond (wantB ops (tailFrom (softOf ops) (masks ops.toList []) W) W)
    (cond (drawOKB ops (masks ops.toList []) (tailFrom (softOf ops) (masks ops.toList []) W) W)
      (symEarly C run ops S.nx true (ops.toList.take (tailFrom (softOf ops) (masks ops.toList []) W)) { S with ro := S.nx } fun S1 =>
        symEarly C run ops S.nx false ((ops.toList.take W).drop (tailFrom (softOf ops) (masks ops.toList []) W)) S1 fun S2 =>
          symOps C run ops (ops.toList.drop W) { S2 with ro := S.ro } fun S3 => Q .normal S3) False)
    (cond (wantC ops W) (cond (drawOKC ops (masks ops.toList [])) (symC C run ops ops.toList S [] [] fun S1 => Q .normal S1) False) (cond (drawOK ops (masks ops.toList []) W)
      (symPre C run ops (ops.toList.take W) S fun S1 => symOps C run ops (ops.toList.drop W) S1 fun S2 => Q .normal S2) False))
noncomputable def symRegion (C : Ctx) (run : SRun) (ops : Array Oper) (draw : Bool) (S : SS) (Q : SQ) : Prop :=
  cond draw (symDraw C run ops (tailFrom (freeOf ops) (masks ops.toList []) ops.size) S Q)
    (symOps C run ops ops.toList S fun S1 => Q .normal S1)

/-! ### Loops -/
noncomputable def firstId : Code → Option Nat
  | .region id _ _ => some id
  | .seq a b => (match firstId a with | some i => some i | none => firstId b)
  | .cond _ a b => (match firstId a with | some i => some i | none => firstId b)
  | .block _ b | .loop b | .scope b => firstId b
  | _ => none
def condT : Operand → List Tmp | .tmp t => [t] | _ => []
noncomputable def writesOf : Code → List Tmp
  | .region _ ops _ => ops.toList.filterMap (·.dst) ++ ops.toList.filterMap (fun o => match o.guard with | some (j, _) => (ops[j]?).bind (·.dst) | none => none)
  | .seq a b => writesOf a ++ writesOf b
  | .cond c a b => condT c ++ (writesOf a ++ writesOf b)
  | .block _ b | .loop b | .scope b => writesOf b
  | _ => []
noncomputable def clearAll {α : Type} (l : List Nat) : T α → T α := List.rec (fun t => t) (fun n _ ih t => ih (t.put n none)) l
noncomputable def setAll {α : Type} (l : List (Nat × α)) : T α → T α := List.rec (fun t => t) (fun x _ ih t => ih (t.put x.1 (some x.2))) l
noncomputable def maxId : List (Nat × SB) → Nat → Nat
  | [], n => n
  | x :: l, n => maxId l (cond (Nat.ble n x.1) (Nat.succ x.1) n)
noncomputable def headS (S : SS) (b : Code) (slots : List (Tmp × V)) (blks : List (Nat × SB)) : SS :=
  { S with fr := setAll slots (clearAll (writesOf b) S.fr), hp := setAll blks S.hp, nx := maxId blks S.nx, wr := [] }

/-- Which block stands for which. -/
noncomputable def renV : V → V → List (Nat × Nat)
  | .slc b _ _ _, .slc b0 _ _ _ => [(b0, b)]
  | _, _ => []
noncomputable def sameNL : Option NL → Option NL → Prop
  | none, none => True
  | some a, some b => a.v = b.v
  | _, _ => False
noncomputable def vMatch1 (v v0 : V) : Prop :=
  match v0 with
  | .int k0 n0 => (match intOf v with | some (k, n) => cond (k == k0) (n = n0) False | none => False)
  | .prop p0 => (match propOf v with | some p => (p ↔ p0) | none => False)
  | .str s0 => (match strOf v with | some s => s = s0 | none => False)
  | .dat t0 d0 =>
    (match v with
     | .dat t d => cond (Nat.beq t t0) (d = d0) False
     | _ => False)
  | .dpt t0 d0 => (match v with | .dpt t d => cond (Nat.beq t t0) (d = d0) False | _ => False)
  | .val (.slice none 0 0) => (match v with | .val (.slice none 0 0) => True | _ => False)
  | .val (.pointer none) => (match v with | .val (.pointer none) => True | _ => False)
  | .ptr b0 o0 => (match v with | .ptr b o => cond (Nat.beq b b0 && Nat.beq o o0) True False | _ => False)
  | .slc _ o0 n0 c0 => (match v with | .slc _ o n c => o.v = o0.v ∧ n.v = n0.v ∧ sameNL c c0 | _ => False)
  | _ => False
/-- A row stands for the one that the head names. -/
noncomputable def vMatchR (ren : Nat → Nat) (v v0 : V) : Prop :=
  match v0 with
  | .slc b0 o0 n0 c0 => (match v with | .slc b o n c => cond (Nat.beq (ren b0) b) (vMatch1 (.slc b o n c) (.slc b0 o0 n0 c0)) False | _ => False)
  | v0 => vMatch1 v v0
noncomputable def bMatch (ren : Nat → Nat) (k k0 : SB) : Prop :=
  match k, k0 with
  | .arr e l, .arr e0 l0 => cond (Nat.beq e e0) (l = l0) False
  | .box e cs, .box e0 cs0 => cond (Nat.beq e e0) (vs ren cs cs0) False
  | _, _ => False
  where vs (ren : Nat → Nat) : List V → List V → Prop
  | [], [] => True
  | v :: l, v0 :: l0 => vMatchR ren v v0 ∧ vs ren l l0
  | _, _ => False
/-- The slots. -/
noncomputable def slotsMatch (S : SS) (ren : Nat → Nat) : List (Tmp × V) → Prop
  | [] => True
  | (t, v0) :: l =>
    (match S.fr.get t with
     | some v => (match v, v0 with | .slc b _ _ _, .slc b0 _ _ _ => cond (Nat.beq (ren b0) b) (vMatch1 v v0) False | v, v0 => vMatch1 v v0)
     | none => False) ∧ slotsMatch S ren l
noncomputable def rens (S : SS) : List (Tmp × V) → List (Nat × Nat)
  | [] => []
  | (t, v0) :: l => (match S.fr.get t with | some v => renV v v0 | none => []) ++ rens S l
noncomputable def rensL : List V → List V → List (Nat × Nat)
  | v :: l, v0 :: l0 => renV v v0 ++ rensL l l0
  | _, _ => []
noncomputable def rensB (S : SS) : List (Nat × SB) → List (Nat × Nat)
  | [] => []
  | (b0, k0) :: l => (match S.hp.get b0, k0 with | some (.box _ cs), .box _ cs0 => rensL cs cs0 | _, _ => []) ++ rensB S l
/-- Which block stands for which, by the slots and by what the listed variables hold. -/
noncomputable def rensA (S : SS) (slots : List (Tmp × V)) (blks : List (Nat × SB)) : List (Nat × Nat) := rens S slots ++ rensB S blks
noncomputable def renOf (l : List (Nat × Nat)) (b : Nat) : Nat := match l with | [] => b | (x, y) :: l => cond (Nat.beq x b) y (renOf l b)
/-- The blocks that were turned, or are listed. -/
noncomputable def blksMatch (S : SS) (ren : Nat → Nat) : List (Nat × SB) → Prop
  | [] => True
  | (b0, k0) :: l => (match S.hp.get (ren b0) with | some k => bMatch ren k k0 | none => False) ∧ blksMatch S ren l
/-- Blocks of before that were turned must be listed. -/
noncomputable def allListed (nx0 : Nat) (blks : List (Nat × SB)) (wr : List Nat) : Bool := wr.all fun b => Nat.ble nx0 b || blks.any fun x => Nat.beq x.1 b
def V.refs : V → List Nat
  | .ptr b _ => [b]
  | .ept b _ => [b]
  | .slc b _ _ _ => [b]
  | .agg cs => refsL cs
  | .tup cs => refsL cs
  | .fn _ fs cs => refsL fs ++ refsL cs
  | _ => []
  where refsL : List V → List Nat
  | [] => []
  | v :: l => V.refs v ++ refsL l
def SB.refs : SB → List Nat
  | .box _ cs => V.refs.refsL cs
  | .arr _ _ => []
noncomputable def T.all {α : Type} (p : Nat → α → Bool) (t : T α) : (Nat → Nat) → Bool :=
  T.rec (fun _ => true) (fun _ v _ hl hr f => (match v with | some a => p (f 0) a | none => true) && hl (fun n => f (2 * n + 1)) && hr (fun n => f (2 * n + 2))) t
/-- What a listed block may refer to. -/
noncomputable def refOK (S0 : SS) (ren : List (Nat × Nat)) (blks : List (Nat × SB)) (v : V) : Bool :=
  match v with
  | .slc b _ _ _ => blks.any fun y => Nat.beq y.1 b
  | v => v.refs.all fun r => Nat.blt r S0.nx && Nat.beq (renOf ren r) r
noncomputable def SB.refOK (S0 : SS) (ren : List (Nat × Nat)) (blks : List (Nat × SB)) (k : SB) : Bool :=
  match k with
  | .box _ cs => cs.all (Go.Ev.refOK S0 ren blks)
  | .arr _ _ => true
/-- Different blocks stand for different ones; those that are not listed stand for themselves; what stays refers to no block for which another stands. -/
noncomputable def renOK (S0 : SS) (ren : List (Nat × Nat)) (blks : List (Nat × SB)) (slots : List (Tmp × V)) (cleared : T V) : Bool :=
  ren.all (fun x => blks.any fun y => Nat.beq y.1 x.1) &&
  (ren.all (fun x => Nat.beq x.1 x.2 || (Nat.ble S0.fl x.1 && Nat.ble S0.nx x.2 && blks.all (fun y => Nat.beq y.1 x.1 || !Nat.beq (renOf ren y.1) x.2))) &&
  (ren.all (fun x => Nat.beq (renOf ren x.1) x.2) &&
  (T.all (fun _ v => v.refs.all fun r => Nat.blt r S0.nx && Nat.beq (renOf ren r) r) cleared (fun n => n) &&
  (T.all (fun b k => blks.any (fun y => Nat.beq y.1 b) || k.refs.all fun r => Nat.blt r S0.nx && Nat.beq (renOf ren r) r) S0.hp (fun n => n) &&
  (slots.all (fun x => match x.2 with | .slc _ _ _ _ => true | v => v.refs.all fun r => Nat.blt r S0.nx && Nat.beq (renOf ren r) r) &&
  blks.all (fun y => y.2.refOK S0 ren blks))))))
noncomputable def matchS (S0 S1 : SS) (b : Code) (slots : List (Tmp × V)) (blks : List (Nat × SB)) : Prop :=
  cond (allListed S0.nx blks S1.wr && blks.all (fun y => Nat.ble S0.ro y.1) && slots.all (fun x => (writesOf b).any fun t => Nat.beq t x.1) && renOK S0 (rensA S1 slots blks) blks slots (clearAll (writesOf b) S0.fr))
    (slotsMatch S1 (renOf (rensA S1 slots blks)) slots ∧ blksMatch S1 (renOf (rensA S1 slots blks)) blks) False

def LIM : Nat := 1000000000
def orN : Nat → (Nat → Prop) → Prop
  | 0, _ => False
  | 1, p => p 0
  | n + 2, p => orN (n + 1) p ∨ p (n + 1)
def andN : Nat → (Nat → Prop) → Prop
  | 0, _ => True
  | 1, p => p 0
  | n + 2, p => andN (n + 1) p ∧ p (n + 1)
noncomputable def symLoop (A : Ann) (ih : Code → SS → SQ → Prop) (b : Code) (S : SS) (Q : SQ) : Prop :=
  (orN A.hs fun i => ∃ x, A.inv S i x ∧ matchS S { S with wr := [] } b (A.slots S i x) (A.blks S i x)) ∧
  andN A.hs fun i => ∀ x, A.inv S i x → A.meas S i x < LIM ∧ ih b (headS S b (A.slots S i x) (A.blks S i x)) fun e S1 =>
    match e with
    | .normal => orN A.hs fun i' => ∃ y, A.inv S i' y ∧ A.meas S i' y < A.meas S i x ∧ matchS S { S1 with wr := S1.wr ++ (A.blks S i x).map (·.1) } b (A.slots S i' y) (A.blks S i' y)
    | e => Q e { S1 with wr := S1.wr ++ ((A.blks S i x).map (·.1) ++ S.wr) }

noncomputable def symCond (S : SS) (c : Operand) (yes no : SS → Prop) : Prop :=
  match c with
  | .tmp t =>
    (match S.fr.get t with
     | some (.val (.bool b)) => cond b (yes S) (no S)
     | some (.prop p) => (p → yes { S with fr := S.fr.put t (some (.val (.bool true))) }) ∧ (¬ p → no { S with fr := S.fr.put t (some (.val (.bool false))) })
     | _ => False)
  | .const (.bool b) => cond b (yes S) (no S)
  | _ => False

noncomputable def symStep (C : Ctx) (out : SRun) (g : FuncId) (ih : Code → SS → SQ → Prop) (c : Code) (S : SS) (Q : SQ) : Prop :=
  match c with
  | .skip | .label _ => Q .normal S
  | .seq a b => ih a S fun e S1 => match e with | .normal => ih b S1 Q | e => Q e S1
  | .cond c a b => symCond S c (fun S => ih a S Q) (fun S => ih b S Q)
  | .block id b => ih b S fun e S1 => match e with | .exit id' => cond (Nat.beq id' id) (Q .normal S1) (Q (.exit id') S1) | e => Q e S1
  | .loop b =>
    (match (firstId b).bind (C.ann g) with
     | some A => symLoop A ih b S Q
     | none => ih b S fun e S1 => match e with | .normal => ih (.loop b) S1 Q | e => Q e S1)
  | .exit id => Q (.exit id) S
  | .ret => Q .ret S
  | .scope b => ih b S Q
  | .region _ ops draw => symRegion C out ops draw S Q
  | _ => False

noncomputable def symIn (C : Ctx) (out : SRun) (k : Nat) : SRun := fun g => Nat.rec (fun _ _ _ => False) (fun _ ih => symStep C out g ih) k
/-- Calls without a contract are walked into, d deep. -/
noncomputable def symRun (C : Ctx) (d : Nat) : SRun := Nat.rec (fun _ _ _ _ => False) (fun _ ih => symIn C ih 100000) d

/-- What comes back, against what the contract says: a row of the call's own is let go. -/
noncomputable def ret1 (P : Program) (S : SS) (v r : V) : Prop :=
  match r with
  | .dat t d =>
    (match v with
     | .slc b o n _ => (match S.hp.get b with | some (.arr e l) => cond (isSliceOf P t e) (o.v + n.v ≤ l.length ∧ .list ((l.drop o.v).take n.v) = d) False | _ => False)
     | .val (.slice none 0 0) => cond (isSliceT P t && sizeIs P t 1) (.nil = d) False
     | v => vMatch1 v r)
  | r => cond r.free (vMatch1 v r) False
noncomputable def rets (P : Program) (S : SS) : List V → List V → Prop
  | [], [] => True
  | v :: vs, r :: rs => ret1 P S v r ∧ rets P S vs rs
  | _, _ => False
noncomputable def retMatch (P : Program) (S : SS) (v r : V) : Prop :=
  match r with
  | .tup rs => (match v with | .tup vs => rets P S vs rs | _ => False)
  | .agg rs => (match v with | .agg vs => rets P S vs rs | _ => False)
  | r => ret1 P S v r

/-- What is to be shown of a function. -/
noncomputable def symFun (C : Ctx) (d : Nat) (g : FuncId) (args : List V) (r : V) : Prop :=
  symInline C (symRun C d) g args { fr := .leaf, sz := 0, hp := .leaf, nx := 0, ro := 0, fl := 0, wr := [] } fun v S => retMatch C.P S v r
end Go.Ev

end

section

namespace Go.Ev

noncomputable def dec (p : Prop) : Bool := @decide p (Classical.propDecidable p)
theorem dec_true {p : Prop} (h : p) : dec p = true := by unfold dec; simp [h]
theorem dec_false {p : Prop} (h : ¬ p) : dec p = false := by unfold dec; simp [h]
theorem dec_eq {p : Prop} {b : Bool} (h : b = true ↔ p) : dec p = b := by
  cases b with
  | true => exact dec_true (h.1 rfl)
  | false => exact dec_false fun hp => by have := h.2 hp; cases this

/-- What nobody writes: blocks of the evaluator's, how many cells an element. -/
abbrev Sig := Nat → Option (List Value × Nat)
def XS (σ σ' : Sig) : Prop := ∀ i c, σ i = some c → σ' i = some c
theorem XS.refl (σ : Sig) : XS σ σ := fun _ _ h => h
theorem XS.trans {a b c : Sig} (h : XS a b) (k : XS b c) : XS a c := fun i x hx => k i x (h i x hx)
abbrev Nu := Nat → Option (Nat × Nat)
def XN (ν ν' : Nu) : Prop := ∀ i c, ν i = some c → ν' i = some c
theorem XN.refl (ν : Nu) : XN ν ν := fun _ _ h => h
theorem XN.trans {a b c : Nu} (h : XN a b) (k : XN b c) : XN a c := fun i x hx => k i x (h i x hx)

inductive ReadsA (P : Program) (σ : Sig) : TypeId → D → List Value → Prop
  | int {t : TypeId} {k : IntKind} {n : Int} (h : P.underlying t = some (.int k)) (hs : sizeT P t = some 1) : ReadsA P σ t (.int n) [.int k n]
  | bool {t : TypeId} {p : Prop} (h : P.underlying t = some .bool) (hs : sizeT P t = some 1) : ReadsA P σ t (.bool p) [.bool (dec p)]
  | str {t : TypeId} {s : List UInt8} (h : P.underlying t = some .string) (hs : sizeT P t = some 1) : ReadsA P σ t (.str s) [.string ⟨⟨s⟩⟩]
  | nil {t e : TypeId} (h : P.underlying t = some (.slice e)) (hs : sizeT P t = some 1) : ReadsA P σ t .nil [.slice none 0 0]
  | list {t e : TypeId} {l : List D} {i o c sz : Nat} {cs : List Value} (h : P.underlying t = some (.slice e)) (hs : sizeT P t = some 1) (hz : sizeT P e = some sz) (hi : σ i = some (cs, sz))
      (hl : o + l.length * sz ≤ cs.length) (hc : c = UNK ∨ (l.length ≤ c ∧ c < UNK)) (he : ∀ (j : Nat) (d : D), l[j]? = some d → ReadsA P σ e d ((cs.drop (o + j * sz)).take sz)) :
      ReadsA P σ t (.list l) [.slice (some ⟨i, o, none⟩) l.length c]
  | sct {t : TypeId} {fs : Array Field} {ds : List D} {css : List (List Value)} (h : P.underlying t = some (.struct fs)) (h1 : css.length = fs.size) (h2 : ds.length = fs.size) (hs : sizeT P t = some css.flatten.length)
      (hf : ∀ (j : Nat) (f : Field) (d : D) (c : List Value), fs[j]? = some f → ds[j]? = some d → css[j]? = some c → ReadsA P σ f.type d c) : ReadsA P σ t (.sct ds) css.flatten

section
variable {P : Program} {σ σ' : Sig} {ν ν' : Nu}

theorem ReadsA.mono {t : TypeId} {d : D} {cs : List Value} (h : ReadsA P σ t d cs) (hx : XS σ σ') : ReadsA P σ' t d cs := by
  induction h with
  | int h hs => exact .int h hs
  | bool h hs => exact .bool h hs
  | str h hs => exact .str h hs
  | nil h hs => exact .nil h hs
  | list h hs hz hi hl hc _ ih => exact .list h hs hz (hx _ _ hi) hl hc ih
  | sct h h1 h2 hs _ ih => exact .sct h h1 h2 hs ih
theorem ReadsA.size {t : TypeId} {d : D} {cs : List Value} (h : ReadsA P σ t d cs) : sizeT P t = some cs.length := by
  cases h <;> first | assumption | simpa
theorem ReadsA.one {t : TypeId} {d : D} {cs : List Value} (h : ReadsA P σ t d cs) : cs.all oneCellB = true := by
  induction h with
  | sct h h1 h2 hs hf ih =>
    rename_i t fs ds css
    simp only [List.all_flatten, List.all_eq_true]
    intro c hc
    obtain ⟨j, hj⟩ := List.mem_iff_getElem?.1 hc
    have hlt : j < css.length := (List.getElem?_eq_some_iff.1 hj).1
    have := ih j (fs[j]'(by omega)) (ds[j]'(by omega)) c (Array.getElem?_eq_getElem (by omega)) (List.getElem?_eq_getElem (by omega)) hj
    exact List.all_eq_true.1 this
  | _ => rfl

inductive VRel (P : Program) (σ : Sig) (ν : Nu) : V → Value → Prop
  | val {v : Value} (h : flat1 v = true) : VRel P σ ν (.val v) v
  | undef : VRel P σ ν (.val undef) undef
  | int {k : IntKind} {n : Int} : VRel P σ ν (.int k n) (.int k n)
  | prop {p : Prop} : VRel P σ ν (.prop p) (.bool (dec p))
  | str {s : List UInt8} : VRel P σ ν (.str s) (.string ⟨⟨s⟩⟩)
  | agg {cs : List V} {cs' : List Value} (h1 : cs.length = cs'.length) (h2 : ∀ (j : Nat) (v : V) (v' : Value), cs[j]? = some v → cs'[j]? = some v' → VRel P σ ν v v') : VRel P σ ν (.agg cs) (.agg ⟨cs'⟩)
  | tup {cs : List V} {cs' : List Value} (h1 : cs.length = cs'.length) (h2 : ∀ (j : Nat) (v : V) (v' : Value), cs[j]? = some v → cs'[j]? = some v' → VRel P σ ν v v') : VRel P σ ν (.tup cs) (.tuple ⟨cs'⟩)
  | ptr {b o i z : Nat} (h : ν b = some (i, z)) : VRel P σ ν (.ptr b o) (.pointer (some ⟨i, o, none⟩))
  | ept {b i z : Nat} {n : NL} (h : ν b = some (i, z)) : VRel P σ ν (.ept b n) (.pointer (some ⟨i, n.v * z, none⟩))
  | slcU {b i z : Nat} {o n : NL} (h : ν b = some (i, z)) : VRel P σ ν (.slc b o n none) (.slice (some ⟨i, o.v * z, none⟩) n.v UNK)
  | slc {b i z off : Nat} {o n c : NL} (h : ν b = some (i, z)) (hc : c.v < UNK) (hn : n.v ≤ c.v) (ho : off = o.v * z ∨ (c.v = 0 ∧ off ≤ o.v * z)) : VRel P σ ν (.slc b o n (some c)) (.slice (some ⟨i, off, none⟩) n.v c.v)
  | dat {t e : TypeId} {d : D} {v : Value} (ht : P.underlying t = some (.slice e)) (h : ReadsA P σ t d [v]) : VRel P σ ν (.dat t d) v
  | dpt {t : TypeId} {d : D} {i o sz z : Nat} {cs : List Value} (hi : σ i = some (cs, z)) (hs : sizeT P t = some sz) (h0 : 0 < sz) (hl : o + sz ≤ cs.length) (h : ReadsA P σ t d ((cs.drop o).take sz)) : VRel P σ ν (.dpt t d) (.pointer (some ⟨i, o, none⟩))
  | fn {g : FuncId} {fs cs : List V} {fs' cs' : List Value} (h1 : fs.length = fs'.length) (h2 : ∀ (j : Nat) (v : V) (v' : Value), fs[j]? = some v → fs'[j]? = some v' → VRel P σ ν v v')
      (h3 : cs.length = cs'.length) (h4 : ∀ (j : Nat) (v : V) (v' : Value), cs[j]? = some v → cs'[j]? = some v' → VRel P σ ν v v') : VRel P σ ν (.fn g fs cs) (.func (.func g) ⟨fs'⟩ ⟨cs'⟩)

def LRel (P : Program) (σ : Sig) (ν : Nu) (l : List V) (l' : List Value) : Prop := l.length = l'.length ∧ ∀ (j : Nat) (v : V) (v' : Value), l[j]? = some v → l'[j]? = some v' → VRel P σ ν v v'

theorem VRel.mono {v : V} {v' : Value} (h : VRel P σ ν v v') (hs : XS σ σ') (hn : XN ν ν') : VRel P σ' ν' v v' := by
  induction h with
  | val h => exact .val h
  | undef => exact .undef
  | int => exact .int
  | prop => exact .prop
  | str => exact .str
  | agg h1 _ ih => exact .agg h1 ih
  | tup h1 _ ih => exact .tup h1 ih
  | ptr h => exact .ptr (hn _ _ h)
  | ept h => exact .ept (hn _ _ h)
  | slcU h => exact .slcU (hn _ _ h)
  | slc h hc hln ho => exact .slc (hn _ _ h) hc hln ho
  | dat ht h => exact .dat ht (h.mono hs)
  | dpt hi hs' h0 hl h => exact .dpt (hs _ _ hi) hs' h0 hl (h.mono hs)
  | fn h1 _ h3 _ ih2 ih4 => exact .fn h1 ih2 h3 ih4
theorem LRel.mono {l : List V} {l' : List Value} (h : LRel P σ ν l l') (hs : XS σ σ') (hn : XN ν ν') : LRel P σ' ν' l l' := ⟨h.1, fun j v v' a b => (h.2 j v v' a b).mono hs hn⟩
theorem LRel.nil : LRel P σ ν [] [] := ⟨rfl, fun j v v' h _ => by simp at h⟩
theorem LRel.cons {v : V} {v' : Value} {l : List V} {l' : List Value} (h : VRel P σ ν v v') (hl : LRel P σ ν l l') : LRel P σ ν (v :: l) (v' :: l') :=
  ⟨by simp [hl.1], fun j u u' a b => by
    cases j with
    | zero => simp at a b; subst a; subst b; exact h
    | succ j => exact hl.2 j u u' (by simpa using a) (by simpa using b)⟩
theorem LRel.cons_inv {v : V} {l : List V} {l' : List Value} (h : LRel P σ ν (v :: l) l') : ∃ v' r, l' = v' :: r ∧ VRel P σ ν v v' ∧ LRel P σ ν l r := by
  cases l' with
  | nil => have := h.1; simp at this
  | cons v' r => exact ⟨v', r, rfl, h.2 0 _ _ rfl rfl, by have := h.1; simpa using this, fun j u u' a b => h.2 (j + 1) u u' (by simpa using a) (by simpa using b)⟩
theorem LRel.nil_inv {l' : List Value} (h : LRel P σ ν [] l') : l' = [] := List.eq_nil_of_length_eq_zero h.1.symm
theorem LRel.append {a b : List V} {a' b' : List Value} (h : LRel P σ ν a a') (k : LRel P σ ν b b') : LRel P σ ν (a ++ b) (a' ++ b') := by
  induction a generalizing a' with
  | nil => rw [h.nil_inv]; exact k
  | cons v a ih => obtain ⟨v', r, rfl, h1, h2⟩ := h.cons_inv; exact .cons h1 (ih h2)
theorem LRel.drop {a : List V} {a' : List Value} (h : LRel P σ ν a a') (n : Nat) : LRel P σ ν (a.drop n) (a'.drop n) := ⟨by simp [h.1], fun j v v' x y => h.2 (n + j) v v' (by simpa using x) (by simpa using y)⟩
theorem LRel.take {a : List V} {a' : List Value} (h : LRel P σ ν a a') (n : Nat) : LRel P σ ν (a.take n) (a'.take n) := ⟨by simp [h.1], fun j v v' x y => by
  rw [List.getElem?_take] at x y
  split at x
  · rename_i hj; rw [if_pos hj] at y; exact h.2 j v v' x y
  · cases x⟩
theorem LRel.get {a : List V} {a' : List Value} (h : LRel P σ ν a a') {j : Nat} {v : V} (hv : a[j]? = some v) : ∃ v', a'[j]? = some v' ∧ VRel P σ ν v v' := by
  have hj : j < a.length := (List.getElem?_eq_some_iff.1 hv).1
  have hj' : j < a'.length := h.1 ▸ hj
  exact ⟨a'[j], List.getElem?_eq_getElem hj', h.2 j v _ hv (List.getElem?_eq_getElem hj')⟩
theorem LRel.vals {l : List Value} (h : l.all flat1 = true) : LRel P σ ν (l.map .val) l := ⟨by simp, fun j v v' a b => by
  simp only [List.getElem?_map, b, Option.map_some, Option.some.injEq] at a
  subst a; exact .val (List.all_eq_true.1 h _ (List.mem_of_getElem? b))⟩
theorem LRel.rev {l : List V} {l' : List Value} (h : LRel P σ ν l l') {j : Nat} {v' : Value} (hv : l'[j]? = some v') : ∃ v, l[j]? = some v ∧ VRel P σ ν v v' := by
  have hj : j < l'.length := (List.getElem?_eq_some_iff.1 hv).1
  have hj' : j < l.length := h.1 ▸ hj
  exact ⟨l[j], List.getElem?_eq_getElem hj', h.2 j _ v' (List.getElem?_eq_getElem hj') hv⟩

/-- Cells of a value. -/
theorem VRel.cells {v : V} {v' : Value} (h : VRel P σ ν v v') : LRel P σ ν v.cells v'.cells.toList := by
  cases h with
  | agg h1 h2 => exact ⟨h1, h2⟩
  | dat ht h =>
    rename_i t e d
    have hk := h
    have : v'.cells = #[v'] := by
      have h1 := h.one
      cases v' <;> first | rfl | (simp [oneCellB] at h1)
    rw [this]; exact .cons (.dat ht hk) .nil
  | val h =>
    have : v'.cells = #[v'] := by cases v' <;> first | rfl | (simp [flat1] at h)
    rw [this]; exact .cons (.val h) .nil
  | undef => exact .cons .undef .nil
  | int => exact .cons .int .nil
  | prop => exact .cons .prop .nil
  | str => exact .cons .str .nil
  | tup h1 h2 => exact .cons (.tup h1 h2) .nil
  | ptr h => exact .cons (.ptr h) .nil
  | ept h => exact .cons (.ept h) .nil
  | slcU h => exact .cons (.slcU h) .nil
  | slc h hc hn ho => exact .cons (.slc h hc hn ho) .nil
  | dpt hi hs h0 hl h => exact .cons (.dpt hi hs h0 hl h) .nil
  | fn h1 h2 h3 h4 => exact .cons (.fn h1 h2 h3 h4) .nil
theorem VRel.one {v : V} {v' : Value} (h : VRel P σ ν v v') (ho : v.one = true) : oneCellB v' = true := by
  cases h with
  | dat ht h => simpa using h.one
  | val h => exact ho
  | undef => exact ho
  | agg => simp [V.one] at ho
  | tup => simp [V.one] at ho
  | _ => rfl
theorem LRel.one {l : List V} {l' : List Value} (h : LRel P σ ν l l') (ho : l.all V.one = true) : l'.all oneCellB = true := by
  rw [List.all_eq_true]
  intro v' hv
  obtain ⟨j, hj⟩ := List.mem_iff_getElem?.1 hv
  obtain ⟨v, h1, h2⟩ := h.rev hj
  exact h2.one (List.all_eq_true.1 ho v (List.mem_of_getElem? h1))

def BRel (P : Program) (σ : Sig) (ν : Nu) (z : Nat) (k : SB) (bk : Option ABk) : Prop :=
  match k with
  | .box e cs => ∃ cs' m, bk = some (.cells cs' e 0 m false) ∧ LRel P σ ν cs cs'
  | .arr e l => ∃ cs' m, bk = some (.cells cs' e z m false) ∧ sizeT P e = some z ∧ 0 < z ∧ cs'.length = l.length * z ∧ ∀ (j : Nat) (d : D), l[j]? = some d → ReadsA P σ e d ((cs'.drop (j * z)).take z)
theorem BRel.mono {z : Nat} {k : SB} {bk : Option ABk} (h : BRel P σ ν z k bk) (hs : XS σ σ') (hn : XN ν ν') : BRel P σ' ν' z k bk := by
  cases k with
  | box e cs => obtain ⟨cs', m, h1, h2⟩ := h; exact ⟨cs', m, h1, h2.mono hs hn⟩
  | arr e l => obtain ⟨cs', m, h1, h2, h3, h4, h5⟩ := h; exact ⟨cs', m, h1, h2, h3, h4, fun j d hj => (h5 j d hj).mono hs⟩

/-- The symbolic state stands for the evaluator's. -/
structure SR (P : Program) (base : Nat) (H0 : AHeap × Sig) (ν : Nu) (σ : Sig) (S : SS) (F : AFrame) (H : AHeap) : Prop where
  fr : ∀ t v, S.fr.get t = some v → VRel P σ ν v (F.get t)
  fsz : S.sz = F.size
  top : F.size ≤ TOP
  nomk : F.marks = []
  blk : ∀ b k, S.hp.get b = some k → ∃ i z, ν b = some (i, z) ∧ BRel P σ ν z k (H.get i)
  lt : ∀ b i z, ν b = some (i, z) → i < H.next
  dom : ∀ b, S.nx ≤ b → ν b = none
  inj : ∀ b b' i z z', ν b = some (i, z) → ν b' = some (i, z') → b = b'
  own : ∀ b i z, S.ro ≤ b → ν b = some (i, z) → base ≤ i
  sig : ∀ i c, σ i = some c → i < H.next ∧ ∃ e m ro, H.get i = some (.cells c.1 e c.2 m ro)
  apart : ∀ b k i z, S.hp.get b = some k → ν b = some (i, z) → σ i = none
  mates : ∀ b k i z m, S.hp.get b = some k → ν b = some (i, z) → H.mate i = some m → (S.ro ≤ b → base ≤ m) ∧ m < H.next ∧ σ m = none ∧ ∀ b' k' z', S.hp.get b' = some k' → ν b' ≠ some (m, z')
  wl : base ≤ H.wlow
  old : ∀ i, i < base → H.get i = H0.1.get i
  nxt : base ≤ H.next
  role : S.ro ≤ S.nx
  sb : ∀ i c, σ i = some c → i < base → H0.2 i = some c
end
end Go.Ev

end

section

namespace Go.Ev
section
variable {P : Program} {base : Nat} {H0 : AHeap × Sig} {ν : Nu} {σ : Sig} {S : SS} {F : AFrame} {H : AHeap} {K : V → SS → Prop}

/-- What stays. -/
structure Keeps (S S' : SS) : Prop where
  nx : S.nx ≤ S'.nx
  sz : S'.sz = S.sz
  ro : S'.ro = S.ro
  fl : S'.fl = S.fl
  wr : ∀ b, b ∈ S.wr → b ∈ S'.wr
  hp : ∀ b, b < S.nx → b ∉ S'.wr → S'.hp.get b = S.hp.get b
  rb : ∀ b, b < S.ro → b < S.nx → S'.hp.get b = S.hp.get b
theorem Keeps.refl (S : SS) : Keeps S S := ⟨Nat.le_refl _, rfl, rfl, rfl, fun _ h => h, fun _ _ _ => rfl, fun _ _ _ => rfl⟩
theorem Keeps.trans {a b c : SS} (h : Keeps a b) (k : Keeps b c) : Keeps a c := ⟨Nat.le_trans h.nx k.nx, k.sz.trans h.sz, k.ro.trans h.ro, k.fl.trans h.fl, fun x hx => k.wr x (h.wr x hx), fun x hx hn => (k.hp x (Nat.lt_of_lt_of_le hx h.nx) hn).trans (h.hp x hx fun hm => hn (k.wr x hm)), fun x hx hn => (k.rb x (by rw [h.ro]; exact hx) (Nat.lt_of_lt_of_le hn h.nx)).trans (h.rb x hx hn)⟩
theorem T.get_put {α : Type} (t : T α) (n m : Nat) (a : Option α) : (t.put n a).get m = if m = n then a else t.get m := T.get_setN a t n m
theorem Keeps.alloc (S : SS) (k : SB) : Keeps S (S.alloc k) := ⟨Nat.le_succ _, rfl, rfl, rfl, fun _ h => h, fun b hb _ => by show T.get (T.put S.hp S.nx (some k)) b = _; rw [T.get_put, if_neg (by omega)], fun b _ hb => by show T.get (T.put S.hp S.nx (some k)) b = _; rw [T.get_put, if_neg (by omega)]⟩
theorem Keeps.write (S : SS) (b : Nat) (k : Option SB) (hro : S.ro ≤ b) : Keeps S (S.write b k) := ⟨Nat.le_refl _, rfl, rfl, rfl, fun _ h => List.mem_cons_of_mem _ h, fun b' _ hn => by
  show T.get (T.put S.hp b k) b' = _
  rw [T.get_put, if_neg (fun e => hn (by show b' ∈ b :: S.wr; rw [e]; exact List.mem_cons_self))], fun b' hb _ => by
  show T.get (T.put S.hp b k) b' = _
  rw [T.get_put, if_neg (by omega)]⟩
theorem Keeps.push (S : SS) (b : Nat) (k : SB) (hro : S.ro ≤ b) : Keeps S ((S.write b none).alloc k) := (Keeps.write S b none hro).trans (Keeps.alloc _ k)
/-- Blocks below a number stand as they stood. -/
def XNn (n : Nat) (ν ν' : Nu) : Prop := ∀ b, b < n → ν' b = ν b
theorem XNn.refl {n : Nat} (ν : Nu) : XNn n ν ν := fun _ _ => rfl
theorem XNn.trans {n m : Nat} {a b c : Nu} (h : XNn n a b) (k : XNn m b c) (hm : n ≤ m) : XNn n a c := fun i hi => (k i (Nat.lt_of_lt_of_le hi hm)).trans (h i hi)
theorem XNn.mono {n m : Nat} {a b : Nu} (h : XNn m a b) (hm : n ≤ m) : XNn n a b := fun i hi => h i (Nat.lt_of_lt_of_le hi hm)
theorem XNn.xn {P : Program} {base : Nat} {H0 : AHeap × Sig} {ν ν' : Nu} {σ : Sig} {S : SS} {F : AFrame} {H : AHeap} (hr : SR P base H0 ν σ S F H) (h : XNn S.nx ν ν') : XN ν ν' := fun b c hb => by
  rcases Nat.lt_or_ge b S.nx with hlt | hge
  · rw [h b hlt]; exact hb
  · rw [hr.dom b hge] at hb; cases hb
theorem xnewn (n : Nat) (ν : Nu) (c : Nat × Nat) : XNn n ν (fun b => if b = n then some c else ν b) := fun b hb => if_neg (by omega)

/-- What an operation has done. -/
def OpR (P : Program) (base : Nat) (H0 : AHeap × Sig) (ν : Nu) (σ : Sig) (S : SS) (F : AFrame) (r : Option (Value × AHeap)) (K : V → SS → Prop) : Prop :=
  ∃ v' h', r = some (v', h') ∧ ∃ v S' ν' σ', K v S' ∧ SR P base H0 ν' σ' S' F h' ∧ VRel P σ' ν' v v' ∧ XNn S.nx ν ν' ∧ XS σ σ' ∧ S'.fr = S.fr ∧ Keeps S S'
theorem OpR.pure (hr : SR P base H0 ν σ S F H) {v : V} {v' : Value} (hv : VRel P σ ν v v') (hk : K v S) : OpR P base H0 ν σ S F (some (v', H)) K :=
  ⟨v', H, rfl, v, S, ν, σ, hk, hr, hv, .refl _, .refl _, rfl, .refl _⟩

theorem valOf_ok {v : Value} {u : V} (h : valOf v = some u) : VRel P σ ν u v := by
  unfold valOf at h
  split at h
  · rename_i cs
    cases hf : Ev.flat (.agg cs) with
    | false => rw [hf] at h; cases h
    | true =>
      rw [hf] at h
      simp only [cond_true, Option.some.injEq] at h
      subst h
      have := LRel.vals (P := P) (σ := σ) (ν := ν) (l := cs.toList) (by simpa [Ev.flat] using hf)
      exact VRel.agg this.1 this.2
  · rename_i hna
    cases hf : Ev.flat v with
    | false =>
      rw [hf] at h
      simp only [cond_false] at h
      split at h
      · rename_i vs
        cases hz : Nat.beq vs.size 0 with
        | false => rw [hz] at h; cases h
        | true =>
          rw [hz] at h
          simp only [cond_true, Option.some.injEq] at h
          subst h
          have := Array.eq_empty_of_size_eq_zero (Nat.eq_of_beq_eq_true hz)
          subst this
          exact .undef
      · cases h
    | true =>
      rw [hf] at h
      simp only [cond_true, Option.some.injEq] at h
      subst h
      refine .val ?_
      cases v with
      | agg cs => exact absurd rfl (hna cs)
      | _ => exact hf

theorem evalS_ok (hr : SR P base H0 ν σ S F H) {x : Operand} {v : V} (h : evalS S x = some v) : VRel P σ ν v (aeval F x) := by
  cases x with
  | tmp t => exact hr.fr t v h
  | const c => exact valOf_ok h
  | func f => simp only [evalS, Option.some.injEq] at h; subst h; exact VRel.fn (fs' := []) (cs' := []) rfl (fun j v v' h _ => by simp at h) rfl (fun j v v' h _ => by simp at h)
  | global g => cases h
theorem withV_ok (hr : SR P base H0 ν σ S F H) {x : Operand} {Kx : V → Prop} (h : withV S x Kx) : ∃ v, Kx v ∧ VRel P σ ν v (aeval F x) := by
  unfold withV at h
  split at h
  · rename_i v hv; exact ⟨v, h, evalS_ok hr hv⟩
  · exact h.elim
theorem withVs_ok (hr : SR P base H0 ν σ S F H) : ∀ {xs : List Operand} {Kx : List V → Prop} (_ : withVs S xs Kx), ∃ vs, Kx vs ∧ LRel P σ ν vs (xs.map (aeval F))
  | [], _, h => ⟨[], h, .nil⟩
  | x :: xs, Kx, h => by
    obtain ⟨v, h1, hv⟩ := withV_ok hr (show withV S x (fun v => withVs S xs fun l => Kx (v :: l)) from h)
    obtain ⟨vs, h2, hvs⟩ := withVs_ok hr h1
    exact ⟨v :: vs, h2, .cons hv hvs⟩
theorem symParts_ok (hr : SR P base H0 ν σ S F H) : ∀ {xs : List (Nat × Operand)} {Kx : List (Nat × V) → Prop} (_ : symParts S xs Kx), ∃ vs, Kx vs ∧ vs.map (·.1) = xs.map (·.1) ∧ LRel P σ ν (vs.map (·.2)) (xs.map fun x => aeval F x.2)
  | [], _, h => ⟨[], h, rfl, .nil⟩
  | x :: xs, Kx, h => by
    obtain ⟨v, h1, hv⟩ := withV_ok hr (show withV S x.2 (fun v => symParts S xs fun l => Kx ((x.1, v) :: l)) from h)
    obtain ⟨vs, h2, he, hvs⟩ := symParts_ok hr h1
    exact ⟨(x.1, v) :: vs, h2, by simp [he], .cons hv hvs⟩
/-- An operand that may be missing. -/
def ORel (P : Program) (σ : Sig) (ν : Nu) : Option V → Option Value → Prop
  | none, none => True
  | some v, some v' => VRel P σ ν v v'
  | _, _ => False
theorem withO_ok (hr : SR P base H0 ν σ S F H) {x : Option Operand} {Kx : Option V → Prop} (h : withO S x Kx) : ∃ v, Kx v ∧ ORel P σ ν v (x.map (aeval F)) := by
  cases x with
  | none => exact ⟨none, h, trivial⟩
  | some x => obtain ⟨v, h1, h2⟩ := withV_ok hr h; exact ⟨some v, h1, h2⟩

/-! ### Values read off -/
theorem intOf_ok {v : V} {v' : Value} {k : IntKind} {n : Int} (h : intOf v = some (k, n)) (hv : VRel P σ ν v v') : v' = .int k n := by
  cases hv <;> simp only [intOf, reduceCtorEq, Option.some.injEq, Prod.mk.injEq] at h
  case int => obtain ⟨rfl, rfl⟩ := h; rfl
  case val hf => cases v' <;> simp_all
  case undef => cases h
theorem nlOf_ok {v : V} {v' : Value} {n : Int} {m : NL} (h : nlOf v = some (n, m)) (hv : VRel P σ ν v v') : (∃ k, v' = .int k n) ∧ m.v = n.toNat := by
  cases hv <;> simp only [nlOf, reduceCtorEq, Option.some.injEq, Prod.mk.injEq] at h
  case int => obtain ⟨rfl, rfl⟩ := h; exact ⟨⟨_, rfl⟩, rfl⟩
  case val hf =>
    cases v' <;> simp only [reduceCtorEq, Option.some.injEq, Prod.mk.injEq] at h
    obtain ⟨rfl, rfl⟩ := h; exact ⟨⟨_, rfl⟩, rfl⟩
  case undef => cases h
theorem propOf_ok {v : V} {v' : Value} {p : Prop} (h : propOf v = some p) (hv : VRel P σ ν v v') : v' = .bool (dec p) := by
  cases hv <;> simp only [propOf, reduceCtorEq, Option.some.injEq] at h
  case prop => subst h; rfl
  case val hf =>
    cases v' <;> simp only [reduceCtorEq, Option.some.injEq] at h
    subst h
    rw [dec_eq]; rfl
  case undef => cases h
theorem strOf_ok {v : V} {v' : Value} {s : List UInt8} (h : strOf v = some s) (hv : VRel P σ ν v v') : v' = .string ⟨⟨s⟩⟩ := by
  cases hv <;> simp only [strOf, reduceCtorEq, Option.some.injEq] at h
  case str => subst h; rfl
  case val hf =>
    cases v' <;> simp only [reduceCtorEq, Option.some.injEq] at h
    subst h; rfl
  case undef => cases h

theorem NL.v_add (a b : NL) : (a.add b).v = a.v + b.v := by
  cases a <;> cases b <;> simp only [NL.add, NL.v]
  rename_i a b
  cases h : Nat.beq a 0 with
  | true => have := Nat.eq_of_beq_eq_true h; subst this; simp [NL.v]
  | false => rfl
theorem NL.v_sub (a b : NL) : (a.sub b).v = a.v - b.v := by
  cases a <;> cases b <;> simp only [NL.sub, NL.v]
  rename_i a b
  cases h : Nat.beq b 0 with
  | true => have := Nat.eq_of_beq_eq_true h; subst this; simp [NL.v]
  | false => rfl

theorem wrap_inR {k : IntKind} {n : Int} (h : inR k n) : k.wrap n = n := by
  cases k <;> simp only [inR] at h <;> simp [IntKind.wrap, IntKind.bits, IntKind.signed] <;> (try split) <;> omega

/-! ### Operations on numbers, words -/
theorem symInt_ok {op : BinOp} {k : IntKind} {a b : Int} {t : TypeId} {ox oy : Operand} {Kv : V → Prop} (h : symInt op k a b Kv) (H : AHeap) : ∃ v v', binA P op t ox oy (.int k a) (.int k b) H = some (v', H) ∧ Kv v ∧ VRel P σ ν v v' := by
  have e : (k == k) = true := by simp
  have fl : ∀ (k : IntKind) (n : Int), Ev.flat (.int k n) = true := fun _ _ => rfl
  cases op <;> simp only [symInt] at h <;> simp only [binA, e, cond_true, intBin]
  case add => exact ⟨_, _, rfl, h.2, by rw [wrapF_eq, show Int.add a b = a + b from rfl, wrap_inR h.1]; exact .int⟩
  case sub => exact ⟨_, _, rfl, h.2, by rw [wrapF_eq, show Int.sub a b = a - b from rfl, wrap_inR h.1]; exact .int⟩
  case mul => exact ⟨_, _, rfl, h.2, by rw [wrapF_eq, show Int.mul a b = a * b from rfl, wrap_inR h.1]; exact .int⟩
  case quo =>
    have hv : (binOp .quo t (.int k a) (.int k b)).val? P = some (.int k (a.tdiv b)) := by
      simp only [binOp, ne_eq, not_true_eq_false, if_false, Op.intDiv, if_neg h.1, wrap_inR h.2.1]; rfl
    refine ⟨_, _, ?_, h.2.2, .int⟩
    simp only [flatVal, hv, fl, cond_true]
  case rem =>
    have hv : (binOp .rem t (.int k a) (.int k b)).val? P = some (.int k (a.tmod b)) := by
      simp only [binOp, ne_eq, not_true_eq_false, if_false, Op.intDiv, if_neg h.1]; rfl
    refine ⟨_, _, ?_, h.2, .int⟩
    simp only [flatVal, hv, fl, cond_true]
  case eql => exact ⟨_, _, rfl, h, by rw [← dec_eq (p := a = b) (b := eqI a b) (by rw [eqI_eq]; simp)]; exact .prop⟩
  case neq => exact ⟨_, _, rfl, h, by rw [← dec_eq (p := ¬ a = b) (b := Bool.not (eqI a b)) (by rw [eqI_eq]; simp)]; exact .prop⟩
  case lss => exact ⟨_, _, rfl, h, by rw [← dec_eq (p := a < b) (b := ltI a b) (by rw [ltI_eq]; simp)]; exact .prop⟩
  case leq => exact ⟨_, _, rfl, h, by rw [← dec_eq (p := a ≤ b) (b := Bool.not (ltI b a)) (by rw [ltI_eq]; simp)]; exact .prop⟩
  case gtr => exact ⟨_, _, rfl, h, by rw [← dec_eq (p := b < a) (b := ltI b a) (by rw [ltI_eq]; simp)]; exact .prop⟩
  case geq => exact ⟨_, _, rfl, h, by rw [← dec_eq (p := b ≤ a) (b := Bool.not (ltI a b)) (by rw [ltI_eq]; simp)]; exact .prop⟩

theorem bytes_inj {a b : List UInt8} : ((⟨⟨a⟩⟩ : ByteArray).toList == (⟨⟨b⟩⟩ : ByteArray).toList) = true ↔ a = b := by
  rw [ByteArray.toList_eq, ByteArray.toList_eq]; simp
theorem bytes_add (a b : List UInt8) : ((⟨⟨a⟩⟩ : ByteArray) ++ (⟨⟨b⟩⟩ : ByteArray)) = ⟨⟨a ++ b⟩⟩ := by
  apply ByteArray.ext
  simp

theorem symStr_ok {op : BinOp} {a b : List UInt8} {t : TypeId} {ox oy : Operand} {Kv : V → Prop} (h : symStr op a b Kv) (H : AHeap) : ∃ v v', binA P op t ox oy (.string ⟨⟨a⟩⟩) (.string ⟨⟨b⟩⟩) H = some (v', H) ∧ Kv v ∧ VRel P σ ν v v' := by
  have nk : nilEqK P t (.string ⟨⟨a⟩⟩) (.string ⟨⟨b⟩⟩) = none := by unfold nilEqK; split <;> simp_all
  have na : nilEqA P op t (.string ⟨⟨a⟩⟩) (.string ⟨⟨b⟩⟩) = none := by unfold nilEqA; rw [nk]
  have fl : ∀ (s : ByteArray), Ev.flat (.string s) = true := fun _ => rfl
  have fb : ∀ (s : Bool), Ev.flat (.bool s) = true := fun _ => rfl
  cases op <;> simp only [symStr] at h <;> simp only [binA, na, fl, Bool.and_self, cond_true, flatVal, val?_bind]
  case add =>
    have hv : (binOp .add t (.string ⟨⟨a⟩⟩) (.string ⟨⟨b⟩⟩)).val? P = some (.string ⟨⟨a ++ b⟩⟩) := by
      simp only [binOp, Op.stringOp, bytes_add]
      rw [if_neg]
      · rfl
      · have h1 : (⟨⟨a⟩⟩ : ByteArray).size = a.length := rfl
        have h2 : (⟨⟨b⟩⟩ : ByteArray).size = b.length := rfl
        have hm : IntKind.i64.max = 9223372036854775807 := by decide
        rw [h1, h2, hm]; omega
    refine ⟨_, _, ?_, h.2, .str⟩
    have : (eqGuard .add t ox oy (.string ⟨⟨a⟩⟩) (.string ⟨⟨b⟩⟩)).val? P = some () := rfl
    rw [this]; simp only [Option.bind_some, hv, fl, cond_true]
  case eql =>
    have hv : (binOp .eql t (.string ⟨⟨a⟩⟩) (.string ⟨⟨b⟩⟩)).val? P = some (.bool (dec (a = b))) := by
      simp only [binOp, Op.stringOp]; rw [dec_eq bytes_inj]; rfl
    refine ⟨_, _, ?_, h, .prop⟩
    have : (eqGuard .eql t ox oy (.string ⟨⟨a⟩⟩) (.string ⟨⟨b⟩⟩)).val? P = some () := rfl
    rw [this]; simp only [Option.bind_some, hv, fb, cond_true]
  case neq =>
    have hv : (binOp .neq t (.string ⟨⟨a⟩⟩) (.string ⟨⟨b⟩⟩)).val? P = some (.bool (dec (¬ a = b))) := by
      simp only [binOp, Op.stringOp]
      rw [dec_eq (b := !((⟨⟨a⟩⟩ : ByteArray).toList == (⟨⟨b⟩⟩ : ByteArray).toList))]
      · rfl
      · rw [Bool.not_eq_true', ← Bool.not_eq_true, bytes_inj]
    refine ⟨_, _, ?_, h, .prop⟩
    have : (eqGuard .neq t ox oy (.string ⟨⟨a⟩⟩) (.string ⟨⟨b⟩⟩)).val? P = some () := rfl
    rw [this]; simp only [Option.bind_some, hv, fb, cond_true]

theorem symBool_ok {op : BinOp} {a b : Prop} {t : TypeId} {ox oy : Operand} {Kv : V → Prop} (ht : isBoolT P t = true) (h : symBool op a b Kv) (H : AHeap) : ∃ v v', binA P op t ox oy (.bool (dec a)) (.bool (dec b)) H = some (v', H) ∧ Kv v ∧ VRel P σ ν v v' := by
  have hu : P.underlying t = some .bool := by unfold isBoolT at ht; split at ht <;> simp_all
  have nk : nilEqK P t (.bool (dec a)) (.bool (dec b)) = none := by unfold nilEqK; split <;> simp_all
  have na : nilEqA P op t (.bool (dec a)) (.bool (dec b)) = none := by unfold nilEqA; rw [nk]
  have fb : ∀ (s : Bool), Ev.flat (.bool s) = true := fun _ => rfl
  have heq : (Op.equal t (.bool (dec a)) (.bool (dec b))).val? P = some (dec a == dec b) := by
    have hq : ∀ d, (Op.equalIn (d + 1) t (.bool (dec a)) (.bool (dec b))).val? P = some (dec a == dec b) := fun d => by
      unfold Op.equalIn
      rw [val?_bind]
      have : (Go.underlying t).val? P = some .bool := by
        unfold Go.underlying
        rw [val?_bind]
        have : (Go.program).val? P = some P := rfl
        rw [this]
        simp only [Option.bind_some, hu]; rfl
      rw [this]; rfl
    exact hq 9999
  have hd : (dec a == dec b) = true ↔ (a ↔ b) := by
    by_cases h1 : a <;> by_cases h2 : b <;> simp [dec_true, dec_false, h1, h2]
  cases op <;> simp only [symBool] at h <;> simp only [binA, na, fb, Bool.and_self, cond_true, flatVal, val?_bind]
  case eql =>
    have hv : (binOp .eql t (.bool (dec a)) (.bool (dec b))).val? P = some (.bool (dec (a ↔ b))) := by
      simp only [binOp]; rw [val?_bind, heq, dec_eq hd]; rfl
    refine ⟨_, _, ?_, h, .prop⟩
    have : (eqGuard .eql t ox oy (.bool (dec a)) (.bool (dec b))).val? P = some () := rfl
    rw [this]; simp only [Option.bind_some, hv, fb, cond_true]
  case neq =>
    have hv : (binOp .neq t (.bool (dec a)) (.bool (dec b))).val? P = some (.bool (dec (¬ (a ↔ b)))) := by
      simp only [binOp]
      rw [val?_bind, heq]
      rw [dec_eq (p := ¬ (a ↔ b)) (b := !(dec a == dec b)) (by rw [Bool.not_eq_true', ← Bool.not_eq_true, hd])]
      rfl
    refine ⟨_, _, ?_, h, .prop⟩
    have : (eqGuard .neq t ox oy (.bool (dec a)) (.bool (dec b))).val? P = some () := rfl
    rw [this]; simp only [Option.bind_some, hv, fb, cond_true]
end
end Go.Ev

end

section

namespace Go.Ev
section
variable {P : Program} {base : Nat} {H0 : AHeap × Sig} {ν : Nu} {σ : Sig} {S : SS} {F : AFrame} {H : AHeap} {K : V → SS → Prop}

theorem xnew (hr : SR P base H0 ν σ S F H) (z : Nat) : XN ν (fun b => if b = S.nx then some (H.next, z) else ν b) := fun b c hb => by
  by_cases e : b = S.nx
  · subst e; rw [hr.dom _ (Nat.le_refl _)] at hb; cases hb
  · simp [e, hb]

theorem mate_cells {H : AHeap} {i : Nat} {cs : List Value} {e : TypeId} {esz : Nat} {m : Option Nat} {ro : Bool} (h : H.get i = some (.cells cs e esz m ro)) : H.mate i = m := by unfold AHeap.mate; rw [h]

/-- A new block. -/
theorem SR.alloc (hr : SR P base H0 ν σ S F H) {k : SB} {z : Nat} {cs : List Value} {ty : TypeId} {esz : Nat} (hb : ∀ ν', XN ν ν' → BRel P σ ν' z k (some (.cells cs ty esz none false))) :
    SR P base H0 (fun b => if b = S.nx then some (H.next, z) else ν b) σ (S.alloc k) F (H.alloc (.cells cs ty esz none false)) := by
  have hx := xnew hr z
  have hne : ∀ b i z', ν b = some (i, z') → b ≠ S.nx ∧ i ≠ H.next := fun b i z' hb => by
    refine ⟨fun e => ?_, fun e => ?_⟩
    · rw [e, hr.dom _ (Nat.le_refl _)] at hb; cases hb
    · have := hr.lt _ _ _ hb; omega
  have hg : ∀ b, (S.alloc k).hp.get b = if b = S.nx then some k else S.hp.get b := fun b => T.get_put _ _ _ _
  refine ⟨fun t v h => (hr.fr t v h).mono (.refl _) hx, hr.fsz, hr.top, hr.nomk, ?_, ?_, ?_, ?_, ?_, ?_, ?_, ?_, hr.wl, ?_, ?_, Nat.le_succ_of_le hr.role, hr.sb⟩
  · intro b k' h
    rw [hg] at h
    by_cases e : b = S.nx
    · rw [if_pos e] at h; cases h
      exact ⟨H.next, z, if_pos e, by rw [AHeap.get_alloc, if_pos rfl]; exact hb _ hx⟩
    · rw [if_neg e] at h
      obtain ⟨i, z', h1, h2⟩ := hr.blk b k' h
      exact ⟨i, z', by rw [if_neg e]; exact h1, by rw [AHeap.get_alloc, if_neg (hne _ _ _ h1).2]; exact h2.mono (.refl _) hx⟩
  · intro b i z' h
    show i < H.next + 1
    by_cases e : b = S.nx
    · simp only [e, if_true, Option.some.injEq, Prod.mk.injEq] at h; omega
    · simp only [if_neg e] at h; have := hr.lt _ _ _ h; omega
  · intro b h
    have : S.nx + 1 ≤ b := h
    simp only [if_neg (show b ≠ S.nx by omega)]
    exact hr.dom b (by omega)
  · intro b b' i z1 z2 h h'
    by_cases e : b = S.nx <;> by_cases e' : b' = S.nx
    · rw [e, e']
    · simp only [e, if_true, Option.some.injEq, Prod.mk.injEq] at h; simp only [if_neg e'] at h'
      exact absurd h.1.symm (hne _ _ _ h').2
    · simp only [e', if_true, Option.some.injEq, Prod.mk.injEq] at h'; simp only [if_neg e] at h
      exact absurd h'.1.symm (hne _ _ _ h).2
    · simp only [if_neg e] at h; simp only [if_neg e'] at h'; exact hr.inj _ _ _ _ _ h h'
  · intro b i z' hro h
    by_cases e : b = S.nx
    · simp only [e, if_true, Option.some.injEq, Prod.mk.injEq] at h; have := hr.nxt; omega
    · simp only [if_neg e] at h; exact hr.own b i z' hro h
  · intro i c h
    obtain ⟨h1, h2⟩ := hr.sig i c h
    exact ⟨Nat.lt_succ_of_lt h1, by rw [AHeap.get_alloc, if_neg (by omega)]; exact h2⟩
  · intro b k' i z' h h'
    rw [hg] at h
    by_cases e : b = S.nx
    · simp only [e, if_true, Option.some.injEq, Prod.mk.injEq] at h'
      cases hs : σ i with
      | none => rfl
      | some c => have := (hr.sig i c hs).1; omega
    · rw [if_neg e] at h; simp only [if_neg e] at h'; exact hr.apart b k' i z' h h'
  · intro b k' i z' m h h' hm
    rw [hg] at h
    by_cases e : b = S.nx
    · simp only [e, if_true, Option.some.injEq, Prod.mk.injEq] at h'
      rw [← h'.1, mate_cells (by rw [AHeap.get_alloc, if_pos rfl])] at hm
      cases hm
    · rw [if_neg e] at h; simp only [if_neg e] at h'
      have hm' : H.mate i = some m := by
        have : (H.alloc (.cells cs ty esz none false)).get i = H.get i := by rw [AHeap.get_alloc, if_neg (hne _ _ _ h').2]
        rw [AHeap.mate_congr this] at hm; exact hm
      obtain ⟨q1, q2, q3, q4⟩ := hr.mates b k' i z' m h h' hm'
      refine ⟨q1, Nat.lt_succ_of_lt q2, q3, fun b' k'' z'' hb' hν => ?_⟩
      rw [hg] at hb'
      by_cases e' : b' = S.nx
      · simp only [e', if_true, Option.some.injEq, Prod.mk.injEq] at hν; omega
      · rw [if_neg e'] at hb'; simp only [if_neg e'] at hν; exact q4 b' k'' z'' hb' hν
  · intro i hi
    have := hr.nxt
    rw [AHeap.get_alloc, if_neg (by omega)]; exact hr.old i hi
  · exact Nat.le_succ_of_le hr.nxt

/-- A block of the call's own is written. -/
theorem SR.write (hr : SR P base H0 ν σ S F H) {b i z : Nat} {k : SB} (hk : S.hp.get b = some k) (hν : ν b = some (i, z)) (hro : S.ro ≤ b) {k' : SB} {cs : List Value} {e : TypeId} {esz : Nat}
    (hb : BRel P σ ν z k' (some (.cells cs e esz none false))) : SR P base H0 ν σ (S.write b (some k')) F ((H.kill (H.mate i)).write i (some (.cells cs e esz none false))) := by
  have hget : ∀ j, ((H.kill (H.mate i)).write i (some (.cells cs e esz none false))).get j = if j = i then some (.cells cs e esz none false) else if H.mate i = some j then none else H.get j := fun j => by
    rw [AHeap.get_write, AHeap.get_kill]
  have hnx : ((H.kill (H.mate i)).write i (some (.cells cs e esz none false))).next = H.next := AHeap.next_kill _ _
  have hwl1 := AHeap.wlow_kill H (H.mate i)
  have hbi := hr.own b i z hro hν
  have hmate : ∀ m, H.mate i = some m → base ≤ m ∧ m < H.next ∧ σ m = none ∧ ∀ b' k' z', S.hp.get b' = some k' → ν b' ≠ some (m, z') := fun m hm => let q := hr.mates b k i z m hk hν hm; ⟨q.1 hro, q.2⟩
  have hg : ∀ b', (S.write b (some k')).hp.get b' = if b' = b then some k' else S.hp.get b' := fun b' => T.get_put _ _ _ _
  have hsome : ∀ b', (∃ k, (S.write b (some k')).hp.get b' = some k) → ∃ k, S.hp.get b' = some k := fun b' ⟨k2, h⟩ => by
    rw [hg] at h
    by_cases e1 : b' = b
    · exact ⟨k, e1 ▸ hk⟩
    · rw [if_neg e1] at h; exact ⟨k2, h⟩
  have hkeep : ∀ b' i' z', (∃ k, S.hp.get b' = some k) → ν b' = some (i', z') → b' ≠ b → ((H.kill (H.mate i)).write i (some (.cells cs e esz none false))).get i' = H.get i' := fun b' i' z' ⟨k2, h2⟩ h3 hne => by
    rw [hget, if_neg (fun e1 => hne (hr.inj _ _ _ _ _ (e1 ▸ h3) hν)), if_neg (fun hm => (hmate _ hm).2.2.2 b' k2 z' h2 h3)]
  refine ⟨fun t v h => hr.fr t v h, hr.fsz, hr.top, hr.nomk, ?_, ?_, hr.dom, hr.inj, hr.own, ?_, ?_, ?_, ?_, ?_, by rw [hnx]; exact hr.nxt, hr.role, hr.sb⟩
  · intro b' k2 h
    rw [hg] at h
    by_cases e1 : b' = b
    · rw [if_pos e1] at h; cases h
      exact ⟨i, z, e1 ▸ hν, by rw [hget, if_pos rfl]; exact hb⟩
    · rw [if_neg e1] at h
      obtain ⟨i', z', h1, h2⟩ := hr.blk b' k2 h
      exact ⟨i', z', h1, by rw [hkeep b' i' z' ⟨k2, h⟩ h1 e1]; exact h2⟩
  · intro b' i' z' h; rw [hnx]; exact hr.lt b' i' z' h
  · intro i' c h
    obtain ⟨h1, h2⟩ := hr.sig i' c h
    rw [hnx, hget, if_neg (fun e1 => by have := hr.apart b k i z hk hν; rw [← e1, h] at this; cases this), if_neg (fun hm => by rw [(hmate _ hm).2.2.1] at h; cases h)]
    exact ⟨h1, h2⟩
  · intro b' k2 i' z' h h'
    obtain ⟨k3, h3⟩ := hsome b' ⟨k2, h⟩
    exact hr.apart b' k3 i' z' h3 h'
  · intro b' k2 i' z' m h h' hm
    obtain ⟨k3, h3⟩ := hsome b' ⟨k2, h⟩
    rw [hnx]
    by_cases e1 : b' = b
    · subst e1
      rw [hν] at h'; cases h'
      rw [mate_cells (by rw [hget, if_pos rfl])] at hm; cases hm
    · rw [AHeap.mate_congr (hkeep b' i' z' ⟨k3, h3⟩ h' e1)] at hm
      obtain ⟨q1, q2, q3, q4⟩ := hr.mates b' k3 i' z' m h3 h' hm
      refine ⟨q1, q2, q3, fun b2 k4 z2 h4 => ?_⟩
      obtain ⟨k5, h5⟩ := hsome b2 ⟨k4, h4⟩
      exact q4 b2 k5 z2 h5
  · have := AHeap.wlow_write (H.kill (H.mate i)) i (some (.cells cs e esz none false))
    have h3 : base ≤ (H.kill (H.mate i)).wlow := by
      cases hm : H.mate i with
      | none => exact hr.wl
      | some m =>
        have := (hmate m hm).1
        simp only [AHeap.kill, AHeap.write]
        cases hbl : Nat.ble H.wlow m with
        | true => exact hr.wl
        | false => simpa using this
    simp only [AHeap.write]
    cases hbl : Nat.ble (H.kill (H.mate i)).wlow i with
    | true => exact h3
    | false => exact hbi
  · intro j hj
    rw [hget, if_neg (by omega), if_neg (fun hm => by have := (hmate _ hm).1; omega)]
    exact hr.old j hj

/-! ### Loads and stores -/
theorem cellsOf_go {n : Nat} (ih : ∀ (t : TypeId) (d : D) (cs : List Value) (vs : List V), ReadsA P σ t d cs → cellsOf P n t d = some vs → LRel P σ ν vs cs) (d : D) : ∀ (fs : List Field) (j : Nat) (css : List (List Value)) (vs : List V), css.length = fs.length →
    (∀ (i : Nat) (f : Field) (c : List Value), fs[i]? = some f → css[i]? = some c → ReadsA P σ f.type (d.fld (j + i)) c) → goCells (cellsOf P n) d fs j = some vs → LRel P σ ν vs css.flatten
  | [], j, css, vs, hl, _, h => by
    simp only [goCells, Option.some.injEq] at h
    subst h
    have : css = [] := List.eq_nil_of_length_eq_zero hl
    subst this; exact .nil
  | f :: fs, j, [], vs, hl, _, _ => by simp at hl
  | f :: fs, j, c :: css, vs, hl, hf, h => by
    simp only [goCells] at h
    split at h
    · rename_i a b ha hb
      simp only [Option.some.injEq] at h
      subst h
      rw [List.flatten_cons]
      refine (ih _ _ _ _ (hf 0 f c rfl rfl) ha).append (cellsOf_go ih d fs (j + 1) css b (by simpa using hl) (fun i f' c' h1 h2 => ?_) hb)
      have := hf (i + 1) f' c' (by simpa using h1) (by simpa using h2)
      rwa [show j + 1 + i = j + (i + 1) by omega]
    · cases h
theorem cellsOf_ok : ∀ (n : Nat) (t : TypeId) (d : D) (cs : List Value) (vs : List V), ReadsA P σ t d cs → cellsOf P n t d = some vs → LRel P σ ν vs cs
  | 0, t, d, cs, vs, _, h => by unfold cellsOf at h; cases h
  | n + 1, t, d, cs, vs, hr, h => by
    unfold cellsOf at h
    cases hr with
    | int hu hs => simp only [hu, Option.some.injEq] at h; subst h; exact .cons .int .nil
    | bool hu hs => simp only [hu, Option.some.injEq] at h; subst h; exact .cons .prop .nil
    | str hu hs => simp only [hu, Option.some.injEq] at h; subst h; exact .cons .str .nil
    | nil hu hs => simp only [hu, Option.some.injEq] at h; subst h; exact .cons (.dat hu (.nil hu hs)) .nil
    | list hu hs hz hi hl hc he => simp only [hu, Option.some.injEq] at h; subst h; exact .cons (.dat hu (.list hu hs hz hi hl hc he)) .nil
    | sct hu h1 h2 hs hf =>
      rename_i fs ds css
      simp only [hu] at h
      refine cellsOf_go (cellsOf_ok n) (.sct ds) fs.toList 0 css vs (by simpa using h1) (fun i f c hf' hc => ?_) h
      have hi : i < css.length := (List.getElem?_eq_some_iff.1 hc).1
      have := hf i f (ds[i]'(by omega)) c (by simpa using hf') (List.getElem?_eq_getElem (by omega)) hc
      have e : (D.sct ds).fld (0 + i) = ds[i]'(by omega) := by simp [D.fld, nthD, show i < ds.length by omega]
      rw [e]; exact this

theorem isAgg_true {t : TypeId} (h : isAggT P t = some true) : ∀ e, P.underlying t ≠ some (.slice e) := fun e hu => by unfold isAggT at h; rw [hu] at h; simp at h
theorem withCells_ok {t : TypeId} {d : D} {cs : List Value} {Kv : V → Prop} (hr : ReadsA P σ t d cs) (h : withCells P t d Kv) :
    ∃ v v', Kv v ∧ VRel P σ ν v v' ∧ ((isAggT P t = some true ∧ v' = .agg ⟨cs⟩) ∨ (isAggT P t = some false ∧ cs = [v'])) := by
  unfold withCells at h
  split at h
  · rename_i vs hv ha
    have := cellsOf_ok (ν := ν) _ _ _ _ _ hr hv
    exact ⟨.agg vs, .agg ⟨cs⟩, h, .agg this.1 this.2, .inl ⟨ha, rfl⟩⟩
  · rename_i v hv ha
    obtain ⟨v', r, rfl, h1, h2⟩ := (cellsOf_ok (ν := ν) _ _ _ _ _ hr hv).cons_inv
    rw [h2.nil_inv]
    exact ⟨v, v', h, h1, .inr ⟨ha, rfl⟩⟩
  · exact h.elim

theorem load_row {i o n : Nat} {cs : List Value} {e : TypeId} {esz : Nat} {m : Option Nat} {ro : Bool} {t : TypeId} (hg : H.get i = some (.cells cs e esz m ro)) (hs : sizeT P t = some n) (hl : o + n ≤ cs.length) {v' : Value}
    (hv : (isAggT P t = some true ∧ v' = .agg ⟨(cs.drop o).take n⟩) ∨ (isAggT P t = some false ∧ (cs.drop o).take n = [v'])) : loadA P H t (.pointer (some ⟨i, o, none⟩)) = some v' := by
  have hc : H.cells i = some cs := by unfold AHeap.cells; rw [hg]
  unfold loadA
  simp only [hc]
  rcases hv with ⟨ha, rfl⟩ | ⟨ha, he⟩
  · simp only [ha, hs]
    rw [Nat.ble_eq_true_of_le hl]; rfl
  · simp only [ha]
    have h1 : ((cs.drop o).take n)[0]? = some v' := by rw [he]; rfl
    rw [List.getElem?_take] at h1
    split at h1
    · rw [List.getElem?_drop] at h1; simpa using h1
    · cases h1

theorem symLoad_ok {t : TypeId} {a : V} {a' : Value} {Kv : V → Prop} (hr : SR P base H0 ν σ S F H) (h : symLoad P S t a Kv) (ha : VRel P σ ν a a') : ∃ v v', loadA P H t a' = some v' ∧ Kv v ∧ VRel P σ ν v v' := by
  unfold symLoad at h
  split at h
  · rename_i b o
    cases ha with
    | ptr hν =>
    rename_i i z
    split at h
    · rename_i cs hb
      obtain ⟨i', z', hν', hB⟩ := hr.blk _ _ hb
      rw [hν] at hν'; cases hν'
      obtain ⟨cs', m, hg, hl⟩ := hB
      split at h
      · rename_i hagg
        split at h
        · rename_i v hv
          obtain ⟨v', hv', hvr⟩ := hl.get hv
          refine ⟨v, v', ?_, h, hvr⟩
          unfold loadA
          simp only [AHeap.cells, hg, hagg]; exact hv'
        · exact h.elim
      · rename_i s hagg hs
        cases hle : Nat.ble (o + s) cs.length with
        | false => rw [hle] at h; exact h.elim
        | true =>
          rw [hle] at h
          have hle' := Nat.le_of_ble_eq_true hle
          have := (hl.drop o).take s
          exact ⟨_, .agg ⟨(cs'.drop o).take s⟩, load_row hg hs (by rw [← hl.1]; exact hle') (.inl ⟨hagg, rfl⟩), h, .agg this.1 this.2⟩
      · exact h.elim
    · exact h.elim
  · rename_i b n
    cases ha with
    | ept hν =>
    rename_i i z
    split at h
    · rename_i e l hb
      cases het : Nat.beq e t with
      | false => rw [het] at h; exact h.elim
      | true =>
        have := Nat.eq_of_beq_eq_true het
        subst this
        rw [het] at h
        obtain ⟨hlt, h⟩ := h
        obtain ⟨i', z', hν', hB⟩ := hr.blk _ _ hb
        rw [hν] at hν'; cases hν'
        obtain ⟨cs', m, hg, hs, h0, hlen, hrd⟩ := hB
        have hd : l[n.v]? = some (nthD l n.v) := by simp [nthD, hlt]
        obtain ⟨v, v', hk, hvr, hv'⟩ := withCells_ok (ν := ν) (hrd n.v _ hd) h
        have : (n.v + 1) * z ≤ l.length * z := Nat.mul_le_mul_right z hlt
        rw [Nat.succ_mul] at this
        exact ⟨v, v', load_row hg hs (by omega) hv', hk, hvr⟩
    · exact h.elim
  · rename_i t' d
    cases ha with
    | dpt hi hs h0 hl hrd =>
    cases het : Nat.beq t t' with
    | false => rw [het] at h; exact h.elim
    | true =>
      have := Nat.eq_of_beq_eq_true het
      subst this
      rw [het] at h
      obtain ⟨_, e, m, ro, hg⟩ := hr.sig _ _ hi
      obtain ⟨v, v', hk, hvr, hv'⟩ := withCells_ok (ν := ν) hrd h
      exact ⟨v, v', load_row hg hs hl hv', hk, hvr⟩
  · exact h.elim
end
end Go.Ev

end

section

namespace Go.Ev
section
variable {P : Program} {base : Nat} {H0 : AHeap × Sig} {ν : Nu} {σ : Sig} {S : SS} {F : AFrame} {H : AHeap} {K : V → SS → Prop}

theorem sizeIs_ok {t : TypeId} {n : Nat} (h : sizeIs P t n = true) : sizeT P t = some n := by
  unfold sizeIs at h
  split at h
  · rename_i s hs; rw [hs, Nat.eq_of_beq_eq_true h]
  · cases h

theorem datOf_go {n : Nat} (ih : ∀ (t : TypeId) (vs : List V) (d : D) (cs : List Value), datOf P n t vs = some d → LRel P σ ν vs cs → ReadsA P σ t d cs) : ∀ (fs : List Field) (vs : List V) (ds : List D) (cs : List Value), goDat P (datOf P n) fs vs = some ds → LRel P σ ν vs cs →
    ∃ css : List (List Value), css.flatten = cs ∧ css.length = fs.length ∧ ds.length = fs.length ∧ ∀ (j : Nat) (f : Field) (d : D) (c : List Value), fs[j]? = some f → ds[j]? = some d → css[j]? = some c → ReadsA P σ f.type d c
  | [], [], ds, cs, h, hl => by
    simp only [goDat, Option.some.injEq] at h
    subst h
    rw [hl.nil_inv]
    exact ⟨[], rfl, rfl, rfl, fun j f d c h => by simp at h⟩
  | [], _ :: _, ds, cs, h, hl => by simp [goDat] at h
  | f :: fs, vs, ds, cs, h, hl => by
    simp only [goDat] at h
    split at h
    · cases h
    · rename_i s hs
      cases hle : Nat.ble s vs.length with
      | false => rw [hle] at h; cases h
      | true =>
        rw [hle] at h
        simp only [cond_true] at h
        split at h
        · rename_i d ds' hd hds
          simp only [Option.some.injEq] at h
          subst h
          obtain ⟨css, h1, h2, h3, h4⟩ := datOf_go ih fs (vs.drop s) ds' (cs.drop s) hds (hl.drop s)
          refine ⟨cs.take s :: css, by rw [List.flatten_cons, h1, List.take_append_drop], by simp [h2], by simp [h3], fun j f' d' c' a b c => ?_⟩
          cases j with
          | zero =>
            simp only [List.getElem?_cons_zero, Option.some.injEq] at a b c
            subst a b c
            exact ih _ _ _ _ hd (hl.take s)
          | succ j => exact h4 j f' d' c' (by simpa using a) (by simpa using b) (by simpa using c)
        · cases h
theorem datOf_ok : ∀ (n : Nat) (t : TypeId) (vs : List V) (d : D) (cs : List Value), datOf P n t vs = some d → LRel P σ ν vs cs → ReadsA P σ t d cs
  | 0, t, vs, d, cs, h, _ => by unfold datOf at h; cases h
  | n + 1, t, vs, d, cs, h, hl => by
    unfold datOf at h
    cases hsz : sizeIs P t vs.length with
    | false => rw [hsz] at h; cases h
    | true =>
      have hs := sizeIs_ok hsz
      rw [hsz] at h
      simp only [cond_true] at h
      split at h
      · rename_i k v hu
        obtain ⟨v', r, rfl, h1, h2⟩ := hl.cons_inv
        rw [h2.nil_inv]
        split at h
        · rename_i k' m hi
          cases hk : (k == k') with
          | false => rw [hk] at h; cases h
          | true =>
            rw [hk] at h
            simp only [cond_true, Option.some.injEq] at h
            subst h
            have := eq_of_beq hk
            subst this
            rw [intOf_ok hi h1]
            exact .int hu hs
        · cases h
      · rename_i v hu
        obtain ⟨v', r, rfl, h1, h2⟩ := hl.cons_inv
        rw [h2.nil_inv]
        cases hp : propOf v with
        | none => rw [hp] at h; cases h
        | some p => rw [hp] at h; simp only [Option.map_some, Option.some.injEq] at h; subst h; rw [propOf_ok hp h1]; exact .bool hu hs
      · rename_i v hu
        obtain ⟨v', r, rfl, h1, h2⟩ := hl.cons_inv
        rw [h2.nil_inv]
        cases hp : strOf v with
        | none => rw [hp] at h; cases h
        | some p => rw [hp] at h; simp only [Option.map_some, Option.some.injEq] at h; subst h; rw [strOf_ok hp h1]; exact .str hu hs
      · rename_i e hu
        obtain ⟨v', r, rfl, h1, h2⟩ := hl.cons_inv
        rw [h2.nil_inv]
        simp only [Option.some.injEq] at h
        subst h
        cases h1 with
        | val _ => exact .nil hu hs
      · rename_i e t' d' hu
        obtain ⟨v', r, rfl, h1, h2⟩ := hl.cons_inv
        rw [h2.nil_inv]
        cases ht : Nat.beq t t' with
        | false => rw [ht] at h; cases h
        | true =>
          have := Nat.eq_of_beq_eq_true ht
          subst this
          rw [ht] at h
          simp only [cond_true, Option.some.injEq] at h
          subst h
          cases h1 with
          | dat _ h => exact h
      · rename_i fs hu
        obtain ⟨ds, hg, rfl⟩ := Option.map_eq_some_iff.1 h
        obtain ⟨css, h1, h2, h3, h4⟩ := datOf_go (datOf_ok n) _ _ _ _ hg hl
        subst h1
        refine .sct hu (by simpa using h2) (by simpa using h3) (by rw [hs, hl.1]) fun j f d c a b c' => h4 j f d c (by simpa using a) b c'
      · cases h

/-! ### Rows -/
theorem rows_get {z : Nat} {css : List (List Value)} (hz : ∀ c ∈ css, c.length = z) (j : Nat) : (css.flatten.drop (j * z)).take z = (css[j]?).getD [] := by
  induction css generalizing j with
  | nil => simp
  | cons c css ih =>
    have hc := hz c (by simp)
    cases j with
    | zero => simp [List.flatten_cons, ← hc]
    | succ j =>
      rw [List.flatten_cons, show (j + 1) * z = c.length + j * z by rw [hc, Nat.succ_mul]; omega, List.drop_append, ]
      simp only [List.drop_length_add_append, List.getElem?_cons_succ] at *
      rw [show List.drop (c.length + j * z) c = [] from List.drop_eq_nil_of_le (by omega), List.nil_append, show c.length + j * z - c.length = j * z by omega]
      exact ih (fun c hc => hz c (by simp [hc])) j
theorem rows_len {z : Nat} {css : List (List Value)} (hz : ∀ c ∈ css, c.length = z) : css.flatten.length = css.length * z := by
  induction css with
  | nil => simp
  | cons c css ih => rw [List.flatten_cons, List.length_append, hz c (by simp), ih fun c hc => hz c (by simp [hc]), List.length_cons, Nat.succ_mul]; omega

/-- A row's cells. -/
def RowR (P : Program) (σ : Sig) (e : TypeId) (z : Nat) (l : List D) (cs : List Value) : Prop := cs.length = l.length * z ∧ ∀ (j : Nat) (d : D), l[j]? = some d → ReadsA P σ e d ((cs.drop (j * z)).take z)
theorem RowR.mono {σ' : Sig} {e : TypeId} {z : Nat} {l : List D} {cs : List Value} (h : RowR P σ e z l cs) (hx : XS σ σ') : RowR P σ' e z l cs := ⟨h.1, fun j d hd => (h.2 j d hd).mono hx⟩
theorem RowR.nil {e : TypeId} {z : Nat} : RowR P σ e z [] [] := ⟨by simp, fun j d h => by simp at h⟩
theorem RowR.drop {e : TypeId} {z : Nat} {l : List D} {cs : List Value} (h : RowR P σ e z l cs) (n : Nat) : RowR P σ e z (l.drop n) (cs.drop (n * z)) := by
  refine ⟨by rw [List.length_drop, List.length_drop, h.1, Nat.sub_mul], fun j d hd => ?_⟩
  rw [List.drop_drop, ← Nat.add_mul]
  exact h.2 (n + j) d (by simpa using hd)
theorem RowR.take {e : TypeId} {z : Nat} {l : List D} {cs : List Value} (h : RowR P σ e z l cs) (n : Nat) : RowR P σ e z (l.take n) (cs.take (n * z)) := by
  refine ⟨?_, fun j d hd => ?_⟩
  · rw [List.length_take, List.length_take, h.1]
    rcases Nat.le_total n l.length with hn | hn
    · rw [Nat.min_eq_left hn, Nat.min_eq_left (Nat.mul_le_mul_right z hn)]
    · rw [Nat.min_eq_right hn, Nat.min_eq_right (Nat.mul_le_mul_right z hn)]
  · rw [List.getElem?_take] at hd
    split at hd
    · rename_i hj
      have := h.2 j d hd
      have hm : j * z + z ≤ n * z := by rw [← Nat.succ_mul]; exact Nat.mul_le_mul_right z hj
      rw [List.drop_take, List.take_take, Nat.min_eq_left (by omega)]
      exact this
    · cases hd
theorem RowR.append {e : TypeId} {z : Nat} {l l2 : List D} {cs cs2 : List Value} (h : RowR P σ e z l cs) (k : RowR P σ e z l2 cs2) : RowR P σ e z (l ++ l2) (cs ++ cs2) := by
  refine ⟨by rw [List.length_append, List.length_append, h.1, k.1, Nat.add_mul], fun j d hd => ?_⟩
  rw [List.getElem?_append] at hd
  split at hd
  · rename_i hj
    have hm : j * z + z ≤ l.length * z := by rw [← Nat.succ_mul]; exact Nat.mul_le_mul_right z hj
    rw [List.drop_append_of_le_length (by rw [h.1]; omega), List.take_append_of_le_length (by rw [List.length_drop, h.1]; omega)]
    exact h.2 j d hd
  · rename_i hj
    have hm : l.length * z ≤ j * z := Nat.mul_le_mul_right z (by omega)
    rw [List.drop_append, List.drop_eq_nil_of_le (by rw [h.1]; omega), List.nil_append, h.1, ← Nat.sub_mul]
    exact k.2 _ d hd
theorem RowR.one {e : TypeId} {z : Nat} {l : List D} {cs : List Value} (h : RowR P σ e z l cs) : cs.all oneCellB = true := by
  rw [List.all_eq_true]
  intro c hc
  obtain ⟨j, hj⟩ := List.mem_iff_getElem?.1 hc
  have hlt : j < cs.length := (List.getElem?_eq_some_iff.1 hj).1
  rw [h.1] at hlt
  have hz : 0 < z := by rcases Nat.eq_zero_or_pos z with h0 | h0; subst h0; simp at hlt; exact h0
  have hq : j / z < l.length := Nat.div_lt_of_lt_mul (by rw [Nat.mul_comm]; exact hlt)
  have := (h.2 (j / z) l[j / z] (List.getElem?_eq_getElem hq)).one
  refine List.all_eq_true.1 this c (List.mem_of_getElem? (i := j % z) ?_)
  rw [List.getElem?_take, if_pos (Nat.mod_lt _ hz), List.getElem?_drop, Nat.mul_comm, Nat.div_add_mod]
  exact hj
theorem RowR.rep {e : TypeId} {z : Nat} {d : D} {cs : List Value} (h : ReadsA P σ e d cs) (hz : cs.length = z) (n : Nat) : RowR P σ e z (List.replicate n d) (List.replicate n cs).flatten := by
  have hall : ∀ c ∈ List.replicate n cs, c.length = z := fun c hc => by rw [(List.mem_replicate.1 hc).2, hz]
  refine ⟨by rw [rows_len hall]; simp, fun j d' hd => ?_⟩
  rw [rows_get hall]
  rw [List.getElem?_replicate] at hd
  split at hd
  · rename_i hj
    simp only [Option.some.injEq] at hd
    subst hd
    rw [List.getElem?_replicate, if_pos hj]; exact h
  · cases hd
theorem RowR.single {e : TypeId} {z : Nat} {d : D} {cs : List Value} (h : ReadsA P σ e d cs) (hz : cs.length = z) : RowR P σ e z [d] cs := by
  have := RowR.rep h hz 1
  simpa using this
theorem RowR.set {e : TypeId} {z : Nat} {l : List D} {cs : List Value} (h : RowR P σ e z l cs) {i : Nat} (hi : i < l.length) {d : D} {c : List Value} (hd : ReadsA P σ e d c) (hc : c.length = z) :
    RowR P σ e z (l.set i d) (cs.take (i * z) ++ c ++ cs.drop (i * z + c.length)) := by
  have e1 : l.set i d = l.take i ++ ([d] ++ l.drop (i + 1)) := by rw [List.set_eq_take_append_cons_drop, if_pos hi]; simp
  rw [e1, hc, List.append_assoc, show i * z + z = (i + 1) * z by rw [Nat.succ_mul]]
  exact (h.take i).append ((RowR.single hd hc).append (h.drop (i + 1)))
theorem BRel.arr {z : Nat} {e : TypeId} {l : List D} {cs : List Value} {m : Option Nat} (hs : sizeT P e = some z) (h0 : 0 < z) (h : RowR P σ e z l cs) : BRel P σ ν z (.arr e l) (some (.cells cs e z m false)) := ⟨cs, m, rfl, hs, h0, h.1, h.2⟩

/-! ### Stores -/
theorem writeCells_eq {i o : Nat} {vs cs : List Value} {e : TypeId} {esz : Nat} {m : Option Nat} (hg : H.get i = some (.cells cs e esz m false)) (hle : o + vs.length ≤ cs.length) (h1 : vs.all oneCellB = true) :
    writeCells H i o vs = some ((H.kill (H.mate i)).write i (some (.cells (spliceL cs o vs) e esz none false))) := by
  unfold writeCells
  rw [hg, mate_cells hg]
  simp only [h1, Nat.ble_eq_true_of_le hle, Bool.and_self, cond_true]

theorem symStore_ok {t : TypeId} {a x : V} {a' x' : Value} (hr : SR P base H0 ν σ S F H) (h : symStore P S t a x K) (ha : VRel P σ ν a a') (hx : VRel P σ ν x x') : OpR P base H0 ν σ S F (storeO P t a' x' H) K := by
  have hxc := hx.cells
  unfold symStore at h
  split at h
  · rename_i b o
    cases ha with
    | ptr hν =>
    rename_i i z
    split at h
    · rename_i e cs s hb hs
      cases hc : (Nat.ble S.ro b && Nat.beq x.cells.length s && Nat.ble (o + s) cs.length && x.cells.all V.one) with
      | false => rw [hc] at h; exact h.elim
      | true =>
        rw [hc] at h
        simp only [Bool.and_eq_true] at hc
        obtain ⟨⟨⟨c1, c2⟩, c3⟩, c4⟩ := hc
        have c1 := Nat.le_of_ble_eq_true c1
        have c2 := Nat.eq_of_beq_eq_true c2
        have c3 := Nat.le_of_ble_eq_true c3
        obtain ⟨i', z', hν', hB⟩ := hr.blk _ _ hb
        rw [hν] at hν'; cases hν'
        obtain ⟨cs', m, hg, hl⟩ := hB
        have hlen : x'.cells.toList.length = s := by rw [← hxc.1, c2]
        have hw := writeCells_eq (o := o) hg (by rw [hlen, ← hl.1]; exact c3) (hxc.one c4)
        have hst : storeO P t (.pointer (some ⟨i, o, none⟩)) x' H = some (undef, (H.kill (H.mate i)).write i (some (.cells (spliceL cs' o x'.cells.toList) e 0 none false))) := by
          unfold storeO storeA
          have : Nat.beq x'.cells.size s = true := by rw [show x'.cells.size = s by rw [← hlen]; simp]; exact Nat.beq_refl s
          simp only [hs, this, cond_true, hw]
        rw [hst]
        refine ⟨_, _, rfl, .val undef, _, ν, σ, h, hr.write hb hν c1 ?_, .undef, .refl _, .refl _, rfl, .write _ _ _ c1⟩
        refine ⟨_, none, rfl, ?_⟩
        unfold spliceL
        rw [← hxc.1]
        exact ((hl.take o).append hxc).append (hl.drop _)
    · exact h.elim
  · rename_i b n
    cases ha with
    | ept hν =>
    rename_i i z
    split at h
    · rename_i e l hb
      cases hc : (Nat.beq e t && Nat.ble S.ro b) with
      | false => rw [hc] at h; exact h.elim
      | true =>
        rw [hc] at h
        simp only [Bool.and_eq_true] at hc
        obtain ⟨c1, c2⟩ := hc
        have c1 := Nat.eq_of_beq_eq_true c1
        subst c1
        have c2 := Nat.le_of_ble_eq_true c2
        simp only [cond_true] at h
        split at h
        · rename_i d hd
          obtain ⟨hlt, h⟩ := h
          obtain ⟨i', z', hν', hB⟩ := hr.blk _ _ hb
          rw [hν] at hν'; cases hν'
          obtain ⟨cs', m, hg, hs, h0, hlen, hrd⟩ := hB
          have hR := datOf_ok _ _ _ _ _ hd hxc
          have hxl : x'.cells.toList.length = z := by have := hR.size; rw [hs] at this; exact (Option.some.inj this).symm
          have hm : n.v * z + z ≤ l.length * z := by rw [← Nat.succ_mul]; exact Nat.mul_le_mul_right z hlt
          have hw := writeCells_eq (o := n.v * z) hg (by rw [hxl]; omega) hR.one
          have hst : storeO P e (.pointer (some ⟨i, n.v * z, none⟩)) x' H = some (undef, (H.kill (H.mate i)).write i (some (.cells (spliceL cs' (n.v * z) x'.cells.toList) e z none false))) := by
            unfold storeO storeA
            have : Nat.beq x'.cells.size z = true := by rw [show x'.cells.size = z by rw [← hxl]; simp]; exact Nat.beq_refl z
            simp only [hs, this, cond_true, hw]
          rw [hst]
          refine ⟨_, _, rfl, .val undef, _, ν, σ, h, hr.write hb hν c2 ?_, .undef, .refl _, .refl _, rfl, .write _ _ _ c2⟩
          exact .arr hs h0 (RowR.set ⟨hlen, hrd⟩ hlt hR hxl)
        · exact h.elim
    · exact h.elim
  · exact h.elim

theorem newRowA_eq {cs : List Value} {e : TypeId} {esz : Nat} (h1 : cs.all oneCellB = true) (H : AHeap) : newRowA H cs e esz = some (H.next, H.alloc (.cells cs e esz none false)) := by
  unfold newRowA
  rw [h1]
  simp only [cond_true, forceNat_eq]

theorem symBox_ok {e : TypeId} {x : V} {x' : Value} (hr : SR P base H0 ν σ S F H) (h : symBox S e x K) (hx : VRel P σ ν x x') : OpR P base H0 ν σ S F (boxA e x' H) K := by
  unfold symBox at h
  cases hc : x.cells.all V.one with
  | false => rw [hc] at h; exact h.elim
  | true =>
    rw [hc] at h
    have hxc := hx.cells
    unfold boxA
    rw [newRowA_eq (hxc.one hc)]
    refine ⟨_, _, rfl, _, _, _, σ, h, hr.alloc (z := 0) (k := .box e x.cells) (fun ν' hν => ⟨_, none, rfl, hxc.mono (.refl _) hν⟩), .ptr (if_pos rfl), xnewn _ _ _, .refl _, rfl, .alloc _ _⟩

theorem flat_cells' {z : Value} (h : Ev.flat z = true) : z.cells.toList.all flat1 = true := by
  cases z with
  | agg cs => simpa [Ev.flat, Value.cells] using h
  | _ => simpa [Ev.flat, Value.cells] using h
theorem flat1_one {l : List Value} (h : l.all flat1 = true) : l.all oneCellB = true := by
  rw [List.all_eq_true] at h ⊢
  intro v hv
  have := h v hv
  cases v <;> simp_all [flat1, oneCellB]

theorem symAlloc_ok {e : TypeId} (hr : SR P base H0 ν σ S F H) (h : symAlloc P S e K) : OpR P base H0 ν σ S F (allocA P e H) K := by
  unfold symAlloc at h
  split at h
  · rename_i z hz
    cases hc : Ev.flat z with
    | false => rw [hc] at h; exact h.elim
    | true =>
      rw [hc] at h
      unfold allocA
      simp only [hz, hc, cond_true]
      rw [newRowA_eq (flat1_one (flat_cells' hc))]
      refine ⟨_, _, rfl, _, _, _, σ, h, hr.alloc (z := 0) (k := .box e (z.cells.toList.map .val)) (fun ν' hν => ⟨_, none, rfl, LRel.vals (flat_cells' hc)⟩), .ptr (if_pos rfl), xnewn _ _ _, .refl _, rfl, .alloc _ _⟩
  · exact h.elim
end
end Go.Ev

end

section

namespace Go.Ev
section
variable {P : Program} {base : Nat} {H0 : AHeap × Sig} {ν : Nu} {σ : Sig} {S : SS} {F : AFrame} {H : AHeap} {K : V → SS → Prop} {Kv : V → Prop}

theorem ReadsA.sliceInv {t e : TypeId} {d : D} {cs : List Value} (h : ReadsA P σ t d cs) (hu : P.underlying t = some (.slice e)) :
    (d = .nil ∧ cs = [.slice none 0 0]) ∨ ∃ l i o c sz cs', d = .list l ∧ cs = [.slice (some ⟨i, o, none⟩) l.length c] ∧ sizeT P e = some sz ∧ σ i = some (cs', sz) ∧ o + l.length * sz ≤ cs'.length ∧ (c = UNK ∨ (l.length ≤ c ∧ c < UNK)) ∧
      ∀ (j : Nat) (d : D), l[j]? = some d → ReadsA P σ e d ((cs'.drop (o + j * sz)).take sz) := by
  cases h with
  | int h _ => rw [hu] at h; cases h
  | bool h _ => rw [hu] at h; cases h
  | str h _ => rw [hu] at h; cases h
  | sct h _ _ _ _ => rw [hu] at h; cases h
  | nil _ _ => exact .inl ⟨rfl, rfl⟩
  | list h _ hz hi hl hc he =>
    rw [hu] at h; cases h
    exact .inr ⟨_, _, _, _, _, _, rfl, rfl, hz, hi, hl, hc, he⟩

theorem ReadsA.sctInv {t : TypeId} {fs : Array Field} {d : D} {cs : List Value} (h : ReadsA P σ t d cs) (hu : P.underlying t = some (.struct fs)) :
    ∃ (ds : List D) (css : List (List Value)), d = .sct ds ∧ cs = css.flatten ∧ css.length = fs.size ∧ ds.length = fs.size ∧ ∀ (j : Nat) (f : Field) (d : D) (c : List Value), fs[j]? = some f → ds[j]? = some d → css[j]? = some c → ReadsA P σ f.type d c := by
  cases h with
  | int h _ => rw [hu] at h; cases h
  | bool h _ => rw [hu] at h; cases h
  | str h _ => rw [hu] at h; cases h
  | nil h _ => rw [hu] at h; cases h
  | list h _ _ _ _ _ _ => rw [hu] at h; cases h
  | sct h h1 h2 hs hf => rw [hu] at h; cases h; exact ⟨_, _, rfl, rfl, h1, h2, hf⟩

/-- Where the fields' cells lie. -/
theorem offs_ok : ∀ (l : List Field) (cl : List (List Value)) (o : Nat), offsOK P l o = true → cl.length = l.length → (∀ (j : Nat) (g : Field) (c : List Value), l[j]? = some g → cl[j]? = some c → sizeT P g.type = some c.length) → ∀ (j : Nat) (g : Field), l[j]? = some g → o + (cl.take j).flatten.length = g.offset
  | [], _, _, _, _, _, _, _, h => by simp at h
  | g0 :: l, [], _, _, hlen, _, _, _, _ => by simp at hlen
  | g0 :: l, c :: cl, o, ho, hlen, hsz, j, g, hj => by
    simp only [offsOK, Bool.and_eq_true] at ho
    obtain ⟨ho1, ho2⟩ := ho
    have ho1 := Nat.eq_of_beq_eq_true ho1
    have hs0 := hsz 0 g0 c rfl rfl
    rw [hs0] at ho2
    cases j with
    | zero => simp only [List.getElem?_cons_zero, Option.some.injEq] at hj; subst hj; simp [ho1]
    | succ j =>
      have := offs_ok l cl (o + c.length) ho2 (by simpa using hlen) (fun j g c h1 h2 => hsz (j + 1) g c (by simpa using h1) (by simpa using h2)) j g (by simpa using hj)
      rw [List.take_succ_cons, List.flatten_cons, List.length_append]; omega

/-- A field's cells. -/
theorem ReadsA.field {t : TypeId} {fs : Array Field} {d : D} {cs : List Value} (h : ReadsA P σ t d cs) (hu : P.underlying t = some (.struct fs)) (ho : offsOK P fs.toList 0 = true) {f : Nat} {fd : Field} (hf : fs[f]? = some fd) {n : Nat} (hn : sizeT P fd.type = some n) :
    fd.offset + n ≤ cs.length ∧ ReadsA P σ fd.type (d.fld f) ((cs.drop fd.offset).take n) := by
  obtain ⟨ds, css, rfl, rfl, h1, h2, hr⟩ := h.sctInv hu
  have hlt : f < fs.size := (Array.getElem?_eq_some_iff.1 hf).1
  have hfl : f < css.length := by omega
  have hR := hr f fd (ds[f]'(by omega)) (css[f]) hf (List.getElem?_eq_getElem (by omega)) (List.getElem?_eq_getElem hfl)
  have hcl : (css[f]).length = n := by have := hR.size; rw [hn] at this; exact (Option.some.inj this).symm
  have hoff := offs_ok fs.toList css 0 ho (by simpa using h1) (fun j g c hg hc => (hr j g (ds[j]'(by have := (List.getElem?_eq_some_iff.1 hc).1; omega)) c (by simpa using hg) (List.getElem?_eq_getElem _) hc).size) f fd (by simpa using hf)
  have hsplit : css.flatten = (css.take f).flatten ++ (css[f] ++ (css.drop (f + 1)).flatten) := by
    have : css = css.take f ++ (css[f] :: css.drop (f + 1)) := by rw [← List.drop_eq_getElem_cons hfl, List.take_append_drop]
    conv => lhs; rw [this]
    rw [List.flatten_append, List.flatten_cons]
  have e : (D.sct ds).fld f = ds[f]'(by omega) := by simp [D.fld, nthD, show f < ds.length by omega]
  have hoff' : fd.offset = (css.take f).flatten.length := by omega
  refine ⟨by rw [hsplit]; simp only [List.length_append]; omega, ?_⟩
  rw [e, hsplit, hoff', List.drop_left, ← hcl, List.take_left]
  exact hR

theorem binA_any {op : BinOp} {t : TypeId} {x y : Operand} {a b v : Value} {H H1 : AHeap} (h : binA P op t x y a b H = some (v, H1)) : H1 = H ∧ ∀ H', binA P op t x y a b H' = some (v, H') := by
    unfold binA at h ⊢
    split at h
    · split at h
      · rename_i k a k' b v' hv
        simp only [Option.some.injEq, Prod.mk.injEq] at h
        obtain ⟨rfl, rfl⟩ := h
        exact ⟨rfl, fun _ => by simp_all⟩
      · rename_i hv
        obtain ⟨h1, h2⟩ := flatVal_any h
        exact ⟨h1, fun H' => by simpa [hv] using h2 H'⟩
    · split at h
      · rename_i v' hv
        simp only [Option.some.injEq, Prod.mk.injEq] at h
        obtain ⟨rfl, rfl⟩ := h
        exact ⟨rfl, fun _ => by simp_all⟩
      · rename_i hv
        obtain ⟨h1, h2⟩ := cond_any (f := fun H => flatVal P _ H) h flatVal_any
        exact ⟨h1, fun H' => by simpa [hv] using h2 H'⟩

/-- A value, the heap as it was. -/
def VOK (P : Program) (σ : Sig) (ν : Nu) (H : AHeap) (r : Option (Value × AHeap)) (Kv : V → Prop) : Prop := ∃ v v', r = some (v', H) ∧ Kv v ∧ VRel P σ ν v v'

theorem symPtr_ok {op : BinOp} {t : TypeId} {ox oy : Operand} {x y : V} {x' y' : Value} (h : symPtr P op t x y Kv) (hx : VRel P σ ν x x') (hy : VRel P σ ν y y') : VOK P σ ν H (binA P op t ox oy x' y' H) Kv := by
  have fin : ∀ (b : Bool), nilEqK P t x' y' = some b → (∀ k n, x' ≠ .int k n) → (match (generalizing := false) op with | .eql => Kv (.val (.bool b)) | .neq => Kv (.val (.bool (!b))) | _ => False) → VOK P σ ν H (binA P op t ox oy x' y' H) Kv := fun b nk hni h => by
    have hb : ∀ o, op = o → binA P o t ox oy x' y' H = (match nilEqA P o t x' y' with | some v => some (v, H) | none => cond (flat x' && flat y') (flatVal P (do eqGuard o t ox oy x' y'; binOp o t x' y') H) none) := fun o _ => by
      unfold binA
      split
      · rename_i k a k' b; exact absurd rfl (hni k a)
      · rfl
    split at h
    · rw [hb _ rfl]; simp only [nilEqA, nk]; exact ⟨_, _, rfl, h, .val rfl⟩
    · rw [hb _ rfl]; simp only [nilEqA, nk]; exact ⟨_, _, rfl, h, .val rfl⟩
    · exact h.elim
  unfold symPtr at h
  split at h
  · rename_i e b o b' o' hu
    cases hx with
    | ptr hν =>
    cases hy with
    | ptr hν' =>
    rename_i i z i' z'
    cases hc : (Nat.beq b b' && Nat.beq o o' && hasSize P e) with
    | false => rw [hc] at h; exact h.elim
    | true =>
      rw [hc] at h
      simp only [Bool.and_eq_true] at hc
      obtain ⟨⟨c1, c2⟩, c3⟩ := hc
      have := Nat.eq_of_beq_eq_true c1
      subst this
      have := Nat.eq_of_beq_eq_true c2
      subst this
      rw [hν] at hν'; cases hν'
      refine fin true ?_ (fun k n h => by cases h) ?_
      · simp only [nilEqK, hu, Nat.beq_refl, Bool.and_self, cond_true]
        unfold hasSize at c3
        cases hs : sizeT P e with
        | none => rw [hs] at c3; cases c3
        | some s => rfl
      · cases op <;> first | exact h | exact h.elim
  · rename_i e b o hu
    cases hx with
    | ptr hν =>
    cases hy with
    | val _ =>
    refine fin false ?_ (fun k n h => by cases h) ?_
    · simp only [nilEqK, hu]
    · cases op <;> first | exact h | exact h.elim
  · exact h.elim

theorem symBin_ok {op : BinOp} {t : TypeId} {ox oy : Operand} {x y : V} {x' y' : Value} (h : symBin P op t ox oy x y Kv) (hx : VRel P σ ν x x') (hy : VRel P σ ν y y') (H : AHeap) : VOK P σ ν H (binA P op t ox oy x' y' H) Kv := by
  have slow : ∀ x y, VRel P σ ν x x' → VRel P σ ν y y' → symBinS P op t x y Kv → VOK P σ ν H (binA P op t ox oy x' y' H) Kv := by
    intro x y hx hy h
    unfold symBinS at h
    split at h
    · rename_i k a k' b ha hb
      cases hk : (k == k') with
      | false => rw [hk] at h; exact h.elim
      | true =>
        have := eq_of_beq hk
        subst this
        rw [hk] at h
        rw [intOf_ok ha hx, intOf_ok hb hy]
        obtain ⟨v, v', h1, h2, h3⟩ := symInt_ok (P := P) (σ := σ) (ν := ν) (t := t) (ox := ox) (oy := oy) h H
        exact ⟨v, v', h1, h2, h3⟩
    · split at h
      · rename_i a b ha hb
        rw [strOf_ok ha hx, strOf_ok hb hy]
        obtain ⟨v, v', h1, h2, h3⟩ := symStr_ok (P := P) (σ := σ) (ν := ν) (t := t) (ox := ox) (oy := oy) h H
        exact ⟨v, v', h1, h2, h3⟩
      · split at h
        · rename_i a b ha hb
          cases hb' : isBoolT P t with
          | false => rw [hb'] at h; exact h.elim
          | true =>
            rw [hb'] at h
            rw [propOf_ok ha hx, propOf_ok hb hy]
            obtain ⟨v, v', h1, h2, h3⟩ := symBool_ok (P := P) (σ := σ) (ν := ν) (t := t) (ox := ox) (oy := oy) hb' h H
            exact ⟨v, v', h1, h2, h3⟩
        · split at h
          · cases hs : isSliceT P t with
            | false => rw [hs] at h; exact h.elim
            | true =>
              rw [hs] at h
              obtain ⟨e, hu⟩ : ∃ e, P.underlying t = some (.slice e) := by unfold isSliceT at hs; split at hs <;> simp_all
              have hy0 : y' = .slice none 0 0 := by cases hy with | val _ => rfl
              subst hy0
              have fl0 : Ev.flat (.slice none 0 0) = true := rfl
              have fb : ∀ (s : Bool), Ev.flat (.bool s) = true := fun _ => rfl
              -- nil against nil
              have nn : ∀ (o : BinOp), (o = .eql ∨ o = .neq) → binA P o t ox oy (.slice none 0 0) (.slice none 0 0) H = some (.bool (match o with | .eql => true | _ => false), H) := by
                intro o ho
                have nk : nilEqK P t (.slice none 0 0) (.slice none 0 0) = none := by unfold nilEqK; split <;> simp_all
                have na : nilEqA P o t (.slice none 0 0) (.slice none 0 0) = none := by unfold nilEqA; rw [nk]
                have hq : ∀ d, (Op.equalIn (d + 1) t (.slice none 0 0) (.slice none 0 0)).val? P = some true := fun d => by
                  unfold Op.equalIn
                  rw [val?_bind]
                  have : (Go.underlying t).val? P = some (.slice e) := by
                    unfold Go.underlying
                    rw [val?_bind]
                    have : (Go.program).val? P = some P := rfl
                    rw [this]
                    simp only [Option.bind_some, hu]; rfl
                  rw [this]; rfl
                have hq := hq 9999
                have hq : (Op.equal t (.slice none 0 0) (.slice none 0 0)).val? P = some true := hq
                rcases ho with rfl | rfl
                · simp only [binA, na, fl0, Bool.and_self, cond_true, flatVal]
                  rw [val?_bind]
                  have : (eqGuard .eql t ox oy (.slice none 0 0) (.slice none 0 0)).val? P = some () := rfl
                  rw [this]
                  simp only [Option.bind_some, binOp]
                  rw [val?_bind, hq]
                  rfl
                · simp only [binA, na, fl0, Bool.and_self, cond_true, flatVal]
                  rw [val?_bind]
                  have : (eqGuard .neq t ox oy (.slice none 0 0) (.slice none 0 0)).val? P = some () := rfl
                  rw [this]
                  simp only [Option.bind_some, binOp]
                  rw [val?_bind, hq]
                  rfl
              have sn : ∀ (o : BinOp) ad l c, (o = .eql ∨ o = .neq) → binA P o t ox oy (.slice (some ad) l c) (.slice none 0 0) H = some (.bool (match o with | .eql => false | _ => true), H) := by
                intro o ad l c ho
                have nk : nilEqK P t (.slice (some ad) l c) (.slice none 0 0) = some false := by simp only [nilEqK, hu]
                rcases ho with rfl | rfl <;> simp only [binA, nilEqA, nk] <;> rfl
              simp only [cond_true] at h
              unfold symNil at h
              split at h
              · rename_i d
                cases hx with
                | dat ht hrd =>
                  rcases hrd.sliceInv ht with ⟨rfl, hcs⟩ | ⟨l, i, o, c, sz, cs', rfl, hcs, _⟩
                  · cases hcs; exact ⟨_, _, nn .eql (.inl rfl), h, by rw [show (true : Bool) = dec D.nil.isNil from (dec_true trivial).symm]; exact .prop⟩
                  · cases hcs; exact ⟨_, _, sn .eql _ _ _ (.inl rfl), h, by rw [show (false : Bool) = dec (D.list l).isNil from (dec_false (fun h => h)).symm]; exact .prop⟩
              · rename_i d
                cases hx with
                | dat ht hrd =>
                  rcases hrd.sliceInv ht with ⟨rfl, hcs⟩ | ⟨l, i, o, c, sz, cs', rfl, hcs, _⟩
                  · cases hcs; exact ⟨_, _, nn .neq (.inr rfl), h, by rw [show (false : Bool) = dec (¬ D.nil.isNil) from (dec_false (fun h => h trivial)).symm]; exact .prop⟩
                  · cases hcs; exact ⟨_, _, sn .neq _ _ _ (.inr rfl), h, by rw [show (true : Bool) = dec (¬ (D.list l).isNil) from (dec_true (fun h => h)).symm]; exact .prop⟩
              · cases hx with
                | slcU _ => exact ⟨_, _, sn .eql _ _ _ (.inl rfl), h, .val rfl⟩
                | slc _ _ _ _ => exact ⟨_, _, sn .eql _ _ _ (.inl rfl), h, .val rfl⟩
              · cases hx with
                | slcU _ => exact ⟨_, _, sn .neq _ _ _ (.inr rfl), h, .val rfl⟩
                | slc _ _ _ _ => exact ⟨_, _, sn .neq _ _ _ (.inr rfl), h, .val rfl⟩
              · exact h.elim
          · exact symPtr_ok h hx hy
  unfold symBin at h
  split at h
  · rename_i a b
    split at h
    · rename_i v h1 hb
      cases hc : (flat1 v && flat1 a && flat1 b) with
      | false => rw [hc] at h; exact h.elim
      | true =>
        rw [hc] at h
        simp only [cond_true, forceV1_eq] at h
        simp only [Bool.and_eq_true] at hc
        have ea : x' = a := by cases hx with | val _ => rfl | undef => rfl
        have eb : y' = b := by cases hy with | val _ => rfl | undef => rfl
        subst ea eb
        exact ⟨_, v, (binA_any hb).2 H, h, .val hc.1.1⟩
    · exact h.elim
  · exact slow _ _ hx hy h

theorem symUn_ok {op : UnOp} {x : V} {x' : Value} (h : symUn op x Kv) (hx : VRel P σ ν x x') (H : AHeap) : VOK P σ ν H (unA P op x' H) Kv := by
  have fb : ∀ (s : Bool), Ev.flat (.bool s) = true := fun _ => rfl
  have fi : ∀ k (n : Int), Ev.flat (.int k n) = true := fun _ _ => rfl
  unfold symUn at h
  split at h
  · rename_i b
    cases hx with
    | val _ => exact ⟨_, .bool (!b), rfl, h, .val rfl⟩
  · rename_i p
    cases hx with
    | prop =>
      refine ⟨_, .bool (!dec p), rfl, h, ?_⟩
      rw [← dec_eq (p := ¬ p) (b := !dec p)]
      · exact .prop
      · by_cases hp : p <;> simp [dec_true, dec_false, hp]
  · split at h
    · rename_i k n hi
      rw [intOf_ok hi hx]
      refine ⟨_, .int k (-n), ?_, h.2, .int⟩
      have hv : (Op.unary .neg (.int k n)).val? P = some (.int k (-n)) := by
        have : Op.unary .neg (.int k n) = Op.intArith .sub k 0 n := rfl
        rw [this]
        show some (Value.int k (k.wrap (0 - n))) = _
        rw [show (0 : Int) - n = -n by omega, wrap_inR h.1]
      simp only [unA, fi, cond_true, flatVal, hv]
    · exact h.elim
  · exact h.elim

theorem symConv_ok {s d : TypeId} {x : V} {x' : Value} (h : symConv P s d x Kv) (hx : VRel P σ ν x x') (H : AHeap) : VOK P σ ν H (convA P s d x' H) Kv := by
  have und : ∀ t e, P.underlying t = some e → (Go.underlying t).val? P = some e := fun t e hu => by
    unfold Go.underlying
    rw [val?_bind]
    have : (Go.program).val? P = some P := rfl
    rw [this]
    simp only [Option.bind_some, hu]; rfl
  unfold symConv at h
  split at h
  · rename_i es k hs hd
    have hv : ∀ kk n, (convert s d (.int kk n)).val? P = some (.int k (k.wrap n)) := fun kk n => by
      unfold convert
      rw [val?_bind, und _ _ hs]
      simp only [Option.bind_some]
      rw [val?_bind, und _ _ hd]
      simp only [Option.bind_some]
      rfl
    have hc : ∀ kk n, convA P s d (.int kk n) H = some (.int k (k.wrap n), H) := fun kk n => by
      have fi : ∀ k (n : Int), Ev.flat (.int k n) = true := fun _ _ => rfl
      simp only [convA, fi, cond_true, flatVal, hv]
    split at h
    · cases hx with
      | val _ => rw [forceInt_eq] at h; exact ⟨_, _, hc _ _, h, .val rfl⟩
    · cases hx with
      | int => exact ⟨_, _, hc _ _, h, .int⟩
    · exact h.elim
  · rename_i hs hd
    split at h
    · rename_i w hw
      rw [strOf_ok hw hx]
      have hv : (convert s d (.string ⟨⟨w⟩⟩)).val? P = some (.string ⟨⟨w⟩⟩) := by
        unfold convert
        rw [val?_bind, und _ _ hs]
        simp only [Option.bind_some]
        rw [val?_bind, und _ _ hd]
        simp only [Option.bind_some]
        rfl
      have fi : ∀ s, Ev.flat (.string s) = true := fun _ => rfl
      exact ⟨_, _, by simp only [convA, fi, cond_true, flatVal, hv], h, .str⟩
    · exact h.elim
  · exact h.elim

theorem symPick_ok {c a b : V} {c' a' b' : Value} (h : symPick c a b Kv) (hc : VRel P σ ν c c') (ha : VRel P σ ν a a') (hb : VRel P σ ν b b') (H : AHeap) : VOK P σ ν H (pickA c' a' b' H) Kv := by
  unfold symPick at h
  split at h
  · rename_i t
    cases hc with
    | val _ => cases t with
      | true => exact ⟨_, _, rfl, h, ha⟩
      | false => exact ⟨_, _, rfl, h, hb⟩
  · rename_i p
    cases hc with
    | prop =>
      split at h
      · rename_i x y hx hy
        rw [propOf_ok hx ha, propOf_ok hy hb]
        refine ⟨_, .bool (cond (dec p) (dec x) (dec y)), ?_, h, ?_⟩
        · simp only [pickA]; cases dec p <;> rfl
        · rw [← dec_eq (p := (p ∧ x) ∨ (¬ p ∧ y)) (b := cond (dec p) (dec x) (dec y))]
          · exact .prop
          · by_cases hp : p <;> by_cases hx : x <;> by_cases hy : y <;> simp [dec_true, dec_false, hp, hx, hy]
      · exact h.elim
  · exact h.elim

theorem symFieldAddr_ok {s : TypeId} {x : V} {x' : Value} {f : Nat} (h : symFieldAddr P s x f Kv) (hx : VRel P σ ν x x') (H : AHeap) : VOK P σ ν H (fieldAddrA P s x' f H) Kv := by
  unfold symFieldAddr at h
  split at h
  · rename_i b o fd hf
    cases hx with
    | ptr hν =>
      cases hs : sizeT P fd.type with
      | none => simp only [hs] at h
      | some n =>
        cases n with
        | zero => simp only [hs] at h
        | succ n =>
          simp only [hs] at h
          refine ⟨_, .pointer (some ⟨_, o + fd.offset, none⟩), ?_, h, .ptr hν⟩
          simp only [fieldAddrA, hf, hs]
  · rename_i t d fd hf
    cases hx with
    | dpt hi hs h0 hl hrd =>
    rename_i i o sz z cs
    split at h
    · rename_i fs n hu hsz
      cases hc : (Nat.beq t s && offsOK P fs.toList 0) with
      | false => rw [hc] at h; exact h.elim
      | true =>
        rw [hc] at h
        simp only [Bool.and_eq_true] at hc
        have ht := Nat.eq_of_beq_eq_true hc.1
        subst ht
        have hff : fs[f]? = some fd := by unfold fieldA at hf; rw [hu] at hf; exact hf
        obtain ⟨q1, q2⟩ := hrd.field hu hc.2 hff hsz
        have hlen : ((cs.drop o).take sz).length = sz := by rw [List.length_take, List.length_drop]; omega
        rw [hlen] at q1
        rw [List.drop_take, List.drop_drop, List.take_take, Nat.min_eq_left (by omega)] at q2
        refine ⟨_, .pointer (some ⟨i, o + fd.offset, none⟩), ?_, h, .dpt hi hsz (Nat.succ_pos n) (by omega) q2⟩
        simp only [fieldAddrA, hf, hsz]
    · exact h.elim
  · exact h.elim

theorem symField_ok {t : TypeId} {x : V} {x' : Value} {f : Nat} (h : symField P t x f Kv) (hx : VRel P σ ν x x') (H : AHeap) : VOK P σ ν H (fieldO P t x' f H) Kv := by
  unfold symField at h
  split at h
  · rename_i cs fd hf
    cases hx with
    | agg h1 h2 =>
      rename_i cs'
      have hl : LRel P σ ν cs cs' := ⟨h1, h2⟩
      split at h
      · rename_i s ha hs
        cases hle : Nat.ble (fd.offset + s) cs.length with
        | false => rw [hle] at h; exact h.elim
        | true =>
          rw [hle] at h
          have := (hl.drop fd.offset).take s
          refine ⟨_, .agg ⟨(cs'.drop fd.offset).take s⟩, ?_, h, .agg this.1 this.2⟩
          simp only [fieldO, hf, partA, ha, hs, valA, Option.some.injEq, Prod.mk.injEq, and_true, Value.agg.injEq]
          apply Array.toList_inj.1
          simp [Array.toList_extract, List.extract_eq_take_drop]
      · rename_i ha
        split at h
        · rename_i v hv
          obtain ⟨v', hv', hvr⟩ := hl.get hv
          refine ⟨v, v', ?_, h, hvr⟩
          simp only [fieldO, hf, partA, ha, valA]
          have : (⟨cs'⟩ : Array Value)[fd.offset]? = some v' := by simpa using hv'
          rw [this]
        · exact h.elim
      · exact h.elim
  · exact h.elim

theorem symExtract_ok {x : V} {x' : Value} {ix : Nat} (h : symExtract x ix Kv) (hx : VRel P σ ν x x') (H : AHeap) : VOK P σ ν H (extractA x' ix H) Kv := by
  unfold symExtract at h
  split at h
  · rename_i vs
    cases hx with
    | tup h1 h2 =>
      rename_i cs'
      split at h
      · rename_i v hv
        obtain ⟨v', hv', hvr⟩ := LRel.get (P := P) (σ := σ) (ν := ν) ⟨h1, h2⟩ hv
        refine ⟨v, v', ?_, h, hvr⟩
        simp only [extractA, valA]
        have : (⟨cs'⟩ : Array Value)[ix]? = some v' := by simpa using hv'
        rw [this]
      · exact h.elim
  · exact h.elim

theorem symNilCheck_ok {x : V} {x' : Value} (h : symNilCheck x Kv) (hx : VRel P σ ν x x') (H : AHeap) : VOK P σ ν H (nilCheckA x' H) Kv := by
  unfold symNilCheck at h
  split at h
  · cases hx with | ptr hν => exact ⟨_, _, rfl, h, .ptr hν⟩
  · cases hx with | ept hν => exact ⟨_, _, rfl, h, .ept hν⟩
  · cases hx with | dpt a b c d e => exact ⟨_, _, rfl, h, .dpt a b c d e⟩
  · cases hx with | fn a b c d => exact ⟨_, _, rfl, h, .fn a b c d⟩
  · exact h.elim

theorem symIndex_ok {t : TypeId} {x ix : V} {x' ix' : Value} (h : symIndex P t x ix Kv) (hx : VRel P σ ν x x') (hi : VRel P σ ν ix ix') (H : AHeap) : VOK P σ ν H (indexO P t x' ix' H) Kv := by
  unfold symIndex at h
  split at h
  · rename_i i n s hn hs hu
    obtain ⟨⟨k, rfl⟩, hnv⟩ := nlOf_ok hn hi
    rw [strOf_ok hs hx]
    obtain ⟨h0, h1, h⟩ := h
    have hv : (Instr.index t (.string ⟨⟨s⟩⟩) (.int k i)).val? P = some (.int .u8 (byteAt s n.v)) := by
      unfold Instr.index
      rw [val?_bind]
      have e1 : (asIntOf (.int k i)).val? P = some (k, i) := rfl
      rw [e1]
      simp only [Option.bind_some]
      rw [val?_bind]
      have : (Go.underlying t).val? P = some .string := by
        unfold Go.underlying
        rw [val?_bind]
        have : (Go.program).val? P = some P := rfl
        rw [this]
        simp only [Option.bind_some, hu]; rfl
      rw [this]
      simp only [Option.bind_some, if_pos h0]
      have hb : (⟨⟨s⟩⟩ : ByteArray)[i.toNat]? = some (s[i.toNat]'(by omega)) := by
        have : i.toNat < (⟨⟨s⟩⟩ : ByteArray).size := by show i.toNat < s.length; omega
        rw [getElem?_pos (⟨⟨s⟩⟩ : ByteArray) i.toNat this]; rfl
      rw [hb]
      have : byteAt s n.v = (s[i.toNat]'(by omega)).toNat := by
        rw [hnv]; unfold byteAt; rw [List.getElem?_eq_getElem (by omega)]; rfl
      rw [this]; rfl
    have fi : ∀ k (n : Int), Ev.flat (.int k n) = true := fun _ _ => rfl
    exact ⟨_, _, by simp only [indexO, flatVal, hv, fi, cond_true], h, .int⟩
  · exact h.elim

end
end Go.Ev

end

section

namespace Go.Ev
section
variable {P : Program} {base : Nat} {H0 : AHeap × Sig} {ν : Nu} {σ : Sig} {S : SS} {F : AFrame} {H : AHeap} {K : V → SS → Prop} {Kv : V → Prop}

theorem zeroD_ok {e : TypeId} {d : D} (h : zeroD P e = some d) (hz : zflat P e = true) : ∃ z, zeroT P e = some z ∧ ReadsA P σ e d z.cells.toList := by
  unfold zeroD at h
  unfold zflat at hz
  cases hzt : zeroT P e with
  | none => rw [hzt] at h; cases h
  | some z =>
    rw [hzt] at h hz
    exact ⟨z, rfl, datOf_ok (ν := fun _ => none) _ _ _ _ _ h (LRel.vals (flat_cells' hz))⟩

theorem makeSliceA_eq {t e : TypeId} {k k' : IntKind} {l c : Nat} {inf : TypeInfo} {z : Value} (hu : P.underlying t = some (.slice e)) (hi : P.info? e = some inf) (hz : inf.zero = some z) (hle : l ≤ c) (hc : c ≤ 16777216) (hb : inf.bytes * c ≤ 281474976710656) (hf : Ev.flat z = true) (hs : z.cells.size = inf.size)
    (h1 : (List.replicate c z.cells.toList).flatten.all oneCellB = true) (H : AHeap) :
    makeSliceA P t (.int k l) (.int k' c) H = some (.slice (some ⟨H.next, 0, none⟩) l c, H.alloc (.cells (List.replicate c z.cells.toList).flatten e inf.size none false)) := by
  unfold makeSliceA
  simp only [hu]
  show (match P.info? e with | some i => _ | none => _) = _
  simp only [hi, hz, Nat.ble_eq_true_of_le hle, Nat.ble_eq_true_of_le hc, Nat.ble_eq_true_of_le hb, hf, hs, Nat.beq_refl, Bool.and_self, cond_true, newRowA_eq h1]

theorem symMakeSlice_ok {t : TypeId} {l c : V} {l' c' : Value} (hr : SR P base H0 ν σ S F H) (h : symMakeSlice P S t l c K) (hl : VRel P σ ν l l') (hc : VRel P σ ν c c') : OpR P base H0 ν σ S F (makeSliceA P t l' c' H) K := by
  unfold symMakeSlice at h
  split at h
  · rename_i e hu
    split at h
    · rename_i li ln ci cn z inf h1 h2 h3 h4
      cases hsz : (Nat.blt 0 inf.size && zflat P e) with
      | false => rw [hsz] at h; exact h.elim
      | true =>
        rw [hsz] at h
        simp only [Bool.and_eq_true] at hsz
        obtain ⟨q0, q1, q2, q3, h⟩ := h
        obtain ⟨⟨k, rfl⟩, hlv⟩ := nlOf_ok h1 hl
        obtain ⟨⟨k', rfl⟩, hcv⟩ := nlOf_ok h2 hc
        have hzt : zeroT P e = inf.zero := by unfold zeroT; rw [h4]; rfl
        obtain ⟨zv, hz1, hz2⟩ := zeroD_ok (σ := σ) h3 hsz.2
        have hzz : inf.zero = some zv := by rw [← hzt]; exact hz1
        have hst : sizeT P e = some inf.size := by unfold sizeT; rw [h4]; rfl
        have hzl : zv.cells.toList.length = inf.size := by have := hz2.size; rw [hst] at this; exact (Option.some.inj this).symm
        have hrow := RowR.rep hz2 hzl cn.v
        have el : (li : Int) = ((ln.v : Nat) : Int) := by omega
        have ec : (ci : Int) = ((cn.v : Nat) : Int) := by omega
        have hms := makeSliceA_eq (k := k) (k' := k') (l := ln.v) (c := cn.v) hu h4 hzz (by omega) (by omega) q3 (by have := hsz.2; unfold zflat at this; rw [hz1] at this; exact this) (by rw [← hzl]; simp) hrow.one H
        rw [el, ec, hms]
        refine ⟨_, _, rfl, _, _, _, σ, h, hr.alloc (z := inf.size) (k := .arr e _) (fun ν' hν => .arr hst (blt_lt hsz.1) hrow), ?_, xnewn _ _ _, .refl _, rfl, .alloc _ _⟩
        exact VRel.slc (z := inf.size) (if_pos rfl) (by unfold UNK; omega) (by omega) (.inl (by simp [NL.v]))
    · exact h.elim
  · exact h.elim

/-! ### A slice that is written out -/
theorem foldSet (off : Nat) : ∀ (l : List Value) (k : Nat) (cs : Array Value), off + k + l.length ≤ cs.size →
    ((l.zipIdx k).foldl (fun cs (x : Value × Nat) => cs.setIfInBounds (off + x.2) x.1) cs).toList = cs.toList.take (off + k) ++ l ++ cs.toList.drop (off + k + l.length)
  | [], k, cs, h => by simp
  | v :: l, k, cs, h => by
    rw [List.zipIdx_cons, List.foldl_cons, foldSet off l (k + 1) _ (by simp at h ⊢; omega)]
    have hlt : off + k < cs.toList.length := by simp at h ⊢; omega
    simp only [Array.toList_setIfInBounds, List.length_cons]
    rw [show off + (k + 1) = off + k + 1 by omega, List.take_set, List.drop_set_of_lt (by omega)]
    rw [show (List.take (off + k + 1) cs.toList).set (off + k) v = List.take (off + k) cs.toList ++ [v] by
      rw [List.take_succ_eq_append_getElem hlt, List.set_append_right _ _ (by simp; omega)]
      have hm : (List.take (off + k) cs.toList).length = off + k := by rw [List.length_take]; omega
      rw [hm, Nat.sub_self]; simp]
    simp [show off + k + 1 + l.length = off + k + (l.length + 1) by omega]

theorem fill_elems {e : TypeId} {z : Nat} (hs : sizeT P e = some z) : ∀ (ps : List (Nat × V)) (ps' : List (Nat × Value)) (j : Nat) (ds : List D) (cs : Array Value), elemsD P e ps j = some ds → ps.map (·.1) = ps'.map (·.1) → LRel P σ ν (ps.map (·.2)) (ps'.map (·.2)) → cs.size = (j + ds.length) * z →
    ∃ row, Instr.fill (fun i => some (i * z, z)) cs ps' = some ⟨cs.toList.take (j * z) ++ row⟩ ∧ RowR P σ e z ds row
  | [], ps', j, ds, cs, h, hm, hl, hsz => by
    simp only [elemsD, Option.some.injEq] at h
    subst h
    have : ps' = [] := by cases ps' with | nil => rfl | cons a b => simp at hm
    subst this
    refine ⟨[], ?_, .nil⟩
    simp only [Instr.fill, Option.some.injEq, List.append_nil]
    rw [List.take_of_length_le (by simp at hsz ⊢; omega)]
  | (i, v) :: ps, [], j, ds, cs, h, hm, hl, hsz => by simp at hm
  | (i, v) :: ps, (i', v') :: ps', j, ds, cs, h, hm, hl, hsz => by
    simp only [List.map_cons, List.cons.injEq] at hm
    obtain ⟨rfl, hm⟩ := hm
    simp only [List.map_cons] at hl
    obtain ⟨u, r, he, hv, hl⟩ := hl.cons_inv
    cases he
    simp only [elemsD] at h
    cases hij : Nat.beq i j with
    | false => rw [hij] at h; cases h
    | true =>
      have := Nat.eq_of_beq_eq_true hij
      subst this
      rw [hij] at h
      simp only [cond_true] at h
      split at h
      · rename_i d ds' hd hds
        simp only [Option.some.injEq] at h
        subst h
        have hR := datOf_ok _ _ _ _ _ hd hv.cells
        have hvl : v'.cells.toList.length = z := by have := hR.size; rw [hs] at this; exact (Option.some.inj this).symm
        have hvs : v'.cells.size = z := by rw [← hvl]; simp
        have hmul : (i + (d :: ds').length) * z = i * z + (z + ds'.length * z) := by simp only [List.length_cons]; rw [Nat.add_mul, Nat.succ_mul]; omega
        have hfold := foldSet (i * z) v'.cells.toList 0 cs (by rw [hvl, hsz, hmul]; omega)
        simp only [Instr.fill]
        rw [if_neg (by rw [hvs, hsz, hmul]; simp), zip_fold_eq]
        generalize hc2 : ((v'.cells.toList.zipIdx 0).foldl (fun cs (x : Value × Nat) => cs.setIfInBounds (i * z + x.2) x.1) cs) = cs2 at hfold ⊢
        have hs2 : cs2.size = (i + 1 + ds'.length) * z := by
          have h1 : cs2.toList.length = cs.size := by rw [hfold]; simp only [List.length_append, List.length_take, List.length_drop, Array.length_toList]; rw [hsz, hmul]; omega
          rw [← Array.length_toList, h1, hsz, hmul, Nat.add_mul, Nat.succ_mul]; omega
        obtain ⟨row, h1, h2⟩ := fill_elems hs ps ps' (i + 1) ds' cs2 hds hm hl hs2
        refine ⟨v'.cells.toList ++ row, ?_, (RowR.single hR hvl).append h2⟩
        rw [h1]
        have ht : List.take ((i + 1) * z) cs2.toList = List.take (i * z) cs.toList ++ v'.cells.toList := by
          rw [hfold, Nat.succ_mul]
          have hl1 : (List.take (i * z) cs.toList).length = i * z := by rw [List.length_take, Array.length_toList, hsz, hmul]; omega
          simp only [Nat.add_zero]
          rw [List.append_assoc, List.take_append, hl1, List.take_of_length_le (by omega), show i * z + z - i * z = v'.cells.toList.length by rw [hvl]; omega, List.take_left]
        rw [ht, List.append_assoc]
      · cases h

theorem symBuildSlice_ok {t : TypeId} {len : Nat} {parts : Array (Nat × Operand)} {ps : List (Nat × V)} (hr : SR P base H0 ν σ S F H) (h : symBuildSlice P S t len ps K) (hm : ps.map (·.1) = parts.toList.map (·.1)) (hl : LRel P σ ν (ps.map (·.2)) (parts.toList.map fun x => aeval F x.2)) :
    OpR P base H0 ν σ S F (buildSliceA P F t len parts H) K := by
  unfold symBuildSlice at h
  split at h
  · rename_i e hu
    split at h
    · rename_i ds s z0 hds hs hz
      cases hc : (Nat.beq ds.length len && Nat.ble len 16777216 && Nat.ble (len * Nat.succ s) 16777216 && zflat P e) with
      | false => rw [hc] at h; exact h.elim
      | true =>
        rw [hc] at h
        simp only [Bool.and_eq_true] at hc
        obtain ⟨⟨⟨c1, c2⟩, c3⟩, c4⟩ := hc
        have c1' := Nat.eq_of_beq_eq_true c1
        obtain ⟨zv, hz1, hz2⟩ := zeroD_ok (σ := σ) hz c4
        have hzl : zv.cells.toList.length = s + 1 := by have := hz2.size; rw [hs] at this; exact (Option.some.inj this).symm
        have hfl : Ev.flat zv = true := by unfold zflat at c4; rw [hz1] at c4; exact c4
        have hrep : (List.replicate len zv.cells.toList).flatten.length = len * (s + 1) := by rw [rows_len (z := s + 1) (fun c hc => by rw [(List.mem_replicate.1 hc).2, hzl])]; simp
        obtain ⟨row, hf, hrow⟩ := fill_elems hs ps (parts.toList.map fun x => (x.1, aeval F x.2)) 0 ds ((List.replicate len zv.cells.toList).flatten.toArray) hds (by rw [hm, List.map_map]; rfl) (by rw [List.map_map]; exact hl) (by rw [List.size_toArray, hrep, c1', Nat.zero_add])
        have hb : buildSliceA P F t len parts H = some (.slice (some ⟨H.next, 0, none⟩) len len, H.alloc (.cells row e (s + 1) none false)) := by
          unfold buildSliceA
          simp only [hu, hs, hz1]
          have e1 : Nat.beq zv.cells.size (Nat.succ s) = true := by rw [show zv.cells.size = s + 1 by rw [← hzl]; simp]; exact Nat.beq_refl _
          simp only [c2, c3, hfl, e1, Bool.and_self, cond_true]
          have e2 : (parts.map fun (x : Nat × Operand) => (x.1, aeval F x.2)).toList = parts.toList.map fun x => (x.1, aeval F x.2) := by simp
          rw [show (parts.map fun x => match x with | (i, x) => (i, aeval F x)).toList = parts.toList.map fun x => (x.1, aeval F x.2) from e2]
          rw [show (fun i => some (i * Nat.succ s, Nat.succ s)) = (fun i => some (i * (s + 1), s + 1)) from rfl, hf]
          simp only [Nat.zero_mul, List.take_zero, List.nil_append, newRowA_eq hrow.one]
        rw [hb]
        refine ⟨_, _, rfl, _, _, _, σ, h, hr.alloc (z := s + 1) (k := .arr e ds) (fun ν' hν => .arr hs (Nat.succ_pos s) hrow), ?_, xnewn _ _ _, .refl _, rfl, .alloc _ _⟩
        have := Nat.le_of_ble_eq_true c2
        exact VRel.slc (z := s + 1) (o := .lit 0) (n := .lit len) (c := .lit len) (if_pos rfl) (by show len < UNK; unfold UNK; omega) (Nat.le_refl _) (.inl (by simp [NL.v]))
    · exact h.elim
  · exact h.elim
end
end Go.Ev

end

section

namespace Go.Ev
section
variable {P : Program} {base : Nat} {H0 : AHeap × Sig} {ν : Nu} {σ : Sig} {S : SS} {F : AFrame} {H : AHeap} {K : V → SS → Prop} {Kv : V → Prop}

/-- The cells of a slice of the call's own, or of one that nobody writes. -/
theorem VRel.srcA (hr : SR P base H0 ν σ S F H) {e ts : TypeId} {inf : TypeInfo} {x : V} {x' : Value} {K : NL → List D → Prop} (hi : P.info? e = some inf) (h0 : 0 < inf.size) (hts : P.underlying ts = some (.slice e) ∨ P.underlying ts = some .string) (h : srcS P S e ts x K) (hx : VRel P σ ν x x') :
    ∃ n l row, K n l ∧ srcA H inf.size x' = some (n.v, row) ∧ RowR P σ e inf.size l row ∧ l.length = n.v := by
  have hst : sizeT P e = some inf.size := by unfold sizeT; rw [hi]; rfl
  unfold srcS at h
  have one : (isU8 P e && sizeIs1 P e) = true → P.underlying e = some (.int .u8) ∧ inf.size = 1 := fun hc => by
    simp only [Bool.and_eq_true] at hc
    refine ⟨by have := hc.1; unfold isU8 at this; split at this <;> simp_all, ?_⟩
    have := hc.2
    unfold sizeIs1 at this
    rw [hst] at this
    exact Nat.eq_of_beq_eq_true this
  have str : ∀ s : List UInt8, P.underlying e = some (.int .u8) ∧ inf.size = 1 → Ev.srcA H inf.size (.string ⟨⟨s⟩⟩) = some (s.length, s.map fun b => Value.int .u8 b.toNat) ∧ RowR P σ e inf.size (strD s) (s.map fun b => Value.int .u8 b.toNat) ∧ (strD s).length = s.length := fun s ⟨hu, h1⟩ => by
    refine ⟨by unfold Ev.srcA; rw [h1]; rfl, ⟨by simp [strD, h1], fun j d hj => ?_⟩, by simp [strD]⟩
    unfold strD at hj
    rw [List.getElem?_map] at hj
    cases hb : s[j]? with
    | none => rw [hb] at hj; cases hj
    | some b =>
      rw [hb] at hj
      cases hj
      have hd : (List.drop (j * inf.size) (s.map fun b => Value.int .u8 b.toNat)).take inf.size = [Value.int .u8 b.toNat] := by
        rw [h1, Nat.mul_one]
        have hl : j < s.length := (List.getElem?_eq_some_iff.1 hb).1
        rw [List.drop_eq_getElem_cons (by simpa using hl)]
        have : s[j] = b := (List.getElem?_eq_some_iff.1 hb).2
        simp [this]
      rw [hd]
      exact .int hu (by rw [hst, h1])
  split at h
  · rename_i s
    cases hc : (isU8 P e && sizeIs1 P e) with
    | false => rw [hc] at h; exact h.elim
    | true =>
      rw [hc] at h
      cases hx with
      | str => obtain ⟨q1, q2, q3⟩ := str s (one hc); exact ⟨_, _, _, h, q1, q2, q3⟩
  · rename_i s
    cases hc : (isU8 P e && sizeIs1 P e) with
    | false => rw [hc] at h; exact h.elim
    | true =>
      rw [hc] at h
      cases hx with
      | val _ => obtain ⟨q1, q2, q3⟩ := str s.data.toList (one hc); exact ⟨_, _, _, h, q1, q2, q3⟩
  · cases hx with
    | val _ => exact ⟨_, _, [], h, by simp [Ev.srcA, NL.v], .nil, rfl⟩
  · rename_i b o n c
    split at h
    · rename_i e' l hb
      cases he : (Nat.beq e e' && true) with
      | false => simp only [Bool.and_true] at he; rw [he] at h; exact h.elim
      | true =>
        simp only [Bool.and_true] at he
        have := Nat.eq_of_beq_eq_true he
        subst this
        rw [he] at h
        obtain ⟨hle, h⟩ := h
        obtain ⟨i, z, hν, hB⟩ := hr.blk _ _ hb
        obtain ⟨cs, m, hg, hs, hz0, hlen, hrd⟩ := hB
        have hz : z = inf.size := by rw [hst] at hs; exact (Option.some.inj hs).symm
        subst hz
        have hrow : RowR P σ e inf.size l cs := ⟨hlen, hrd⟩
        have hmul : (o.v + n.v) * inf.size ≤ l.length * inf.size := Nat.mul_le_mul_right _ hle
        rw [Nat.add_mul] at hmul
        have hc : H.cells i = some cs := by unfold AHeap.cells; rw [hg]
        have key : ∀ cap off, (n.v ≠ 0 → off = o.v * inf.size) → Ev.srcA H inf.size (.slice (some ⟨i, off, none⟩) n.v cap) = some (n.v, ((cs.drop (o.v * inf.size)).take (n.v * inf.size))) := by
          intro cap off hoff
          unfold Ev.srcA
          cases hn : Nat.beq n.v 0 with
          | true => have := Nat.eq_of_beq_eq_true hn; simp [this]
          | false =>
            have hne : n.v ≠ 0 := fun e => by rw [e] at hn; cases hn
            simp only [hc]
            rw [hn, hoff hne, Nat.ble_eq_true_of_le (by omega)]; rfl
        refine ⟨n, _, (cs.drop (o.v * inf.size)).take (n.v * inf.size), h, ?_, (hrow.drop o.v).take n.v, by rw [List.length_take, List.length_drop]; omega⟩
        cases hx with
        | slcU hν' => rw [hν] at hν'; cases hν'; exact key _ _ (fun _ => rfl)
        | slc hν' hc' hn' ho =>
          rw [hν] at hν'; cases hν'
          exact key _ _ (fun hne => by rcases ho with ho | ho; exact ho; omega)
    · exact h.elim
  · rename_i t d
    cases ht : Nat.beq t ts with
    | false => rw [ht] at h; exact h.elim
    | true =>
      have := Nat.eq_of_beq_eq_true ht
      subst this
      rw [ht] at h
      cases hx with
      | dat hu hrd =>
        have hts : P.underlying t = some (.slice e) := by rcases hts with hts | hts; exact hts; rw [hu] at hts; cases hts
        rcases hrd.sliceInv hts with ⟨rfl, hcs⟩ | ⟨l, i, o, c, sz, cs', rfl, hcs, hsz, hσ, hle, hc, hel⟩
        · cases hcs; exact ⟨_, _, [], h, by simp [Ev.srcA, NL.v, D.len, D.asList], .nil, rfl⟩
        · cases hcs
          have hz : sz = inf.size := by rw [hst] at hsz; exact (Option.some.inj hsz).symm
          subst hz
          obtain ⟨_, e1, m, ro, hg⟩ := hr.sig _ _ hσ
          have hcl : H.cells i = some cs' := by unfold AHeap.cells; rw [hg]
          refine ⟨.sym l.length, l, (cs'.drop o).take (l.length * inf.size), h, ?_, ⟨by rw [List.length_take, List.length_drop]; omega, fun j d hj => ?_⟩, rfl⟩
          · unfold Ev.srcA
            cases hn : Nat.beq l.length 0 with
            | true => have := Nat.eq_of_beq_eq_true hn; simp [this, NL.v]
            | false => simp only [hcl]; rw [hn, Nat.ble_eq_true_of_le hle]; rfl
          · have hjl : j < l.length := (List.getElem?_eq_some_iff.1 hj).1
            have hm : (j + 1) * inf.size ≤ l.length * inf.size := Nat.mul_le_mul_right _ hjl
            rw [Nat.succ_mul] at hm
            have := hel j d hj
            rw [List.drop_take, List.drop_drop, List.take_take, Nat.min_eq_left (by omega)]
            exact this
  · exact h.elim

/-- append onto a row that may have room: the old one is out of sight. -/
theorem SR.push (hr : SR P base H0 ν σ S F H) {b i z : Nat} {k : SB} (hk : S.hp.get b = some k) (hν : ν b = some (i, z)) (hro : S.ro ≤ b) {k' : SB} {cs1 new : List Value} {e : TypeId} {esz : Nat}
    (hb : ∀ ν', XN ν ν' → BRel P σ ν' z k' (some (.cells new e esz (some i) false))) :
    SR P base H0 (fun b => if b = S.nx then some (H.next, z) else ν b) σ ((S.write b none).alloc k') F (((H.kill (H.mate i)).write i (some (.cells cs1 e esz (some H.next) false))).alloc (.cells new e esz (some i) false)) := by
  have hx := xnew hr z
  have hn1 : ((H.kill (H.mate i)).write i (some (.cells cs1 e esz (some H.next) false))).next = H.next := AHeap.next_kill _ _
  have hilt := hr.lt b i z hν
  have hget : ∀ j, (((H.kill (H.mate i)).write i (some (.cells cs1 e esz (some H.next) false))).alloc (.cells new e esz (some i) false)).get j =
      if j = H.next then some (.cells new e esz (some i) false) else if j = i then some (.cells cs1 e esz (some H.next) false) else if H.mate i = some j then none else H.get j := fun j => by
    rw [AHeap.get_alloc, hn1, AHeap.get_write, AHeap.get_kill]
  have hnx : (((H.kill (H.mate i)).write i (some (.cells cs1 e esz (some H.next) false))).alloc (.cells new e esz (some i) false)).next = H.next + 1 := by
    show Nat.succ _ = _; rw [hn1]
  have hbi := hr.own b i z hro hν
  have hmate : ∀ m, H.mate i = some m → base ≤ m ∧ m < H.next ∧ σ m = none ∧ ∀ b' k' z', S.hp.get b' = some k' → ν b' ≠ some (m, z') := fun m hm => let q := hr.mates b k i z m hk hν hm; ⟨q.1 hro, q.2⟩
  have hg : ∀ b', ((S.write b none).alloc k').hp.get b' = if b' = S.nx then some k' else if b' = b then none else S.hp.get b' := fun b' => by
    show T.get (T.put (T.put S.hp b none) S.nx (some k')) b' = _
    rw [T.get_put, T.get_put]
  have hblt : b < S.nx := by
    rcases Nat.lt_or_ge b S.nx with h | h
    · exact h
    · rw [hr.dom b h] at hν; cases hν
  have hne : ∀ b i z', ν b = some (i, z') → b ≠ S.nx ∧ i ≠ H.next := fun b i z' hb => by
    refine ⟨fun e => ?_, fun e => ?_⟩
    · rw [e, hr.dom _ (Nat.le_refl _)] at hb; cases hb
    · have := hr.lt _ _ _ hb; omega
  have hkeep : ∀ b' i' z' k2, S.hp.get b' = some k2 → ν b' = some (i', z') → b' ≠ b → (((H.kill (H.mate i)).write i (some (.cells cs1 e esz (some H.next) false))).alloc (.cells new e esz (some i) false)).get i' = H.get i' := fun b' i' z' k2 h2 h3 hne' => by
    rw [hget, if_neg (hne _ _ _ h3).2, if_neg (fun e1 => hne' (hr.inj _ _ _ _ _ (e1 ▸ h3) hν)), if_neg (fun hm => (hmate _ hm).2.2.2 b' k2 z' h2 h3)]
  refine ⟨fun t v h => (hr.fr t v h).mono (.refl _) hx, hr.fsz, hr.top, hr.nomk, ?_, ?_, ?_, ?_, ?_, ?_, ?_, ?_, ?_, ?_, by rw [hnx]; have := hr.nxt; omega, Nat.le_succ_of_le hr.role, hr.sb⟩
  · intro b' k2 h
    rw [hg] at h
    by_cases e1 : b' = S.nx
    · rw [if_pos e1] at h; cases h
      exact ⟨H.next, z, if_pos e1, by rw [hget, if_pos rfl]; exact hb _ hx⟩
    · rw [if_neg e1] at h
      by_cases e2 : b' = b
      · rw [if_pos e2] at h; cases h
      · rw [if_neg e2] at h
        obtain ⟨i', z', h1, h2⟩ := hr.blk b' k2 h
        exact ⟨i', z', by rw [if_neg e1]; exact h1, by rw [hkeep b' i' z' k2 h h1 e2]; exact h2.mono (.refl _) hx⟩
  · intro b' i' z' h
    rw [hnx]
    by_cases e1 : b' = S.nx
    · simp only [e1, if_true, Option.some.injEq, Prod.mk.injEq] at h; omega
    · simp only [if_neg e1] at h; have := hr.lt _ _ _ h; omega
  · intro b' h
    have : S.nx + 1 ≤ b' := h
    simp only [if_neg (show b' ≠ S.nx by omega)]
    exact hr.dom b' (by omega)
  · intro b1 b2 i' z1 z2 h h'
    by_cases e1 : b1 = S.nx <;> by_cases e2 : b2 = S.nx
    · rw [e1, e2]
    · simp only [e1, if_true, Option.some.injEq, Prod.mk.injEq] at h; simp only [if_neg e2] at h'
      exact absurd h.1.symm (hne _ _ _ h').2
    · simp only [e2, if_true, Option.some.injEq, Prod.mk.injEq] at h'; simp only [if_neg e1] at h
      exact absurd h'.1.symm (hne _ _ _ h).2
    · simp only [if_neg e1] at h; simp only [if_neg e2] at h'; exact hr.inj _ _ _ _ _ h h'
  · intro b' i' z' hro' h
    by_cases e1 : b' = S.nx
    · simp only [e1, if_true, Option.some.injEq, Prod.mk.injEq] at h; have := hr.nxt; omega
    · simp only [if_neg e1] at h; exact hr.own b' i' z' hro' h
  · intro i' c h
    obtain ⟨h1, h2⟩ := hr.sig i' c h
    refine ⟨by rw [hnx]; omega, ?_⟩
    rw [hget, if_neg (by omega), if_neg (fun e1 => by have := hr.apart b k i z hk hν; rw [← e1, h] at this; cases this), if_neg (fun hm => by rw [(hmate _ hm).2.2.1] at h; cases h)]
    exact h2
  · intro b' k2 i' z' h h'
    rw [hg] at h
    by_cases e1 : b' = S.nx
    · simp only [e1, if_true, Option.some.injEq, Prod.mk.injEq] at h'
      cases hs : σ i' with
      | none => rfl
      | some c => have := (hr.sig i' c hs).1; omega
    · rw [if_neg e1] at h; simp only [if_neg e1] at h'
      by_cases e2 : b' = b
      · rw [if_pos e2] at h; cases h
      · rw [if_neg e2] at h; exact hr.apart b' k2 i' z' h h'
  · intro b' k2 i' z' m h h' hm
    rw [hg] at h
    rw [hnx]
    by_cases e1 : b' = S.nx
    · simp only [e1, if_true, Option.some.injEq, Prod.mk.injEq] at h'
      rw [← h'.1, mate_cells (by rw [hget, if_pos rfl])] at hm
      cases hm
      refine ⟨fun _ => hbi, by omega, hr.apart b k i z hk hν, fun b2 k4 z2 h4 hν2 => ?_⟩
      rw [hg] at h4
      by_cases e3 : b2 = S.nx
      · simp only [e3, if_true, Option.some.injEq, Prod.mk.injEq] at hν2; omega
      · rw [if_neg e3] at h4; simp only [if_neg e3] at hν2
        have := hr.inj _ _ _ _ _ hν2 hν
        rw [if_pos this] at h4; cases h4
    · rw [if_neg e1] at h; simp only [if_neg e1] at h'
      by_cases e2 : b' = b
      · rw [if_pos e2] at h; cases h
      · rw [if_neg e2] at h
        rw [AHeap.mate_congr (hkeep b' i' z' k2 h h' e2)] at hm
        obtain ⟨q1, q2, q3, q4⟩ := hr.mates b' k2 i' z' m h h' hm
        refine ⟨q1, by omega, q3, fun b2 k4 z2 h4 hν2 => ?_⟩
        rw [hg] at h4
        by_cases e3 : b2 = S.nx
        · simp only [e3, if_true, Option.some.injEq, Prod.mk.injEq] at hν2; omega
        · rw [if_neg e3] at h4; simp only [if_neg e3] at hν2
          by_cases e4 : b2 = b
          · rw [if_pos e4] at h4; cases h4
          · rw [if_neg e4] at h4; exact q4 b2 k4 z2 h4 hν2
  · have h3 : base ≤ (H.kill (H.mate i)).wlow := by
      cases hm : H.mate i with
      | none => exact hr.wl
      | some m =>
        have := (hmate m hm).1
        simp only [AHeap.kill, AHeap.write]
        cases hbl : Nat.ble H.wlow m with
        | true => exact hr.wl
        | false => simpa using this
    simp only [AHeap.alloc, AHeap.write]
    cases hbl : Nat.ble (H.kill (H.mate i)).wlow i with
    | true => exact h3
    | false => exact hbi
  · intro j hj
    have := hr.nxt
    rw [hget, if_neg (by omega), if_neg (by omega), if_neg (fun hm => by have := (hmate _ hm).1; omega)]
    exact hr.old j hj

theorem caseNL_ok {n : NL} {A B : Prop} (h : caseNL n A B) : (n.v = 0 ∧ A) ∨ (0 < n.v ∧ B) := by
  cases n with
  | lit n =>
    simp only [caseNL] at h
    cases hn : Nat.beq n 0 with
    | true => rw [hn] at h; exact .inl ⟨Nat.eq_of_beq_eq_true hn, h⟩
    | false =>
      rw [hn] at h
      refine .inr ⟨?_, h⟩
      rcases Nat.eq_zero_or_pos n with e | e
      · rw [e] at hn; cases hn
      · exact e
  | sym n =>
    rcases Nat.eq_zero_or_pos n with e | e
    · exact .inl ⟨e, h.1 e⟩
    · exact .inr ⟨e, h.2 e⟩

theorem symAppend_ok {t t2 : TypeId} {s x : V} {s' x' : Value} (hr : SR P base H0 ν σ S F H) (h : symAppend P S t t2 s x K) (hs : VRel P σ ν s s') (hx : VRel P σ ν x x') : OpR P base H0 ν σ S F (appendA P H t s' x') K := by
  unfold symAppend at h
  split at h
  · rename_i e hu
    split at h
    rotate_left
    · exact h.elim
    rename_i e2 hu2
    split at h
    · rename_i inf hi
      cases hc : (Nat.beq e e2 && zsizeOK inf && Nat.ble inf.bytes 4096 && Nat.blt 0 inf.bytes && Nat.blt 0 inf.size) with
      | false => rw [hc] at h; exact h.elim
      | true =>
        rw [hc] at h
        simp only [cond_true] at h
        simp only [Bool.and_eq_true] at hc
        obtain ⟨⟨⟨⟨c1, c2⟩, c3⟩, c4⟩, c5⟩ := hc
        have := Nat.eq_of_beq_eq_true c1
        subst this
        have h0 := blt_lt c5
        have hst : sizeT P e = some inf.size := by unfold sizeT; rw [hi]; rfl
        unfold zsizeOK at c2
        cases hz : inf.zero with
        | none => rw [hz] at c2; cases c2
        | some z =>
        rw [hz] at c2
        have hu2' : P.underlying t2 = some (.slice e) ∨ P.underlying t2 = some .string := by
          unfold srcT at hu2
          split at hu2
          · cases hu2; left; assumption
          · right; assumption
          · cases hu2
        obtain ⟨k, new, row, h', hsrc, hrow, hkl⟩ := VRel.srcA hr hi h0 hu2' h hx
        clear h
        have hnl : row.length = k.v * inf.size := by rw [hrow.1, hkl]
        have happ : appendA P H t s' x' = appOnto P H e inf.size s' k.v row := by
          unfold appendA
          simp only [hu, hi, hz, c2, c3, c4, Bool.and_self, cond_true, hsrc]
        rw [happ]
        have hpos : Nat.blt 0 inf.size = true := c5
        have h'' := caseNL_ok h'
        clear h'
        rcases h'' with ⟨hk0, h⟩ | ⟨hk0, h⟩
        · -- nothing is appended
          have e0 : Nat.beq k.v 0 = true := by rw [hk0]; rfl
          have hsome : ∀ ad l c, appOnto P H e inf.size (.slice (some ⟨ad, l, none⟩) c 0) k.v row = appOnto P H e inf.size (.slice (some ⟨ad, l, none⟩) c 0) k.v row := fun _ _ _ => rfl
          have fin : ∀ s'', appOnto P H e inf.size s'' k.v row = some (s'', H) → s'' = s' → OpR P base H0 ν σ S F (appOnto P H e inf.size s' k.v row) K := fun s'' h1 h2 => by
            subst h2
            rw [h1]
            cases hq : isSlcV s with
            | false => rw [hq] at h; exact h.elim
            | true => rw [hq] at h; exact OpR.pure hr hs h
          have nilc : ∀ c, appOnto P H e inf.size (.slice none 0 c) k.v row = some (.slice none 0 c, H) := fun c => by simp only [appOnto, e0, Nat.beq_refl, cond_true]
          have somec : ∀ i o l c, appOnto P H e inf.size (.slice (some ⟨i, o, none⟩) l c) k.v row = some (.slice (some ⟨i, o, none⟩) l c, H) := fun i o l c => by simp only [appOnto, e0, cond_true]
          cases hq : isSlcV s with
          | false => rw [hq] at h; exact h.elim
          | true =>
            unfold isSlcV at hq
            split at hq
            · cases hs with | val _ => exact fin _ (nilc 0) rfl
            · cases hs with
              | slcU _ => exact fin _ (somec _ _ _ _) rfl
              | slc _ _ _ _ => exact fin _ (somec _ _ _ _) rfl
            · cases hs with
              | dat ht hrd =>
                rcases hrd.sliceInv ht with ⟨_, hcs⟩ | ⟨l, i, o, c, sz, cs', _, hcs, _⟩
                · cases hcs; exact fin _ (nilc 0) rfl
                · cases hcs; exact fin _ (somec _ _ _ _) rfl
            · cases hq
        · have e0 : Nat.beq k.v 0 = false := beqF (by omega)
          split at h
          · -- onto nil
            obtain ⟨hbig, h⟩ := h
            cases hs with
            | val _ =>
            have ha : appOnto P H e inf.size (.slice none 0 0) k.v row = some (.slice (some ⟨H.next, 0, none⟩) k.v UNK, H.alloc (.cells row e inf.size none false)) := by
              simp only [appOnto, e0, Nat.beq_refl, cond_true, cond_false, Nat.ble_eq_true_of_le hbig, appNew, newRowA_eq hrow.one]
            rw [ha]
            refine ⟨_, _, rfl, _, _, _, σ, h, hr.alloc (z := inf.size) (k := .arr e new) (fun ν' hν => .arr hst h0 hrow), ?_, xnewn _ _ _, .refl _, rfl, .alloc _ _⟩
            have := VRel.slcU (P := P) (σ := σ) (ν := fun b => if b = S.nx then some (H.next, inf.size) else ν b) (b := S.nx) (o := .lit 0) (n := k) (if_pos rfl)
            simpa [NL.v] using this
          · rename_i b o n c
            split at h
            · rename_i e' l hb
              cases he : Nat.beq e e' with
              | false => rw [he] at h; exact h.elim
              | true =>
                have := Nat.eq_of_beq_eq_true he
                subst this
                rw [he] at h
                simp only [cond_true] at h
                obtain ⟨hle, hbig, h⟩ := h
                obtain ⟨i, zz, hν, hB⟩ := hr.blk _ _ hb
                obtain ⟨cs, m, hg, hsz, hz0, hlen, hrd⟩ := hB
                have hzz : zz = inf.size := by rw [hst] at hsz; exact (Option.some.inj hsz).symm
                subst hzz
                have hR : RowR P σ e inf.size l cs := ⟨hlen, hrd⟩
                have hmul : (o.v + n.v) * inf.size ≤ l.length * inf.size := Nat.mul_le_mul_right _ hle
                rw [Nat.add_mul] at hmul
                have hold : RowR P σ e inf.size ((l.drop o.v).take n.v) ((cs.drop (o.v * inf.size)).take (n.v * inf.size)) := (hR.drop o.v).take n.v
                have hout := hold.append hrow
                have hb1 := Nat.beq_refl e
                have hb2 := Nat.beq_refl inf.size
                have hb3 := Nat.ble_eq_true_of_le hbig
                -- anew
                have out : ∀ (cap : Nat) (off : Nat), cap ≠ UNK → cap < n.v + k.v → (n.v ≠ 0 → off = o.v * inf.size) → off ≤ o.v * inf.size → K (.slc S.nx (.lit 0) (n.add k) none) (S.alloc (.arr e ((l.drop o.v).take n.v ++ new))) →
                    OpR P base H0 ν σ S F (appOnto P H e inf.size (.slice (some ⟨i, off, none⟩) n.v cap) k.v row) K := by
                  intro cap off hcu hgt hoff hoff2 h
                  have hrw : (cs.drop off).take (n.v * inf.size) = (cs.drop (o.v * inf.size)).take (n.v * inf.size) := by
                    rcases Nat.eq_zero_or_pos n.v with hn0 | hn0
                    · rw [hn0]; simp
                    · rw [hoff (by omega)]
                  have ha : appOnto P H e inf.size (.slice (some ⟨i, off, none⟩) n.v cap) k.v row = some (.slice (some ⟨H.next, 0, none⟩) (n.v + k.v) UNK, H.alloc (.cells ((cs.drop (o.v * inf.size)).take (n.v * inf.size) ++ row) e inf.size none false)) := by
                    have hcap : Nat.beq cap UNK = false := beqF hcu
                    have hcap2 : Nat.ble (n.v + k.v) cap = false := by
                      cases hq : Nat.ble (n.v + k.v) cap with
                      | false => rfl
                      | true => have := Nat.le_of_ble_eq_true hq; omega
                    simp only [appOnto, e0, cond_false, hg, hb1, hb2, hb3, Nat.ble_eq_true_of_le (show off + n.v * inf.size ≤ cs.length by omega), Bool.and_self, cond_true, hcap, hcap2, appNew, hrw, newRowA_eq hout.one]
                  rw [ha]
                  refine ⟨_, _, rfl, _, _, _, σ, h, hr.alloc (z := inf.size) (k := .arr e _) (fun ν' hν => .arr hst h0 hout), ?_, xnewn _ _ _, .refl _, rfl, .alloc _ _⟩
                  have := VRel.slcU (P := P) (σ := σ) (ν := fun b => if b = S.nx then some (H.next, inf.size) else ν b) (b := S.nx) (o := .lit 0) (n := n.add k) (if_pos rfl)
                  rw [NL.v_add] at this; simpa [show (NL.lit 0).v = 0 from rfl] using this
                split at h
                · -- it is not known how much room there is
                  cases hro : Nat.ble S.ro b with
                  | false => rw [hro] at h; exact h.elim
                  | true =>
                    rw [hro] at h
                    have hro' := Nat.le_of_ble_eq_true hro
                    cases hs with
                    | slcU hν' =>
                    rw [hν] at hν'; cases hν'
                    have hm := mate_cells hg
                    have hkn : ({ (H.kill m) with next := H.next } : AHeap) = H.kill m := by cases m <;> rfl
                    have ha : appOnto P H e inf.size (.slice (some ⟨i, o.v * inf.size, none⟩) n.v UNK) k.v row = some (.slice (some ⟨H.next, 0, none⟩) (n.v + k.v) UNK,
                        ((H.kill (H.mate i)).write i (some (.cells (cs.take (o.v * inf.size + n.v * inf.size)) e inf.size (some H.next) false))).alloc (.cells ((cs.drop (o.v * inf.size)).take (n.v * inf.size) ++ row) e inf.size (some i) false)) := by
                      simp only [appOnto, e0, cond_false, hg, hb1, hb2, hb3, Nat.ble_eq_true_of_le (show o.v * inf.size + n.v * inf.size ≤ cs.length by omega), Bool.and_self, cond_true, Nat.beq_refl UNK, appMate, forceNat_eq, hout.one, hpos, hm, hkn]
                    rw [ha]
                    refine ⟨_, _, rfl, _, _, _, σ, h, hr.push hb hν hro' (k' := .arr e _) (fun ν' hν => ⟨_, some i, rfl, hst, h0, hout.1, hout.2⟩), ?_, xnewn _ _ _, .refl _, rfl, .push _ _ _ hro'⟩
                    have := VRel.slcU (P := P) (σ := σ) (ν := fun b => if b = S.nx then some (H.next, inf.size) else ν b) (b := S.nx) (o := .lit 0) (n := n.add k) (if_pos rfl)
                    rw [NL.v_add] at this; simpa [show (NL.lit 0).v = 0 from rfl] using this
                · rename_i c0
                  cases hs with
                  | slc hν' hcu hnc ho =>
                  rename_i zq off
                  rw [hν] at hν'; cases hν'
                  have inn : n.v + k.v ≤ c0.v → (o.v + n.v + k.v ≤ l.length ∧ cond (Nat.ble S.ro b) (K (.slc b o (n.add k) (some c0)) (S.write b (some (.arr e (l.take (o.v + n.v) ++ new ++ l.drop (o.v + n.v + k.v)))))) False) → OpR P base H0 ν σ S F (appOnto P H e inf.size (.slice (some ⟨i, off, none⟩) n.v c0.v) k.v row) K := by
                    rintro hcap ⟨hroom, h⟩
                    cases hro : Nat.ble S.ro b with
                    | false => rw [hro] at h; exact h.elim
                    | true =>
                      rw [hro] at h
                      have hro' := Nat.le_of_ble_eq_true hro
                      have hoff : off = o.v * inf.size := by rcases ho with ho | ho; exact ho; omega
                      subst hoff
                      have hm2 : (o.v + n.v + k.v) * inf.size ≤ l.length * inf.size := Nat.mul_le_mul_right _ hroom
                      rw [Nat.add_mul, Nat.add_mul] at hm2
                      have hw := writeCells_eq (o := o.v * inf.size + n.v * inf.size) (vs := row) hg (by rw [hnl]; omega) hrow.one
                      have ha : appOnto P H e inf.size (.slice (some ⟨i, o.v * inf.size, none⟩) n.v c0.v) k.v row = some (.slice (some ⟨i, o.v * inf.size, none⟩) (n.v + k.v) c0.v, (H.kill (H.mate i)).write i (some (.cells (spliceL cs (o.v * inf.size + n.v * inf.size) row) e inf.size none false))) := by
                        have hcap' : Nat.beq c0.v UNK = false := beqF (by omega)
                        simp only [appOnto, e0, cond_false, hg, hb1, hb2, hb3, Nat.ble_eq_true_of_le (show o.v * inf.size + n.v * inf.size ≤ cs.length by omega), Bool.and_self, cond_true, hcap', Nat.ble_eq_true_of_le hcap, hw]
                      rw [ha]
                      have hnew : RowR P σ e inf.size (l.take (o.v + n.v) ++ new ++ l.drop (o.v + n.v + k.v)) (spliceL cs (o.v * inf.size + n.v * inf.size) row) := by
                        unfold spliceL
                        rw [hnl, show o.v * inf.size + n.v * inf.size + k.v * inf.size = (o.v + n.v + k.v) * inf.size by rw [Nat.add_mul, Nat.add_mul], show o.v * inf.size + n.v * inf.size = (o.v + n.v) * inf.size by rw [Nat.add_mul]]
                        exact ((hR.take _).append hrow).append (hR.drop _)
                      refine ⟨_, _, rfl, _, _, ν, σ, h, hr.write hb hν hro' (k' := .arr e _) (.arr hst h0 hnew), ?_, .refl _, .refl _, rfl, .write _ _ _ hro'⟩
                      have := VRel.slc (P := P) (σ := σ) (n := n.add k) (o := o) (c := c0) hν hcu (by rw [NL.v_add]; exact hcap) (.inl rfl)
                      simpa [NL.v_add] using this
                  have out' : c0.v < n.v + k.v → K (.slc S.nx (.lit 0) (n.add k) none) (S.alloc (.arr e ((l.drop o.v).take n.v ++ new))) → OpR P base H0 ν σ S F (appOnto P H e inf.size (.slice (some ⟨i, off, none⟩) n.v c0.v) k.v row) K := fun hlt h =>
                    out c0.v _ (by omega) hlt (fun hne => by rcases ho with ho | ho; exact ho; omega) (by rcases ho with ho | ho; omega; exact ho.2) h
                  split at h
                  · rename_i n1 k1 c1
                    cases hq : Nat.ble (n1 + k1) c1 with
                    | true => rw [hq] at h; exact inn (Nat.le_of_ble_eq_true hq) h
                    | false =>
                      rw [hq] at h
                      refine out' ?_ h
                      show c1 < n1 + k1
                      rcases Nat.lt_or_ge c1 (n1 + k1) with hl | hl
                      · exact hl
                      · rw [Nat.ble_eq_true_of_le hl] at hq; cases hq
                  · rcases Nat.lt_or_ge c0.v (n.v + k.v) with hl | hl
                    · exact out' hl (h.2 hl)
                    · exact inn hl (h.1 hl)
            · exact h.elim
          · exact h.elim
    · exact h.elim
  · exact h.elim
end
end Go.Ev

end

section

namespace Go.Ev
section
variable {P : Program} {base : Nat} {H0 : AHeap × Sig} {ν : Nu} {σ : Sig} {S : SS} {F : AFrame} {H : AHeap} {K : V → SS → Prop} {Kv : V → Prop}

theorem symIndexAddr_ok {t : TypeId} {x ix : V} {x' ix' : Value} (hr : SR P base H0 ν σ S F H) (h : symIndexAddr P S t x ix Kv) (hx : VRel P σ ν x x') (hi : VRel P σ ν ix ix') : VOK P σ ν H (valA (indexAddrA P t x' ix') H) Kv := by
  unfold symIndexAddr at h
  split at h
  · rename_i i n e hn hu
    obtain ⟨⟨k, rfl⟩, hnv⟩ := nlOf_ok hn hi
    split at h
    · rename_i b o l c
      split at h
      · rename_i e' ll hb
        cases he : Nat.beq e e' with
        | false => rw [he] at h; exact h.elim
        | true =>
          have := Nat.eq_of_beq_eq_true he
          subst this
          rw [he] at h
          obtain ⟨h0, h1, h⟩ := h
          obtain ⟨i', z, hν, hB⟩ := hr.blk _ _ hb
          obtain ⟨cs, m, hg, hsz, hz0, hlen, hrd⟩ := hB
          have ei : i = ((n.v : Nat) : Int) := by omega
          have hlt : n.v < l.v := by omega
          have key : ∀ off cap, off = o.v * z → VOK P σ ν H (valA (indexAddrA P t (.slice (some ⟨i', off, none⟩) l.v cap) (.int k i)) H) Kv := by
            intro off cap ho
            refine ⟨_, .pointer (some ⟨i', off + n.v * z, none⟩), ?_, h, ?_⟩
            · rw [ei]
              show valA (indexAddrA P t _ (.int k (.ofNat n.v))) H = _
              simp only [indexAddrA, hu, hsz, show Nat.blt n.v l.v = true from Nat.ble_eq_true_of_le hlt, cond_true, valA]
            · have := VRel.ept (P := P) (σ := σ) (ν := ν) (n := o.add n) hν
              rw [NL.v_add, Nat.add_mul] at this
              rw [ho]; exact this
          cases hx with
          | slcU hν' => rw [hν] at hν'; cases hν'; exact key _ _ rfl
          | slc hν' hc hnc ho =>
            rw [hν] at hν'; cases hν'
            exact key _ _ (by rcases ho with ho | ho; exact ho; omega)
      · exact h.elim
    · rename_i t' d
      cases hc : (Nat.beq t t' && posT P e) with
      | false => rw [hc] at h; exact h.elim
      | true =>
        rw [hc] at h
        simp only [Bool.and_eq_true] at hc
        have := Nat.eq_of_beq_eq_true hc.1
        subst this
        obtain ⟨h0, h1, h⟩ := h
        cases hx with
        | dat ht hrd =>
          rcases hrd.sliceInv hu with ⟨rfl, hcs⟩ | ⟨l, i', o, c, sz, cs', rfl, hcs, hsz, hσ, hle, hcc, hel⟩
          · simp [D.len, D.asList] at h1; omega
          · cases hcs
            have hlt : n.v < l.length := by simp only [D.len, D.asList] at h1; omega
            have hs0 : 0 < sz := by
              have := hc.2
              unfold posT at this
              rw [hsz] at this
              exact blt_lt this
            have ei : i = ((n.v : Nat) : Int) := by omega
            have hm : (n.v + 1) * sz ≤ l.length * sz := Nat.mul_le_mul_right _ hlt
            rw [Nat.succ_mul] at hm
            refine ⟨_, .pointer (some ⟨i', o + n.v * sz, none⟩), ?_, h, ?_⟩
            · rw [ei]
              show valA (indexAddrA P t _ (.int k (.ofNat n.v))) H = _
              simp only [indexAddrA, hu, hsz, show Nat.blt n.v l.length = true from Nat.ble_eq_true_of_le hlt, cond_true, valA]
            · have hel' := hel n.v (nthD l n.v) (by simp [nthD, hlt])
              exact .dpt hσ hsz hs0 (by omega) hel'
    · exact h.elim
  · exact h.elim

theorem symLen_ok {ats : Array TypeId} {type : TypeId} {cb : Array Bool} {x : V} {x' : Value} {t : TypeId} (ht : ats[0]? = some t) (h : symLen P t x Kv) (hx : VRel P σ ν x x') (H : AHeap) : VOK P σ ν H (lenA P ats type cb #[x'] H) Kv := by
  have e0 : (#[x'] : Array Value)[0]? = some x' := rfl
  have und : ∀ e, P.underlying t = some e → (Go.underlying t).val? P = some e := fun e hu => by
    unfold Go.underlying
    rw [val?_bind]
    have : (Go.program).val? P = some P := rfl
    rw [this]
    simp only [Option.bind_some, hu]; rfl
  have nil : isSliceT P t = true → lenA P ats type cb #[.slice none 0 0] H = some (.int .i64 0, H) := fun hs => by
    obtain ⟨e, hu⟩ : ∃ e, P.underlying t = some (.slice e) := by unfold isSliceT at hs; split at hs <;> simp_all
    have flb : (builtin .len ats type cb #[Value.slice none 0 0]).val? P = some (.value (.int .i64 0)) := by
      show (do pure (Next.value (← Builtin.len_ ats type #[Value.slice none 0 0])) : Sem Next).val? P = _
      have : (Builtin.len_ ats type #[Value.slice none 0 0]).val? P = some (.int .i64 0) := by
        unfold Builtin.len_
        simp only [ht]
        show (do match ← underlying t, Value.slice none 0 0 with | _, _ => _ : Sem Value).val? P = _
        rw [val?_bind, und _ hu]; rfl
      rw [val?_bind, this]; rfl
    unfold lenA
    simp only [ht]
    show flatB P .len ats type cb #[.slice none 0 0] H = _
    unfold flatB
    rw [flb]; rfl
  have str : isStrT P t = true → ∀ b : ByteArray, lenA P ats type cb #[.string b] H = some (.int .i64 b.size, H) := fun hs b => by
    have hu : P.underlying t = some .string := by unfold isStrT at hs; split at hs <;> simp_all
    have fls : (builtin .len ats type cb #[Value.string b]).val? P = some (.value (.int .i64 b.size)) := by
      show (do pure (Next.value (← Builtin.len_ ats type #[Value.string b])) : Sem Next).val? P = _
      have : (Builtin.len_ ats type #[Value.string b]).val? P = some (.int .i64 b.size) := by
        unfold Builtin.len_
        simp only [ht]
        show (do match ← underlying t, Value.string b with | _, _ => _ : Sem Value).val? P = _
        rw [val?_bind, und _ hu]; rfl
      rw [val?_bind, this]; rfl
    unfold lenA
    simp only [ht]
    show flatB P .len ats type cb #[.string b] H = _
    unfold flatB
    rw [fls]; rfl
  have some_ : ∀ i o n c, isSliceT P t = true → lenA P ats type cb #[.slice (some ⟨i, o, none⟩) n c] H = some (.int .i64 n, H) := fun i o n c hs => by
    obtain ⟨e, hu⟩ : ∃ e, P.underlying t = some (.slice e) := by unfold isSliceT at hs; split at hs <;> simp_all
    unfold lenA
    simp only [ht]
    show (match P.underlying t with | some (.slice _) => some (Value.int .i64 n, H) | _ => none) = _
    rw [hu]
  unfold symLen at h
  split at h
  · rename_i b o n c
    cases hs : isSliceT P t with
    | false => rw [hs] at h; exact h.elim
    | true =>
      rw [hs] at h
      have hl : ∃ i off cap, x' = .slice (some ⟨i, off, none⟩) n.v cap := by cases hx with | slcU _ => exact ⟨_, _, _, rfl⟩ | slc _ _ _ _ => exact ⟨_, _, _, rfl⟩
      obtain ⟨i, off, cap, rfl⟩ := hl
      simp only [cond_true] at h
      split at h
      · exact ⟨_, _, some_ _ _ _ _ hs, h, .val rfl⟩
      · exact ⟨_, _, some_ _ _ _ _ hs, h, .int⟩
  · rename_i t' d
    cases hs : isSliceT P t with
    | false => rw [hs] at h; exact h.elim
    | true =>
      rw [hs] at h
      cases hx with
      | dat htt hrd =>
        rcases hrd.sliceInv htt with ⟨rfl, hcs⟩ | ⟨l, i', o, c, sz, cs', rfl, hcs, _⟩
        · cases hcs; exact ⟨.int .i64 ((D.nil.len : Nat) : Int), _, nil hs, h, .int⟩
        · cases hcs; exact ⟨_, _, some_ _ _ _ _ hs, h, .int⟩
  · cases hs : isSliceT P t with
    | false => rw [hs] at h; exact h.elim
    | true =>
      rw [hs] at h
      cases hx with
      | val _ => exact ⟨_, _, nil hs, h, .val rfl⟩
  · cases hs : isStrT P t with
    | false => rw [hs] at h; exact h.elim
    | true =>
      rw [hs] at h
      cases hx with
      | str => exact ⟨_, _, str hs _, h, .int⟩
  · cases hs : isStrT P t with
    | false => rw [hs] at h; exact h.elim
    | true =>
      rw [hs] at h
      cases hx with
      | val _ => exact ⟨_, _, str hs _, h, .val rfl⟩
  · exact h.elim

theorem symMinMax_ok {ats : Array TypeId} {type : TypeId} {cb : Array Bool} {mx : Bool} {args : List V} {args' : List Value} (h : symMinMax mx args Kv) (hl : LRel P σ ν args args') (H : AHeap) : VOK P σ ν H (flatB P (cond mx .max .min) ats type cb ⟨args'⟩ H) Kv := by
  unfold symMinMax at h
  split at h
  · rename_i a b
    obtain ⟨a', r, rfl, ha, hl⟩ := hl.cons_inv
    obtain ⟨b', r, rfl, hb, hl⟩ := hl.cons_inv
    rw [hl.nil_inv]
    split at h
    · rename_i k x k' y hx hy
      rw [intOf_ok hx ha, intOf_ok hy hb]
      cases hk : (k == k') with
      | false => rw [hk] at h; exact h.elim
      | true =>
        have := eq_of_beq hk
        subst this
        rw [hk] at h
        cases mx with
        | true =>
          refine ⟨_, .int k (if y > x then y else x), ?_, h, ?_⟩
          · show flatB P .max ats type cb _ H = _
            unfold flatB
            have hv : (builtin .max ats type cb ⟨[.int k x, .int k y]⟩).val? P = some (.value (.int k (if y > x then y else x))) := rfl
            rw [hv]; rfl
          · have : (if y > x then y else x) = max x y := by split <;> omega
            rw [this]; exact .int
        | false =>
          refine ⟨_, .int k (if y < x then y else x), ?_, h, ?_⟩
          · show flatB P .min ats type cb _ H = _
            unfold flatB
            have hv : (builtin .min ats type cb ⟨[.int k x, .int k y]⟩).val? P = some (.value (.int k (if y < x then y else x))) := rfl
            rw [hv]; rfl
          · have : (if y < x then y else x) = min x y := by split <;> omega
            rw [this]; exact .int
    · exact h.elim
  · exact h.elim

/-! ### A struct that is written out -/
theorem places_ok : ∀ (fs : List Field) (ps : List (Nat × Nat)), placesOf P fs = some ps → (fs.mapM fun f => (do pure (f.offset, ← sizeOf f.type) : Sem (Nat × Nat))).val? P = some ps
  | [], ps, h => by simp only [placesOf, Option.some.injEq] at h; subst h; rfl
  | f :: fs, ps, h => by
    simp only [placesOf] at h
    split at h
    · rename_i s ps' hs hps
      simp only [Option.some.injEq] at h
      subst h
      rw [List.mapM_cons, val?_bind]
      have hsz : (sizeOf f.type).val? P = some s := by
        unfold sizeT at hs
        unfold sizeOf typeInfo
        rw [val?_bind, val?_bind]
        have : (Go.program).val? P = some P := rfl
        rw [this]
        cases hi : P.info? f.type with
        | none => rw [hi] at hs; cases hs
        | some inf =>
          rw [hi] at hs
          simp only [Option.map_some, Option.some.injEq] at hs
          subst hs
          simp only [Option.bind_some, hi]
          rfl
      have h1 : (do pure (f.offset, ← sizeOf f.type) : Sem (Nat × Nat)).val? P = some (f.offset, s) := by rw [val?_bind, hsz]; rfl
      rw [h1]
      simp only [Option.bind_some]
      rw [val?_bind, places_ok fs ps' hps]
      rfl
    · cases h

theorem fill_places {places : List (Nat × Nat)} : ∀ (ps : List (Nat × V)) (ps' : List (Nat × Value)) (cs r : List V) (cs' : Array Value), fillV places ps cs = some r → ps.map (·.1) = ps'.map (·.1) → LRel P σ ν (ps.map (·.2)) (ps'.map (·.2)) → LRel P σ ν cs cs'.toList →
    ∃ r', Instr.fill (fun i => places[i]?) cs' ps' = some r' ∧ LRel P σ ν r r'.toList
  | [], ps', cs, r, cs', h, hm, _, hl => by
    simp only [fillV, Option.some.injEq] at h
    subst h
    have : ps' = [] := by cases ps' with | nil => rfl | cons a b => simp at hm
    subst this
    exact ⟨cs', rfl, hl⟩
  | (i, v) :: ps, [], cs, r, cs', h, hm, _, _ => by simp at hm
  | (i, v) :: ps, (i', v') :: ps', cs, r, cs', h, hm, hv, hl => by
    simp only [List.map_cons, List.cons.injEq] at hm
    obtain ⟨rfl, hm⟩ := hm
    simp only [List.map_cons] at hv
    obtain ⟨u, q, he, hv1, hv2⟩ := hv.cons_inv
    cases he
    simp only [fillV] at h
    cases hp : places[i]? with
    | none => rw [hp] at h; cases h
    | some x =>
      obtain ⟨o, s⟩ := x
      rw [hp] at h
      simp only at h
      cases hc : (Nat.beq v.cells.length s && Nat.ble (o + s) cs.length) with
      | false => rw [hc] at h; cases h
      | true =>
        rw [hc] at h
        simp only [cond_true] at h
        simp only [Bool.and_eq_true] at hc
        have c1 := Nat.eq_of_beq_eq_true hc.1
        have c2 := Nat.le_of_ble_eq_true hc.2
        have hvc := hv1.cells
        have hvl : v'.cells.toList.length = s := by rw [← hvc.1, c1]
        have hvs : v'.cells.size = s := by rw [← hvl]; simp
        have hcl : cs'.size = cs.length := by rw [← Array.length_toList, hl.1]
        have hfold := foldSet o v'.cells.toList 0 cs' (by rw [hvl, hcl]; omega)
        simp only [Nat.add_zero] at hfold
        simp only [Instr.fill, hp]
        rw [if_neg (by rw [hvs, hcl]; simp; omega), zip_fold_eq]
        refine fill_places ps ps' _ r _ h hm hv2 ?_
        rw [hfold, ← hvc.1]
        exact ((hl.take o).append hvc).append (hl.drop _)

theorem symBuild_ok {t : TypeId} {parts : Array (Nat × Operand)} {ps : List (Nat × V)} (h : symBuild P t ps Kv) (hm : ps.map (·.1) = parts.toList.map (·.1)) (hl : LRel P σ ν (ps.map (·.2)) (parts.toList.map fun x => aeval F x.2)) (H : AHeap) :
    VOK P σ ν H (cond (zflat P t) (valA ((Instr.build t (parts.map fun (i, x) => (i, aeval F x))).val? P) H) none) Kv := by
  unfold symBuild at h
  split at h
  · rename_i fs z hu hz
    split at h
    · rename_i places hpl
      cases hzf : Ev.flat z with
      | false => rw [hzf] at h; exact h.elim
      | true =>
        rw [hzf] at h
        simp only [cond_true] at h
        have hzf' : zflat P t = true := by unfold zflat; rw [hz]; exact hzf
        split at h
        · rename_i cs hf
          obtain ⟨r', h1, h2⟩ := fill_places (P := P) (σ := σ) (ν := ν) ps (parts.toList.map fun x => (x.1, aeval F x.2)) _ cs z.cells hf (by rw [hm, List.map_map]; rfl) (by rw [List.map_map]; exact hl) (LRel.vals (flat_cells' hzf))
          refine ⟨.agg cs, .agg r', ?_, h, ?_⟩
          · rw [hzf']
            simp only [cond_true]
            have hb : (Instr.build t (parts.map fun (i, x) => (i, aeval F x))).val? P = some (.agg r') := by
              unfold Instr.build
              have hzv : (zeroValue t).val? P = some z := by
                unfold zeroT at hz
                unfold zeroValue typeInfo
                rw [val?_bind, val?_bind]
                have : (Go.program).val? P = some P := rfl
                rw [this]
                cases hi : P.info? t with
                | none => rw [hi] at hz; cases hz
                | some inf =>
                  rw [hi] at hz
                  simp only [Option.bind_some] at hz
                  simp only [Option.bind_some, hi]
                  rw [show ((pure inf : Sem TypeInfo).val? P) = some inf from rfl]
                  simp only [Option.bind_some, hz]; rfl
              have huv : (underlying t).val? P = some (.struct fs) := by
                unfold Go.underlying
                rw [val?_bind]
                have : (Go.program).val? P = some P := rfl
                rw [this]
                simp only [Option.bind_some, hu]; rfl
              rw [val?_bind, hzv]
              simp only [Option.bind_some]
              rw [val?_bind, huv]
              simp only [Option.bind_some]
              have hpm : (fs.mapM fun f => (do pure (f.offset, ← sizeOf f.type) : Sem (Nat × Nat))).val? P = some places.toArray := by
                have e : fs = fs.toList.toArray := by simp
                rw [e, List.mapM_toArray]
                have := places_ok fs.toList places hpl
                have hm' : ((List.toArray <$> (fs.toList.mapM fun f => (do pure (f.offset, ← sizeOf f.type) : Sem (Nat × Nat)))) : Sem (Array (Nat × Nat))).val? P = some places.toArray := by
                  have hmb : ∀ {α β : Type} (f : α → β) (x : Sem α), (f <$> x) = (x >>= fun a => pure (f a)) := fun f x => rfl
                  rw [hmb, val?_bind, this]; rfl
                exact hm'
              rw [val?_bind, hpm]
              simp only [Option.bind_some]
              have e2 : (parts.map fun x => match x with | (i, x) => (i, aeval F x)).toList = parts.toList.map fun x => (x.1, aeval F x.2) := by simp
              have e3 : (fun (x : Nat) => places.toArray[x]?) = fun (i : Nat) => places[i]? := by funext i; simp
              rw [e2, e3, h1]
              rfl
            rw [hb]; rfl
          · exact .agg (cs' := r'.toList) h2.1 h2.2
        · exact h.elim
    · exact h.elim
  · exact h.elim
end
end Go.Ev

end

section

namespace Go.Ev
section
variable {P : Program} {base : Nat} {H0 : AHeap × Sig} {ν : Nu} {σ : Sig} {S : SS} {F : AFrame} {H : AHeap} {K : V → SS → Prop} {Kv : V → Prop}

theorem bnd_ok {x : Option V} {x' : Option Value} {d y : Nat} {i : Int} {n N : NL} {D : Int} (hd : D = d ∧ N.v = d) (h : bnd x (D, N) = some (i, n)) (hx : ORel P σ ν x x') (h0 : 0 ≤ i) (hy : i ≤ y) :
    boundA x' y d = some n.v ∧ i = n.v ∧ (x'.all Ev.flat) = true ∧ ((x' = none ∧ n.v = d) ∨ ∃ k, x' = some (.int k n.v)) := by
  cases x with
  | none =>
    cases x' with
    | some _ => exact hx.elim
    | none =>
      simp only [bnd, Option.some.injEq, Prod.mk.injEq] at h
      obtain ⟨rfl, rfl⟩ := h
      exact ⟨by simp only [boundA, hd.2], by rw [hd.1, hd.2], rfl, .inl ⟨rfl, hd.2⟩⟩
  | some v =>
    cases x' with
    | none => exact hx.elim
    | some v' =>
      obtain ⟨⟨k, rfl⟩, hn⟩ := nlOf_ok h hx
      have e : i = ((n.v : Nat) : Int) := by omega
      refine ⟨?_, e, rfl, .inr ⟨k, by rw [e]⟩⟩
      rw [e]
      show (match some (Value.int k (.ofNat n.v)) with | none => some d | some (.int _ (.ofNat n)) => cond (Nat.ble n y) (some n) none | _ => none) = _
      simp only [Nat.ble_eq_true_of_le (show n.v ≤ y by omega), cond_true]

theorem und_ok {t : TypeId} {e : TypeDesc} (hu : P.underlying t = some e) : (Go.underlying t).val? P = some e := by
  unfold Go.underlying
  rw [val?_bind]
  have : (Go.program).val? P = some P := rfl
  rw [this]
  simp only [Option.bind_some, hu]; rfl

theorem bounds_val {b : Bool} {len y l h : Nat} {lo hi : Option Value} (hl : (lo = none ∧ l = 0) ∨ ∃ k, lo = some (.int k (l : Nat))) (hh : (hi = none ∧ h = len) ∨ ∃ k, hi = some (.int k (h : Nat))) (h1 : l ≤ h) (h2 : h ≤ y) :
    (Instr.sliceBounds b len y lo hi none).val? P = some (l, h, y) := by
  have sb : ∀ k n y c, n ≤ y → (Instr.sliceBound (.int k (n : Nat)) y c).val? P = some n := fun k n y c hle => by
    unfold Instr.sliceBound
    rw [val?_bind]
    have : (asIntOf (.int k (n : Nat))).val? P = some (k, (n : Int)) := rfl
    rw [this]
    simp only [Option.bind_some]
    rw [if_pos ⟨by omega, by omega⟩]
    rfl
  unfold Instr.sliceBounds
  rw [val?_bind, show ((pure y : Sem Nat).val? P) = some y from rfl, Option.bind_some]
  rcases hh with ⟨rfl, rfl⟩ | ⟨k, rfl⟩ <;> rcases hl with ⟨rfl, rfl⟩ | ⟨k', rfl⟩
  · rfl
  · dsimp only
    rw [val?_bind, show ((pure h : Sem Nat).val? P) = some h from rfl, Option.bind_some, val?_bind, sb k' l h _ h1]; rfl
  · dsimp only
    rw [val?_bind, sb k h y _ h2, Option.bind_some, val?_bind, show ((pure 0 : Sem Nat).val? P) = some 0 from rfl]; rfl
  · dsimp only
    rw [val?_bind, sb k h y _ h2, Option.bind_some, val?_bind, sb k' l h _ h1]; rfl

theorem sizeOf_val {e : TypeId} {s : Nat} (hs : sizeT P e = some s) : (sizeOf e).val? P = some s := by
  unfold sizeT at hs
  unfold sizeOf typeInfo
  rw [val?_bind, val?_bind]
  have : (Go.program).val? P = some P := rfl
  rw [this]
  cases hi : P.info? e with
  | none => rw [hi] at hs; cases hs
  | some inf =>
    rw [hi] at hs
    simp only [Option.map_some, Option.some.injEq] at hs
    subst hs
    simp only [Option.bind_some, hi]
    rfl

theorem NL.v_capSub {c l : NL} : ∃ c', capSub (some c) l = some c' ∧ c'.v = c.v - l.v := ⟨_, rfl, NL.v_sub _ _⟩

theorem symSlice_ok {t : TypeId} {x : V} {x' : Value} {lo hi mx : Option V} {lo' hi' mx' : Option Value} (hr : SR P base H0 ν σ S F H) (h : symSlice P S t x lo hi mx Kv) (hx : VRel P σ ν x x') (hlo : ORel P σ ν lo lo') (hhi : ORel P σ ν hi hi') (hmx : ORel P σ ν mx mx') :
    VOK P σ ν H (sliceO P t x' lo' hi' mx' H) Kv := by
  unfold symSlice at h
  split at h
  · rename_i e hu
    have hm0 : mx' = none := by cases mx' with | none => rfl | some _ => exact hmx.elim
    subst hm0
    split at h
    · rename_i b o n c
      split at h
      · rename_i l ln hh hn e' L hbl hbh hb
        cases he : Nat.beq e e' with
        | false => rw [he] at h; exact h.elim
        | true =>
          have := Nat.eq_of_beq_eq_true he
          subst this
          rw [he] at h
          obtain ⟨q1, q2, q3, h⟩ := h
          obtain ⟨i, z, hν, hB⟩ := hr.blk _ _ hb
          obtain ⟨cs, m, hg, hsz, hz0, hlen, hrd⟩ := hB
          have hesz : eszIs H i z = true := by unfold eszIs; rw [hg]; exact Nat.beq_refl z
          cases hx with
          | slcU hν' =>
            rw [hν] at hν'; cases hν'
            simp only [capLe] at q3
            obtain ⟨b1, b2, _, _⟩ := bnd_ok (y := n.v) (d := n.v) ⟨rfl, rfl⟩ hbh hhi (by omega) q3
            obtain ⟨a1, a2, _, _⟩ := bnd_ok (y := hn.v) (d := 0) ⟨rfl, rfl⟩ hbl hlo q1 (by omega)
            refine ⟨_, .slice (some ⟨i, o.v * z + ln.v * z, none⟩) (hn.v - ln.v) UNK, ?_, h, ?_⟩
            · unfold sliceO sliceA
              simp only [hu, hsz, hesz, cond_true, Nat.beq_refl UNK, b1, a1]
            · have := VRel.slcU (P := P) (σ := σ) (ν := ν) (o := o.add ln) (n := hn.sub ln) hν
              rw [NL.v_add, NL.v_sub, Nat.add_mul] at this
              exact this
          | slc hν' hcu hnc ho =>
            rename_i zq off c0
            rw [hν] at hν'; cases hν'
            simp only [capLe] at q3
            obtain ⟨b1, b2, _, _⟩ := bnd_ok (y := c0.v) (d := n.v) ⟨rfl, rfl⟩ hbh hhi (by omega) q3
            obtain ⟨a1, a2, _, _⟩ := bnd_ok (y := hn.v) (d := 0) ⟨rfl, rfl⟩ hbl hlo q1 (by omega)
            have hcu' : Nat.beq c0.v UNK = false := beqF (by omega)
            have hcu2 : Nat.blt c0.v UNK = true := Nat.ble_eq_true_of_le hcu
            refine ⟨_, .slice (some ⟨i, cond (Nat.beq c0.v ln.v) off (off + ln.v * z), none⟩) (hn.v - ln.v) (c0.v - ln.v), ?_, h, ?_⟩
            · unfold sliceO sliceA
              simp only [hu, hsz, hesz, cond_true, hcu', hcu2, cond_false]
              have : boundA none c0.v c0.v = some c0.v := rfl
              simp only [this, b1, a1]
            · have key : cond (Nat.beq c0.v ln.v) off (off + ln.v * z) = (o.v + ln.v) * z ∨ (c0.v - ln.v = 0 ∧ cond (Nat.beq c0.v ln.v) off (off + ln.v * z) ≤ (o.v + ln.v) * z) := by
                rw [Nat.add_mul]
                cases hcl : Nat.beq c0.v ln.v with
                | true =>
                  have := Nat.eq_of_beq_eq_true hcl
                  simp only [cond_true]
                  rcases ho with ho | ho
                  · exact .inr ⟨by omega, by omega⟩
                  · exact .inr ⟨by omega, by omega⟩
                | false =>
                  simp only [cond_false]
                  rcases ho with ho | ho
                  · exact .inl (by omega)
                  · have : c0.v ≠ ln.v := fun e => by rw [e, Nat.beq_refl] at hcl; cases hcl
                    omega
              have := VRel.slc (P := P) (σ := σ) (ν := ν) (o := o.add ln) (n := hn.sub ln) (c := c0.sub ln) (off := cond (Nat.beq c0.v ln.v) off (off + ln.v * z)) hν (by rw [NL.v_sub]; omega) (by rw [NL.v_sub, NL.v_sub]; omega) (by rw [NL.v_add, NL.v_sub]; exact key)
              rw [NL.v_sub, NL.v_sub] at this
              exact this
      · exact h.elim
    · rename_i t' d
      split at h
      · rename_i l ln hh hn hbl hbh
        cases ht : (Nat.beq t t' && posT P e) with
        | false => rw [ht] at h; exact h.elim
        | true =>
          rw [ht] at h
          simp only [Bool.and_eq_true] at ht
          have := Nat.eq_of_beq_eq_true ht.1
          subst this
          obtain ⟨q1, q2, q3, h⟩ := h
          obtain ⟨se, hse⟩ : ∃ s, sizeT P e = some s := by have := ht.2; unfold posT at this; split at this; exact ⟨_, by assumption⟩; cases this
          cases hx with
          | dat htt hrd =>
            have hst : sizeT P t = some 1 := hrd.size
            rcases hrd.sliceInv hu with ⟨rfl, hcs⟩ | ⟨L, i, o, c, sz, cs', rfl, hcs, hsz, hσ, hle, hcc, hel⟩
            · cases hcs
              simp only [len_nil] at q3
              obtain ⟨b1, b2, b3, b4⟩ := bnd_ok (y := 0) (d := 0) ⟨rfl, rfl⟩ hbh hhi (by omega) (by omega)
              obtain ⟨a1, a2, a3, a4⟩ := bnd_ok (y := hn.v) (d := 0) ⟨rfl, rfl⟩ hbl hlo q1 (by omega)
              have hn0 : hn.v = 0 := by omega
              have ln0 : ln.v = 0 := by omega
              refine ⟨_, .slice none 0 0, ?_, h, .dat hu (.nil hu hst)⟩
              have hA : sliceA P H t (.slice none 0 0) lo' hi' none = none := by unfold sliceA; simp only [hu]
              have hv : (Instr.sliceAt t (.slice none 0 0) lo' hi' none).val? P = some (.slice none 0 0) := by
                unfold Instr.sliceAt
                rw [val?_bind, und_ok hu]
                simp only [Option.bind_some]
                unfold Instr.slice
                rw [val?_bind, und_ok hu]
                simp only [Option.bind_some]
                rw [val?_bind, bounds_val (P := P) (l := ln.v) (h := hn.v) (by rw [ln0] at a4 ⊢; exact a4) (by rw [hn0] at b4 ⊢; exact b4) (by omega) (by omega)]
                simp only [Option.bind_some]
                rw [val?_bind, sizeOf_val hse]
                simp only [Option.bind_some, hn0, ln0]
                rfl
              have fl : Ev.flat (.slice none 0 0) = true := rfl
              unfold sliceO
              simp only [hA, fl, a3, b3, Bool.and_self, Option.all_none, cond_true, flatVal, hv]
            · cases hcs
              simp only [len_list] at q3
              obtain ⟨_, e1, m, ro, hg⟩ := hr.sig _ _ hσ
              have hesz : eszIs H i sz = true := by unfold eszIs; rw [hg]; exact Nat.beq_refl sz
              have hb0 := (bnd_ok (P := P) (σ := σ) (ν := ν) (y := L.length) (d := L.length) ⟨rfl, rfl⟩ hbh hhi (by omega) q3).2.1
              have ha0 := (bnd_ok (P := P) (σ := σ) (ν := ν) (y := hn.v) (d := 0) ⟨rfl, rfl⟩ hbl hlo q1 (by omega)).2.1
              have hmul : (ln.v + (hn.v - ln.v)) * sz ≤ L.length * sz := Nat.mul_le_mul_right _ (by omega)
              rw [Nat.add_mul] at hmul
              have read : ∀ off c', (off = o + ln.v * sz ∨ (hn.v - ln.v = 0 ∧ off ≤ cs'.length)) → (c' = UNK ∨ (hn.v - ln.v ≤ c' ∧ c' < UNK)) → VRel P σ ν (.dat t (.list ((L.drop ln.v).take (hn.v - ln.v)))) (.slice (some ⟨i, off, none⟩) (hn.v - ln.v) c') := by
                intro off c' ho hc'
                have hll : ((L.drop ln.v).take (hn.v - ln.v)).length = hn.v - ln.v := by rw [List.length_take, List.length_drop]; omega
                have := ReadsA.list (P := P) (σ := σ) (t := t) (l := (L.drop ln.v).take (hn.v - ln.v)) (o := off) (c := c') hu hst hsz hσ (by rw [hll]; rcases ho with ho | ho; rw [ho]; omega; rw [ho.1, Nat.zero_mul]; omega) (by rw [hll]; exact hc') (fun j d hj => by
                  have hjl : j < hn.v - ln.v := by have := (List.getElem?_eq_some_iff.1 hj).1; omega
                  rw [List.getElem?_take, if_pos hjl, List.getElem?_drop] at hj
                  rcases ho with ho | ho
                  · have := hel _ _ hj
                    rw [ho, show o + ln.v * sz + j * sz = o + (ln.v + j) * sz by rw [Nat.add_mul]; omega]
                    exact this
                  · omega)
                rw [hll] at this
                exact .dat hu this
              have hsub : (D.list L).sub ln.v (hn.sub ln).v = .list ((L.drop ln.v).take (hn.v - ln.v)) := by rw [NL.v_sub]; rfl
              rw [hsub] at h
              obtain ⟨a1, a2, _, _⟩ := bnd_ok (y := hn.v) (d := 0) ⟨rfl, rfl⟩ hbl hlo q1 (by have := (bnd_ok (P := P) (σ := σ) (ν := ν) (y := L.length) (d := L.length) ⟨rfl, rfl⟩ hbh hhi (by omega) q3).2.1; omega)
              rcases hcc with rfl | ⟨hc1, hc2⟩
              · obtain ⟨b1, b2, _, _⟩ := bnd_ok (y := L.length) (d := L.length) ⟨rfl, rfl⟩ hbh hhi (by omega) q3
                refine ⟨_, .slice (some ⟨i, o + ln.v * sz, none⟩) (hn.v - ln.v) UNK, ?_, h, read _ _ (.inl rfl) (.inl rfl)⟩
                unfold sliceO sliceA
                simp only [hu, hsz, hesz, cond_true, Nat.beq_refl UNK, b1, a1]
              · obtain ⟨b1, b2, _, _⟩ := bnd_ok (y := c) (d := L.length) ⟨rfl, rfl⟩ hbh hhi (by omega) (by omega)
                have hcu' : Nat.beq c UNK = false := beqF (by omega)
                have hcu2 : Nat.blt c UNK = true := Nat.ble_eq_true_of_le hc2
                refine ⟨_, .slice (some ⟨i, cond (Nat.beq c ln.v) o (o + ln.v * sz), none⟩) (hn.v - ln.v) (c - ln.v), ?_, h, read _ _ ?_ (.inr ⟨by omega, by omega⟩)⟩
                · unfold sliceO sliceA
                  simp only [hu, hsz, hesz, cond_true, hcu', hcu2, cond_false]
                  have : boundA none c c = some c := rfl
                  simp only [this, b1, a1]
                · cases hcl : Nat.beq c ln.v with
                  | true =>
                    have := Nat.eq_of_beq_eq_true hcl
                    refine .inr ⟨by omega, ?_⟩
                    simp only [cond_true]; omega
                  | false => exact .inl rfl
      · exact h.elim
    · exact h.elim
  · rename_i hu
    have hm0 : mx' = none := by cases mx' with | none => rfl | some _ => exact hmx.elim
    subst hm0
    split at h
    · rename_i s hs
      split at h
      · rename_i l ln hh hn hbl hbh
        obtain ⟨q1, q2, q3, h⟩ := h
        rw [strOf_ok hs hx]
        obtain ⟨b1, b2, b3, b4⟩ := bnd_ok (y := s.length) (d := s.length) ⟨rfl, rfl⟩ hbh hhi (by omega) q3
        obtain ⟨a1, a2, a3, a4⟩ := bnd_ok (y := hn.v) (d := 0) ⟨rfl, rfl⟩ hbl hlo q1 (by omega)
        have hA : sliceA P H t (.string ⟨⟨s⟩⟩) lo' hi' none = none := by unfold sliceA; simp only [hu]
        have hv : (Instr.sliceAt t (.string ⟨⟨s⟩⟩) lo' hi' none).val? P = some (.string ⟨⟨(s.drop ln.v).take (hn.v - ln.v)⟩⟩) := by
          unfold Instr.sliceAt
          rw [val?_bind, und_ok hu]
          simp only [Option.bind_some]
          unfold Instr.slice
          rw [val?_bind, und_ok hu]
          simp only [Option.bind_some]
          have hbv := bounds_val (P := P) (b := false) (len := (⟨⟨s⟩⟩ : ByteArray).size) (y := (⟨⟨s⟩⟩ : ByteArray).size) (l := ln.v) (h := hn.v) a4 b4 (by omega) (by show hn.v ≤ s.length; omega)
          have hext : (⟨⟨s⟩⟩ : ByteArray).extract ln.v hn.v = ⟨⟨(s.drop ln.v).take (hn.v - ln.v)⟩⟩ := by
            apply ByteArray.ext
            simp [List.extract_eq_take_drop]
          simp only [Option.isSome_none, Bool.false_eq_true, if_false]
          rw [val?_bind, hbv]
          simp only [Option.bind_some, hext]
          rfl
        have fl : ∀ b, Ev.flat (.string b) = true := fun _ => rfl
        refine ⟨_, .string ⟨⟨(s.drop ln.v).take (hn.v - ln.v)⟩⟩, ?_, h, by rw [NL.v_sub]; exact .str⟩
        unfold sliceO
        simp only [hA, fl, a3, b3, Bool.and_self, Option.all_none, cond_true, flatVal, hv]
      · exact h.elim
    · exact h.elim
  · exact h.elim
end
end Go.Ev

end
