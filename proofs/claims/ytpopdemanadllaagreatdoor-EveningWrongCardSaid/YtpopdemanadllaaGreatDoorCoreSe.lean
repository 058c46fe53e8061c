/-
  Part of the engine that the claim is proved with: it states nothing of the document by itself.
-/
import Derived.Test.YtpopdemanadllaaGreatDoorCoreG3

namespace Go.Ev
inductive D where
  | int (n : Int)
  | bool (p : Prop)
  | str (s : List UInt8)
  | nil
  | list (l : List D)
  | sct (fs : List D)
  | fn (g : FuncId) (ts : List TypeId) (ds : List D)
def D.asInt : D → Int | .int n => n | _ => 0
def D.asProp : D → Prop | .bool p => p | _ => False
def D.asStr : D → List UInt8 | .str s => s | _ => []
def D.asList : D → List D | .list l => l | _ => []
def D.isNil : D → Prop | .nil => True | _ => False
def nthD (l : List D) (i : Nat) : D := (l[i]?).getD .nil
def D.fld (d : D) (j : Nat) : D := match d with | .sct fs => nthD fs j | _ => .nil
def D.isFn (d : D) : Prop := match d with | .fn _ _ _ => True | _ => False
def D.len (d : D) : Nat := d.asList.length
theorem asInt_int (n : Int) : (D.int n).asInt = n := rfl
theorem asList_list (l : List D) : (D.list l).asList = l := rfl
theorem len_list (l : List D) : (D.list l).len = l.length := rfl
theorem len_nil : D.nil.len = 0 := rfl
def D.sub (d : D) (o n : Nat) : D := match d with | .list l => .list ((l.drop o).take n) | d => d
inductive NL where
  | lit (n : Nat)
  | sym (n : Nat)
def NL.v : NL → Nat | .lit n => n | .sym n => n
def NL.add : NL → NL → NL
  | .lit a, .lit b => .lit (a + b)
  | .lit a, .sym b => cond (Nat.beq a 0) (.sym b) (.sym (a + b))
  | a, b => .sym (a.v + b.v)
def NL.mulK : NL → Nat → NL
  | .lit n, s => .lit (n * s)
  | .sym n, s => .sym (n * s)
def NL.sub : NL → NL → NL
  | .lit a, .lit b => .lit (a - b)
  | a, .lit b => cond (Nat.beq b 0) a (.sym (a.v - b))
  | a, b => .sym (a.v - b.v)
inductive V where
  | val (v : Value)
  | int (k : IntKind) (n : Int)
  | prop (p : Prop)
  | str (s : List UInt8)
  | agg (cs : List V)
  | tup (cs : List V)
  | ptr (b o : Nat)
  | ept (b : Nat) (i : NL)
  | slc (b : Nat) (o n : NL) (c : Option NL)
  | epf (b : Nat) (i : NL) (e : TypeId) (f : Nat)
  | dat (t : TypeId) (d : D)
  | dpt (t : TypeId) (d : D)
  | fn (g : FuncId) (first cap : List V)
  | fnd (t : TypeId) (d : D)
  | osl (b v : Nat) (i n : NL)
  | oel (b v : Nat) (i n : NL)
  | yld (b : Nat)
inductive LpSt where
  | ready
  | busy
  | ret
  | exit (id : Nat)
inductive SB where
  | box (e : TypeId) (cs : List V)
  | arr (e : TypeId) (l : List D)
  | grd (a e : TypeId) (l : List D)
  | own (v : Nat) (e e' : TypeId) (l : List D)
  | lp (st : LpSt) (g : FuncId) (fr : T V) (sz : Nat) (ps : Array Tmp) (as bd : Code)
  | dfr
structure SS where
  fr : T V
  sz : Nat
  hp : T SB
  nx : Nat
  ro : Nat
  fl : Nat
  wr : List Nat
  mks : List Nat := []
noncomputable def T.put {α : Type} (t : T α) (n : Nat) (a : Option α) : T α := T.set (Nat.succ n) t n a
noncomputable def SS.put (S : SS) (d : Option Tmp) (v : Option V) (K : SS → Prop) : Prop :=
  match d with
  | none => K S
  | some d => cond (Nat.blt d S.sz) (K { S with fr := S.fr.put d v }) False
noncomputable def SS.alloc (S : SS) (k : SB) : SS := { S with hp := S.hp.put S.nx (some k), nx := Nat.succ S.nx }
noncomputable def SS.write (S : SS) (b : Nat) (k : Option SB) : SS := { S with hp := S.hp.put b k, wr := b :: S.wr }
noncomputable def SS.bump (S : SS) : SS := { S with nx := Nat.succ S.nx }
def intOf : V → Option (IntKind × Int)
  | .int k n => some (k, n)
  | .val (.int k n) => some (k, n)
  | _ => none
def nlOf : V → Option (Int × NL)
  | .int _ n => some (n, .sym n.toNat)
  | .val (.int _ n) => some (n, .lit n.toNat)
  | _ => none
def isProp (b : Bool) : Prop := b = true
def propOf : V → Option Prop
  | .prop p => some p
  | .val (.bool b) => some (isProp b)
  | _ => none
def strOf : V → Option (List UInt8)
  | .str s => some s
  | .val (.string b) => some b.data.toList
  | _ => none
def V.cells : V → List V | .agg cs => cs | v => [v]
noncomputable def V.one : V → Bool
  | .agg _ | .tup _ => false
  | .val v => oneCellB v
  | _ => true
noncomputable def valOf (v : Value) : Option V :=
  match v with
  | .agg cs => cond (flat v) (some (.agg (cs.toList.map .val))) none
  | v => cond (flat v) (some (.val v)) (match v with | .tuple vs => cond (Nat.beq vs.size 0) (some (.val v)) none | _ => none)
noncomputable def evalS (S : SS) : Operand → Option V
  | .tmp t => S.fr.get t
  | .const v => valOf v
  | .func f => some (.fn f [] [])
  | .global _ => none
noncomputable def withV (S : SS) (x : Operand) (K : V → Prop) : Prop := match evalS S x with | some v => K v | none => False
noncomputable def withVs (S : SS) (xs : List Operand) : (List V → Prop) → Prop :=
  List.rec (fun K => K []) (fun x _ ih K => withV S x fun v => ih fun l => K (v :: l)) xs
noncomputable def withO (S : SS) (x : Option Operand) (K : Option V → Prop) : Prop := match x with | some x => withV S x fun v => K (some v) | none => K none
def inR : IntKind → Int → Prop
  | .i64, n => -9223372036854775808 ≤ n ∧ n < 9223372036854775808
  | .u8, n => 0 ≤ n ∧ n < 256
  | .u64, n => 0 ≤ n ∧ n < 18446744073709551616
  | .i32, n => -2147483648 ≤ n ∧ n < 2147483648
  | .u32, n => 0 ≤ n ∧ n < 4294967296
  | .i8, n => -128 ≤ n ∧ n < 128
  | .i16, n => -32768 ≤ n ∧ n < 32768
  | .u16, n => 0 ≤ n ∧ n < 65536
def bitsN (a b : Int) : Int := ((a.toNat &&& b.toNat : Nat) : Int)
def shrZ (k : IntKind) (a b : Int) : Int := a.fdiv (2 ^ min b.toNat k.bits)
noncomputable def symShr (op : BinOp) (k : IntKind) (a b : Int) (K : V → Prop) : Prop :=
  match op with
  | .shr => 0 ≤ b ∧ K (.int k (shrZ k a b))
  | _ => False
noncomputable def symAdd (k : IntKind) (a b : Int) (K : V → Prop) : Prop :=
  match k with
  | .u8 => K (.int .u8 (IntKind.u8.wrap (a + b)))
  | k => inR k (a + b) ∧ K (.int k (a + b))
noncomputable def symInt (op : BinOp) (k : IntKind) (a b : Int) (K : V → Prop) : Prop :=
  match op with
  | .add => symAdd k a b K
  | .sub => inR k (a - b) ∧ K (.int k (a - b))
  | .mul => inR k (a * b) ∧ K (.int k (a * b))
  | .quo => b ≠ 0 ∧ inR k (a.tdiv b) ∧ K (.int k (a.tdiv b))
  | .rem => b ≠ 0 ∧ K (.int k (a.tmod b))
  | .and => 0 ≤ a ∧ 0 ≤ b ∧ inR k a ∧ inR k b ∧ K (.int k (bitsN a b))
  | .shr => 0 ≤ b ∧ K (.int k (shrZ k a b))
  | .eql => K (.prop (a = b))
  | .neq => K (.prop (¬ a = b))
  | .lss => K (.prop (a < b))
  | .leq => K (.prop (a ≤ b))
  | .gtr => K (.prop (b < a))
  | .geq => K (.prop (b ≤ a))
  | _ => False
structure sLt (a b : List UInt8) : Prop where
  out : Op.bytesLess a b = true
noncomputable def symStr (op : BinOp) (a b : List UInt8) (K : V → Prop) : Prop :=
  match op with
  | .add => a.length + b.length < 9223372036854775808 ∧ K (.str (a ++ b))
  | .eql => K (.prop (a = b))
  | .neq => K (.prop (¬ a = b))
  | .lss => K (.prop (sLt a b))
  | .leq => K (.prop (sLt a b ∨ a = b))
  | .gtr => K (.prop (¬ (sLt a b ∨ a = b)))
  | .geq => K (.prop (¬ sLt a b))
  | _ => False
noncomputable def symBool (op : BinOp) (a b : Prop) (K : V → Prop) : Prop :=
  match op with
  | .eql => K (.prop (a ↔ b))
  | .neq => K (.prop (¬ (a ↔ b)))
  | _ => False
noncomputable def symNil (op : BinOp) (x : V) (K : V → Prop) : Prop :=
  match op, x with
  | .eql, .dat _ d => K (.prop d.isNil)
  | .neq, .dat _ d => K (.prop (¬ d.isNil))
  | .eql, .slc _ _ _ _ => K (.val (.bool false))
  | .neq, .slc _ _ _ _ => K (.val (.bool true))
  | _, _ => False
noncomputable def isBoolT (P : Program) (t : TypeId) : Bool := match P.underlying t with | some .bool => true | _ => false
noncomputable def isSliceT (P : Program) (t : TypeId) : Bool := match P.underlying t with | some (.slice _) => true | _ => false
noncomputable def hasSize (P : Program) (t : TypeId) : Bool := match sizeT P t with | some _ => true | none => false
structure symPtr (P : Program) (op : BinOp) (t : TypeId) (x y : V) (K : V → Prop) : Prop where
  out : False
noncomputable def symBinS (P : Program) (op : BinOp) (t : TypeId) (x y : V) (K : V → Prop) : Prop :=
  match intOf x, intOf y with
  | some (k, a), some (k', b) => cond (k == k') (symInt op k a b K) (symShr op k a b K)
  | _, _ =>
    match strOf x, strOf y with
    | some a, some b => symStr op a b K
    | _, _ =>
      match propOf x, propOf y with
      | some a, some b => cond (isBoolT P t) (symBool op a b K) False
      | _, _ =>
        match y with
        | .val (.slice none 0 0) => cond (isSliceT P t) (symNil op x K) False
        | y => symPtr P op t x y K
noncomputable def symBin (P : Program) (op : BinOp) (t : TypeId) (ox oy : Operand) (x y : V) (K : V → Prop) : Prop :=
  match x, y with
  | .val a, .val b =>
    match binA P op t ox oy a b { t := .leaf, next := 0, wlow := 0 } with
    | some (v, _) => cond (flat1 v && flat1 a && flat1 b) (forceV1 v fun v => K (.val v)) False
    | none => False
  | x, y => symBinS P op t x y K
noncomputable def symUn (op : UnOp) (x : V) (K : V → Prop) : Prop :=
  match op, x with
  | .not, .val (.bool b) => K (.val (.bool (!b)))
  | .not, .prop p => K (.prop (¬ p))
  | .neg, x => (match intOf x with | some (k, n) => inR k (-n) ∧ K (.int k (-n)) | none => False)
  | _, _ => False
noncomputable def symConv (P : Program) (s d : TypeId) (x : V) (K : V → Prop) : Prop :=
  match P.underlying s, P.underlying d with
  | some _, some (.int k) =>
    (match x with
     | .val (.int _ n) => forceInt (k.wrap n) fun m => K (.val (.int k m))
     | .int _ n => K (.int k (k.wrap n))
     | _ => False)
  | some .string, some .string => (match strOf x with | some s => K (.str s) | none => False)
  | _, _ => False
structure byteL (l : List D) : Prop where
  out : ∀ d, d ∈ l → ∃ n : Nat, n < 256 ∧ d = .int n
def bytesD (l : List D) : List UInt8 := l.map fun d => UInt8.ofNat d.asInt.toNat
def strD (s : List UInt8) : List D := s.map fun b => .int b.toNat
noncomputable def sizeIs1 (P : Program) (t : TypeId) : Bool := match sizeT P t with | some s => Nat.beq s 1 | none => false
noncomputable def isI64 (P : Program) (t : TypeId) : Bool := match P.underlying t with | some (.int .i64) => true | _ => false
noncomputable def isU8 (P : Program) (t : TypeId) : Bool := match P.underlying t with | some (.int .u8) => true | _ => false
noncomputable def symConvS (P : Program) (S : SS) (s d : TypeId) (x : V) (K : V → Prop) : Prop := symConv P s d x K
noncomputable def symPick (c a b : V) (K : V → Prop) : Prop :=
  match c with
  | .val (.bool t) => cond t (K a) (K b)
  | .prop p =>
    (match propOf a, propOf b with
     | some x, some y => K (.prop ((p ∧ x) ∨ (¬ p ∧ y)))
     | _, _ => False)
  | _ => False
noncomputable def isI64T (P : Program) (t : TypeId) : Bool := match P.underlying t with | some (.int .i64) => true | _ => false
noncomputable def sizeIs (P : Program) (t : TypeId) (n : Nat) : Bool := match sizeT P t with | some s => Nat.beq s n | none => false
noncomputable def goDat (P : Program) (rec_ : TypeId → List V → Option D) : List Field → List V → Option (List D)
  | [], [] => some []
  | [], _ => none
  | fd :: fs, vs =>
    match sizeT P fd.type with
    | none => none
    | some s =>
      cond (Nat.ble s vs.length)
        (match rec_ fd.type (vs.take s), goDat P rec_ fs (vs.drop s) with
         | some d, some ds => some (d :: ds)
         | _, _ => none) none
def fnOf : V → Option D
  | .fnd _ d => some d
  | .val .nilFunc => some .nil
  | .fn g [] [] => some (.fn g [] [])
  | _ => none
noncomputable def datOf (P : Program) : Nat → TypeId → List V → Option D
  | 0, _, _ => none
  | f + 1, t, vs =>
    cond (sizeIs P t vs.length)
    (match P.underlying t, vs with
    | some (.int k), [v] => (match intOf v with | some (k', n) => cond (k == k') (some (.int n)) none | none => none)
    | some .bool, [v] => (propOf v).map .bool
    | some .string, [v] => (strOf v).map .str
    | some (.slice _), [.val (.slice none 0 0)] => some .nil
    | some (.slice _), [.dat t' d] => cond (Nat.beq t t') (some d) none
    | some (.struct fs), vs => (goDat P (datOf P f) fs.toList vs).map .sct
    | some (.func _ _ _), [v] => fnOf v
    | _, _ => none) none
noncomputable def goCells (rec_ : TypeId → D → Option (List V)) (d : D) : List Field → Nat → Option (List V)
  | [], _ => some []
  | fd :: fs, j =>
    match rec_ fd.type (d.fld j), goCells rec_ d fs (Nat.succ j) with
    | some vs, some ws => some (vs ++ ws)
    | _, _ => none
def fldT (e : TypeId) : Field := { name := "", type := e, offset := 0, embedded := false, tag := "", pkgPath := "", byteOffset := 0 }
noncomputable def cellsOf (P : Program) : Nat → TypeId → D → Option (List V)
  | 0, _, _ => none
  | f + 1, t, d =>
    match P.underlying t with
    | some (.int k) => some [.int k d.asInt]
    | some .bool => some [.prop d.asProp]
    | some .string => some [.str d.asStr]
    | some (.slice _) => some [.dat t d]
    | some (.struct fs) => goCells (cellsOf P f) d fs.toList 0
    | some (.array n e) => goCells (cellsOf P f) d (List.replicate n (fldT e)) 0
    | some (.func _ _ _) => some [.fnd t d]
    | _ => none
noncomputable def withCells (P : Program) (t : TypeId) (d : D) (K : V → Prop) : Prop :=
  match cellsOf P 20 t d, isAggT P t with
  | some vs, some true => K (.agg vs)
  | some [v], some false => K v
  | _, _ => False
noncomputable def offsOK (P : Program) : List Field → Nat → Bool
  | [], _ => true
  | fd :: fs, o => Nat.beq fd.offset o && (match sizeT P fd.type with | some s => offsOK P fs (o + s) | none => false)
noncomputable def isAgg1 (P : Program) (t : TypeId) : Bool := match isAggT P t with | some true => true | _ => false
noncomputable def boolsOf : List V → Option (List D)
  | [] => some []
  | v :: vs => match propOf v, boolsOf vs with | some p, some ds => some (.bool p :: ds) | _, _ => none
noncomputable def symLoad (P : Program) (S : SS) (t : TypeId) (a : V) (K : V → Prop) : Prop :=
  match a with
  | .ptr b o =>
    match S.hp.get b with
    | some (.box _ cs) =>
      (match isAggT P t, sizeT P t with
       | some false, _ => (match cs[o]? with | some v => K v | none => False)
       | some true, some s => cond (Nat.ble (o + s) cs.length) (K (.agg ((cs.drop o).take s))) False
       | _, _ => False)
    | some (.grd a e l) => cond (Nat.beq o 0 && Nat.beq a t && isBoolT P e && sizeIs P e 1 && isAgg1 P t && sizeIs P t l.length) (K (.agg (l.map fun d => .prop d.asProp))) False
    | _ => False
  | .ept b i =>
    match S.hp.get b with
    | some (.arr e l) => cond (Nat.beq e t) (i.v < l.length ∧ withCells P t (nthD l i.v) K) False
    | some (.grd _ e l) => cond (Nat.beq e t) (i.v < l.length ∧ withCells P t (nthD l i.v) K) False
    | some (.own v e _ l) => cond (Nat.beq e t && isSliceT P t) (i.v < l.length ∧ (nthD l i.v = .nil → K (.val (.slice none 0 0))) ∧ (∀ r, nthD l i.v = .list r → K (.osl b v i (.sym r.length))) ∧ ∀ n, nthD l i.v = .int n → False) False
    | _ => False
  | .oel b v i n =>
    match S.hp.get b with
    | some (.own v' _ e' l) => cond (Nat.beq v v' && Nat.beq e' t) (i.v < l.length ∧ n.v < (nthD l i.v).len ∧ withCells P t (nthD (nthD l i.v).asList n.v) K) False
    | _ => False
  | .dpt t' d => cond (Nat.beq t t') (withCells P t d K) False
  | _ => False
noncomputable def isSliceOf (P : Program) (t e : TypeId) : Bool := (match P.underlying t with | some (.slice e') => Nat.beq e' e | _ => false) && sizeIs P t 1
structure allNil (l : List D) : Prop where
  out : ∀ d, d ∈ l → d = .nil
noncomputable def capIs (n : NL) : Option NL → Prop
  | none => True
  | some c => c.v = n.v
noncomputable def symOwn (P : Program) (S : SS) (b : Nat) (e : TypeId) (l : List D) (i : NL) (x : V) (p : Prop) (K : V → SS → Prop) : Prop :=
  match x with
  | .slc b' o n c =>
    (match S.hp.get b' with
     | some (.arr e2 l2) =>
       cond (isSliceOf P e e2 && Nat.ble S.ro b && Nat.ble S.ro b' && !Nat.beq b b')
         (i.v < l.length ∧ p ∧ o.v = 0 ∧ n.v = l2.length ∧ capIs n c ∧ K (.val undef) ((S.write b' none).write b (some (.own S.nx e e2 (l.set i.v (.list l2))))).bump) False
     | _ => False)
  | _ => False
noncomputable def symStore (P : Program) (S : SS) (t : TypeId) (a x : V) (K : V → SS → Prop) : Prop :=
  match a with
  | .ptr b o =>
    match S.hp.get b, sizeT P t with
    | some (.box be cs), some s =>
      cond (Nat.ble S.ro b && Nat.beq x.cells.length s && Nat.ble (o + s) cs.length && x.cells.all V.one)
        (K (.val undef) (S.write b (some (.box be (cs.take o ++ x.cells ++ cs.drop (o + x.cells.length)))))) False
    | some (.grd a e l), some s =>
      (match boolsOf x.cells with
       | some ds => cond (Nat.beq o 0 && Nat.beq a t && isBoolT P e && sizeIs P e 1 && Nat.ble S.ro b && Nat.beq ds.length s && Nat.beq s l.length) (K (.val undef) (S.write b (some (.grd a e ds)))) False
       | none => False)
    | _, _ => False
  | .ept b i =>
    match S.hp.get b with
    | some (.arr e l) =>
      cond (Nat.beq e t && Nat.ble S.ro b)
        (match datOf P 20 t x.cells with
         | some d => i.v < l.length ∧ K (.val undef) (S.write b (some (.arr e (l.set i.v d))))
         | none => symOwn P S b e l i x (allNil l) K) False
    | some (.grd a e l) =>
      cond (Nat.beq e t && Nat.ble S.ro b)
        (match datOf P 20 t x.cells with
         | some d => i.v < l.length ∧ K (.val undef) (S.write b (some (.grd a e (l.set i.v d))))
         | none => False) False
    | some (.own v e e' l) =>
      cond (Nat.beq e t && Nat.ble S.ro b)
        (match x with
         | .val (.slice none 0 0) => sizeIs P e 1 = true ∧ i.v < l.length ∧ K (.val undef) (S.write b (some (.own v e e' (l.set i.v .nil))))
         | x => symOwn P S b e l i x True K) False
    | _ => False
  | .oel b v i n =>
    match S.hp.get b with
    | some (.own v' e e' l) =>
      cond (Nat.beq v v' && Nat.beq e' t && Nat.ble S.ro b)
        (match datOf P 20 t x.cells with
         | some d => i.v < l.length ∧ n.v < (nthD l i.v).len ∧ K (.val undef) (S.write b (some (.own v e e' (l.set i.v (.list ((nthD l i.v).asList.set n.v d))))))
         | none => False) False
    | _ => False
  | _ => False
noncomputable def symBox (S : SS) (e : TypeId) (x : V) (K : V → SS → Prop) : Prop :=
  cond (x.cells.all V.one) (K (.ptr S.nx 0) (S.alloc (.box e x.cells))) False
noncomputable def arrT (P : Program) : Nat → TypeId → Option (TypeId × Nat)
  | 0, _ => none
  | f + 1, t =>
    match P.underlying t with
    | some (.array n e) =>
      (match P.underlying e with
       | some (.int .i64) => some (e, n)
       | _ => match arrT P f e with | some (e', m) => some (e', n * m) | none => none)
    | _ => none
noncomputable def allZ : List Value → Bool
  | [] => true
  | .int .i64 (.ofNat 0) :: l => allZ l
  | _ => false
noncomputable def boolArr (P : Program) (t : TypeId) : Option (TypeId × Nat) :=
  match P.underlying t with
  | some (.array n e) => cond (isBoolT P e) (some (e, n)) none
  | _ => none
noncomputable def allF : List Value → Bool
  | [] => true
  | .bool false :: l => allF l
  | _ => false
noncomputable def symAlloc (P : Program) (sm : Bool) (S : SS) (e : TypeId) (K : V → SS → Prop) : Prop :=
  match zeroT P e with
  | some z =>
    (match cond sm none (arrT P 4 e) with
     | some (t, n) => cond (flat z && allZ z.cells.toList && Nat.beq z.cells.toList.length n && isI64T P t && sizeIs P t 1) (K (.ptr S.nx 0) (S.alloc (.grd e t (List.replicate n (.int 0))))) False
     | none =>
       (match boolArr P e with
        | some (t, n) => cond (flat z && allF z.cells.toList && Nat.beq z.cells.toList.length n && isBoolT P t && sizeIs P t 1) (K (.ptr S.nx 0) (S.alloc (.grd e t (List.replicate n (.bool False))))) False
        | none => cond (flat z) (K (.ptr S.nx 0) (S.alloc (.box e (z.cells.toList.map .val)))) False))
  | none => False
noncomputable def zeroD (P : Program) (e : TypeId) : Option D :=
  match zeroT P e with
  | some z => datOf P 20 e (z.cells.toList.map .val)
  | none => none
noncomputable def symMakeSlice (P : Program) (S : SS) (t : TypeId) (l c : V) (K : V → SS → Prop) : Prop :=
  match P.underlying t with
  | some (.slice e) =>
    match nlOf l, nlOf c, zeroD P e, P.info? e with
    | some (li, l), some (ci, c), some z, some i =>
      cond (Nat.blt 0 i.size && zflat P e) (0 ≤ li ∧ li ≤ ci ∧ ci ≤ 16777216 ∧ i.bytes * c.v ≤ 281474976710656 ∧ K (.slc S.nx (.lit 0) l (some c)) (S.alloc (.arr e (List.replicate c.v z)))) False
    | _, _, _, _ => False
  | _ => False
noncomputable def posT (P : Program) (e : TypeId) : Bool := match sizeT P e with | some s => Nat.blt 0 s | none => false
noncomputable def bnd (x : Option V) (d : Int × NL) : Option (Int × NL) := match x with | none => some d | some v => nlOf v
noncomputable def capLe (n : NL) : Option NL → Int → Prop
  | none, h => h ≤ n.v
  | some c, h => h ≤ c.v
noncomputable def capSub : Option NL → NL → Option NL
  | none, _ => none
  | some c, l => some (c.sub l)
noncomputable def symSlice (P : Program) (S : SS) (t : TypeId) (x : V) (lo hi mx : Option V) (K : V → Prop) : Prop :=
  match P.underlying t, mx with
  | some (.slice e), none =>
    (match x with
    | .slc b o n c =>
      (match bnd lo (0, .lit 0), bnd hi (n.v, n), S.hp.get b with
       | some (l, ln), some (h, hn), some (.arr e' _) => cond (Nat.beq e e') (0 ≤ l ∧ l ≤ h ∧ capLe n c h ∧ K (.slc b (o.add ln) (hn.sub ln) (capSub c ln))) False
       | _, _, _ => False)
    | .dat t' d =>
      (match bnd lo (0, .lit 0), bnd hi (d.len, .sym d.len) with
       | some (l, ln), some (h, hn) => cond (Nat.beq t t' && posT P e) (0 ≤ l ∧ l ≤ h ∧ h ≤ d.len ∧ K (.dat t (d.sub ln.v (hn.sub ln).v))) False
       | _, _ => False)
    | .val (.slice none 0 0) =>
      (match bnd lo (0, .lit 0), bnd hi (0, .lit 0) with
       | some (l, _), some (h, _) => cond (posT P e) (0 ≤ l ∧ l ≤ h ∧ h ≤ 0 ∧ K (.val (.slice none 0 0))) False
       | _, _ => False)
    | _ => False)
  | some .string, none =>
    (match strOf x with
     | some s =>
       (match bnd lo (0, .lit 0), bnd hi (s.length, .sym s.length) with
        | some (l, ln), some (h, hn) => 0 ≤ l ∧ l ≤ h ∧ h ≤ s.length ∧ K (.str ((s.drop ln.v).take (hn.sub ln).v))
        | _, _ => False)
     | none => False)
  | _, _ => False
noncomputable def symFieldAddr (P : Program) (s : TypeId) (x : V) (f : Nat) (K : V → Prop) : Prop :=
  match x, fieldA P s f with
  | .ptr b o, some fd => (match sizeT P fd.type with | some 0 | none => False | some _ => K (.ptr b (o + fd.offset)))
  | .ept b i, some fd => (match sizeT P fd.type with | some 0 | none => False | some _ => K (.epf b i s f))
  | .dpt t d, some fd =>
    (match P.underlying s, sizeT P fd.type with
     | some (.struct fs), some (.succ _) => cond (Nat.beq t s && offsOK P fs.toList 0) (K (.dpt fd.type (d.fld f))) False
     | _, _ => False)
  | _, _ => False
noncomputable def symField (P : Program) (t : TypeId) (x : V) (f : Nat) (K : V → Prop) : Prop :=
  match x, fieldA P t f with
  | .agg cs, some fd =>
    (match isAggT P fd.type, sizeT P fd.type with
     | some true, some s => cond (Nat.ble (fd.offset + s) cs.length) (K (.agg ((cs.drop fd.offset).take s))) False
     | some false, _ => (match cs[fd.offset]? with | some v => K v | none => False)
     | _, _ => False)
  | _, _ => False
noncomputable def symIndexAddr (P : Program) (S : SS) (t : TypeId) (x ix : V) (K : V → Prop) : Prop :=
  match nlOf ix, P.underlying t with
  | some (i, n), some (.slice e) =>
    (match x with
     | .slc b o l _ =>
       (match S.hp.get b with
        | some (.arr e' _) => cond (Nat.beq e e') (0 ≤ i ∧ i < l.v ∧ K (.ept b (o.add n))) False
        | some (.own _ e' _ _) => cond (Nat.beq e e') (0 ≤ i ∧ i < l.v ∧ K (.ept b (o.add n))) False
        | _ => False)
     | .dat t' d => cond (Nat.beq t t' && posT P e) (0 ≤ i ∧ i < d.len ∧ K (.dpt e (nthD d.asList n.v))) False
     | .osl b v j l => (match S.hp.get b with | some (.own v' _ e' ll) => cond (Nat.beq v v' && Nat.beq e e') (0 ≤ i ∧ i < l.v ∧ j.v < ll.length ∧ i < (nthD ll j.v).len ∧ K (.oel b v j n)) False | _ => False)
     | _ => False)
  | some (i, n), some (.array len e) =>
    (match x with
     | .ptr b o =>
      (match S.hp.get b, sizeT P e with
       | some (.grd _ e' _), some s => cond (sizeIs P e' 1) (0 ≤ i ∧ i < (len : Int) ∧ K (.ept b ((NL.lit o).add (n.mulK s)))) False
       | some (.box _ _), some s => (match n with | .lit n => 0 ≤ i ∧ i < (len : Int) ∧ K (.ptr b (o + n * s)) | .sym _ => False)
       | _, _ => False)
     | .ept b m => (match S.hp.get b, sizeT P e with | some (.grd _ e' _), some s => cond (sizeIs P e' 1) (0 ≤ i ∧ i < (len : Int) ∧ K (.ept b (m.add (n.mulK s)))) False | _, _ => False)
     | _ => False)
  | _, _ => False
structure symGIdx (P : Program) (t : TypeId) (g : Nat) (ix : V) (K : V → Prop) : Prop where
  out : False
noncomputable def symIdxOp (P : Program) (S : SS) (t : TypeId) (x ix : Operand) (K : V → Prop) : Prop :=
  match x with
  | .global g => withV S ix fun ix => symGIdx P t g ix K
  | x => withV S x fun x => withV S ix fun ix => symIndexAddr P S t x ix K
def byteAt (s : List UInt8) (i : Nat) : Int := ((s[i]?).getD 0).toNat
structure symPart (P : Program) (t : TypeId) (cs : List V) (ix : V) (K : V → Prop) : Prop where
  out : False
noncomputable def symIndex (P : Program) (t : TypeId) (x ix : V) (K : V → Prop) : Prop :=
  match x with
  | .agg cs => symPart P t cs ix K
  | x =>
  match nlOf ix, strOf x, P.underlying t with
  | some (i, n), some s, some .string => 0 ≤ i ∧ i < s.length ∧ K (.int .u8 (byteAt s n.v))
  | _, _, _ => False
noncomputable def symExtract (x : V) (ix : Nat) (K : V → Prop) : Prop :=
  match x with | .tup vs => (match vs[ix]? with | some v => K v | none => False) | _ => False
noncomputable def symNilCheck (x : V) (K : V → Prop) : Prop :=
  match x with
  | .ptr _ _ | .ept _ _ | .dpt _ _ | .fn _ _ _ => K x
  | .fnd t d => d.isFn ∧ K (.fnd t d)
  | _ => False
structure symBuild (P : Program) (t : TypeId) (parts : List (Nat × V)) (K : V → Prop) : Prop where
  out : False
noncomputable def cellTs (P : Program) : Nat → TypeId → List TypeId
  | 0, _ => []
  | f + 1, t =>
    match P.underlying t with
    | some (.struct fs) => (fs.toList.map fun fd => cellTs P f fd.type).flatten
    | some (.array _ _) => []
    | _ => [t]
noncomputable def elemTs (P : Program) (t : TypeId) : List TypeId := match P.underlying t with | some (.slice e) => cellTs P 20 e | _ => []
def isRowT (P : Program) (e : TypeId) : Prop := isSliceT P e = true ∧ sizeIs P e 1 = true
structure noHole (l : List D) : Prop where
  out : ∀ n, D.int n ∉ l
noncomputable def frz1 (P : Program) (S : SS) (t : TypeId) (v : V) (K : V → SS → Prop) : Prop :=
  match v with
  | .slc b o n _ =>
    (match S.hp.get b with
     | some (.arr e l) => cond (isSliceOf P t e && Nat.ble S.ro b) (o.v + n.v ≤ l.length ∧ K (.dat t (.list ((l.drop o.v).take n.v))) (S.write b none)) False
     | some (.own _ e _ l) => cond (isSliceOf P t e && Nat.ble S.ro b) (o.v + n.v ≤ l.length ∧ noHole l ∧ isRowT P e ∧ K (.dat t (.list ((l.drop o.v).take n.v))) (S.write b none)) False
     | _ => False)
  | v => K v S
noncomputable def frzL (P : Program) : List TypeId → List V → SS → (List V → SS → Prop) → Prop
  | _, [], S, K => K [] S
  | [], v :: vs, S, K => K (v :: vs) S
  | t :: ts, v :: vs, S, K => frz1 P S t v fun v S => frzL P ts vs S fun vs S => K (v :: vs) S
noncomputable def frzV (P : Program) (S : SS) (ts : List TypeId) (v : V) (K : V → SS → Prop) : Prop :=
  match v with
  | .agg cs => frzL P ts cs S fun cs S => K (.agg cs) S
  | .slc b o n c => (match ts with | t :: _ => frz1 P S t (.slc b o n c) K | [] => K (.slc b o n c) S)
  | v => K v S
noncomputable def frzParts (P : Program) (ts : List TypeId) : List (Nat × V) → SS → (List (Nat × V) → SS → Prop) → Prop
  | [], S, K => K [] S
  | x :: ps, S, K => frzV P S ts x.2 fun v S => frzParts P ts ps S fun ps S => K ((x.1, v) :: ps) S
noncomputable def symFrz (P : Program) : List (Tmp × Nat × TypeId) → SS → (SS → Prop) → Prop
  | [], S, K => K S
  | x :: l, S, K =>
    match S.fr.get x.1 with
    | some (.ptr b 0) =>
      (match S.hp.get b with
       | some (.box _ cs) =>
         (match cs[x.2.1]? with
          | some v => cond (Nat.ble S.ro b) (frz1 P S x.2.2 v fun u S1 => match S1.hp.get b with | some (.box be cs1) => symFrz P l (S1.write b (some (.box be (cs1.set x.2.1 u)))) K | _ => False) False
          | none => False)
       | _ => False)
    | _ => False
noncomputable def elemsD (P : Program) (e : TypeId) : List (Nat × V) → Nat → Option (List D)
  | [], _ => some []
  | (i, v) :: ps, j =>
    cond (Nat.beq i j) (match datOf P 20 e v.cells, elemsD P e ps (Nat.succ j) with | some d, some ds => some (d :: ds) | _, _ => none) none
noncomputable def symBuildSlice (P : Program) (S : SS) (t : TypeId) (len : Nat) (parts : List (Nat × V)) (K : V → SS → Prop) : Prop :=
  match P.underlying t with
  | some (.slice e) =>
    (match elemsD P e parts 0, sizeT P e, zeroD P e with
     | some ds, some (.succ s), some _ =>
       cond (Nat.beq ds.length len && Nat.ble len 16777216 && Nat.ble (len * Nat.succ s) 16777216 && zflat P e) (K (.slc S.nx (.lit 0) (.lit len) (some (.lit len))) (S.alloc (.arr e ds))) False
     | _, _, _ => False)
  | _ => False
noncomputable def srcT (P : Program) (e t2 : TypeId) : Option TypeId := match P.underlying t2 with | some (.slice e2) => some e2 | some .string => some e | _ => none
noncomputable def srcS (P : Program) (S : SS) (e : TypeId) (ts : TypeId) (x : V) (K : NL → List D → Prop) : Prop :=
  match x with
  | .str s => cond (isU8 P e && sizeIs1 P e) (K (.sym s.length) (strD s)) False
  | .val (.string s) => cond (isU8 P e && sizeIs1 P e) (K (.lit s.data.toList.length) (strD s.data.toList)) False
  | .val (.slice none 0 0) => K (.lit 0) []
  | .slc b o n _ => (match S.hp.get b with | some (.arr e' l) => cond (Nat.beq e e') (o.v + n.v ≤ l.length ∧ K n ((l.drop o.v).take n.v)) False | _ => False)
  | .dat t d => cond (Nat.beq t ts) (K (.sym d.len) d.asList) False
  | _ => False
noncomputable def caseNL (n : NL) (A B : Prop) : Prop :=
  match n with
  | .lit n => cond (Nat.beq n 0) A B
  | .sym n => (n = 0 → A) ∧ (0 < n → B)
noncomputable def isStrV : V → Bool | .str _ => true | _ => false
noncomputable def caseNP (pos : Bool) (n : NL) (A B : Prop) : Prop := cond pos (0 < n.v ∧ B) (caseNL n A B)
noncomputable def zsizeOK (inf : TypeInfo) : Bool := match inf.zero with | some z => Nat.beq z.cells.size inf.size | none => false
noncomputable def isSlcV : V → Bool
  | .val (.slice none 0 0) | .slc _ _ _ _ | .dat _ _ => true
  | _ => false
noncomputable def symAppend (P : Program) (S : SS) (t t2 : TypeId) (s x : V) (K : V → SS → Prop) : Prop :=
  match P.underlying t with
  | some (.slice e) =>
   match srcT P e t2 with
   | some e2 =>
    (match P.info? e with
     | some inf =>
       cond (Nat.beq e e2 && zsizeOK inf && Nat.ble inf.bytes 4096 && Nat.blt 0 inf.bytes && Nat.blt 0 inf.size)
         (srcS P S e t2 x fun k new =>
           caseNP (isStrV x) k (cond (isSlcV s) (K s S) False)
             (match s with
              | .val (.slice none 0 0) => k.v ≤ 16777216 ∧ K (.slc S.nx (.lit 0) k none) (S.alloc (.arr e new))
              | .slc b o n c =>
                (match S.hp.get b with
                 | some (.arr e' l) =>
                   cond (Nat.beq e e')
                     (let out : Prop := K (.slc S.nx (.lit 0) (n.add k) none) (S.alloc (.arr e ((l.drop o.v).take n.v ++ new)))
                      o.v + n.v ≤ l.length ∧ n.v + k.v ≤ 16777216 ∧
                      (match c with
                       | none => cond (Nat.ble S.ro b) (K (.slc S.nx (.lit 0) (n.add k) none) ((S.write b none).alloc (.arr e ((l.drop o.v).take n.v ++ new)))) False
                       | some c =>
                         let inn : Prop := o.v + n.v + k.v ≤ l.length ∧ cond (Nat.ble S.ro b) (K (.slc b o (n.add k) (some c)) (S.write b (some (.arr e (l.take (o.v + n.v) ++ new ++ l.drop (o.v + n.v + k.v)))))) False
                         (match n, k, c with
                          | .lit n, .lit k, .lit c => cond (Nat.ble (n + k) c) inn out
                          | n, k, c => (n.v + k.v ≤ c.v → inn) ∧ (c.v < n.v + k.v → out)))) False
                 | _ => False)
              | _ => False)) False
     | none => False)
   | none => False
  | _ => False
noncomputable def takeS (S : SS) (b v : Nat) (e e' : TypeId) (l : List D) (i : NL) : SS := (S.write b (some (.own v e e' (l.set i.v (.int 0))))).alloc (.arr e' (nthD l i.v).asList)
noncomputable def srcPos : V → Prop
  | .slc _ _ n _ => 0 < n.v
  | .dat _ d => 0 < d.len
  | _ => False
noncomputable def symAppendO (P : Program) (S : SS) (t t2 : TypeId) (s x : V) (K : V → SS → Prop) : Prop :=
  match s with
  | .osl b v i n =>
    (match S.hp.get b with
     | some (.own v' e e' l) => cond (Nat.beq v v' && Nat.ble S.ro b) (i.v < l.length ∧ n.v = (nthD l i.v).len ∧ (∃ r, nthD l i.v = .list r) ∧ srcPos x ∧ symAppend P (takeS S b v e e' l i) t t2 (.slc S.nx (.lit 0) n none) x K) False
     | _ => False)
  | .slc b o n c =>
    (match S.hp.get b, c with
     | some (.own v e e' l), none =>
       (match P.underlying t, srcT P e t2, P.info? e with
        | some (.slice e1), some e2, some inf =>
          cond (Nat.beq e1 e && Nat.beq e e2 && zsizeOK inf && Nat.ble inf.bytes 4096 && Nat.blt 0 inf.bytes && Nat.blt 0 inf.size && Nat.ble S.ro b && isSliceT P e)
            (srcS P S e t2 x fun k new => 0 < k.v ∧ allNil new ∧ o.v = 0 ∧ n.v = l.length ∧ n.v + k.v ≤ 16777216 ∧ K (.slc S.nx (.lit 0) (n.add k) none) ((S.write b none).alloc (.own v e e' (l ++ new)))) False
        | _, _, _ => False)
     | some (.own _ e _ l), some _ => cond (Nat.ble S.ro b) (noHole l ∧ isRowT P e ∧ symAppend P (S.write b (some (.arr e l))) t t2 s x K) False
     | _, _ => symAppend P S t t2 s x K)
  | s => symAppend P S t t2 s x K
noncomputable def linkS (S : SS) (b : Nat) (e e2 : TypeId) (l : List D) (n b' : Nat) (l2 : List D) : SS := ((S.write b' none).write b (some (.own S.nx e e2 (l.set n (.list l2))))).bump
noncomputable def flat1T (P : Program) (e : TypeId) : Bool := match zeroT P e with | some z => flat z && Nat.beq z.cells.size 1 | none => false
noncomputable def symBuildOwn (P : Program) (S : SS) (t : TypeId) (len : Nat) (ps : List (Nat × V)) (K : V → SS → Prop) : Prop :=
  match P.underlying t, ps with
  | some (.slice e), [(0, .slc b' o n c)] =>
    (match S.hp.get b' with
     | some (.arr e2 l2) =>
       cond (Nat.beq len 1 && isSliceOf P e e2 && flat1T P e && Nat.ble S.ro b')
         (o.v = 0 ∧ n.v = l2.length ∧ capIs n c ∧ K (.slc S.nx (.lit 0) (.lit 1) (some (.lit 1))) (linkS (S.alloc (.own S.nx e e2 [.int 0])) S.nx e e2 [.int 0] 0 b' l2)) False
     | _ => False)
  | _, _ => False
noncomputable def symAppendW (P : Program) (S : SS) (t t2 : TypeId) (s : V) (b2 v2 : Nat) (e e' : TypeId) (r : List D) (K : V → SS → Prop) : Prop :=
  match P.underlying t, srcT P e t2, P.info? e with
  | some (.slice e1), some e2, some inf =>
    cond (Nat.beq e1 e && Nat.beq e e2 && zsizeOK inf && Nat.ble inf.bytes 4096 && Nat.blt 0 inf.bytes && Nat.blt 0 inf.size && Nat.ble S.ro b2 && isSliceOf P e e')
      (match s with
       | .val (.slice none 0 0) => K (.slc (Nat.succ S.nx) (.lit 0) (.lit 1) none) (linkS ((takeS S b2 v2 e e' [.list r] (.lit 0)).alloc (.own (Nat.succ S.nx) e e' [.int 0])) (Nat.succ S.nx) e e' [.int 0] 0 S.nx r)
       | .slc b o n none =>
         (match S.hp.get b with
          | some (.own v e3 e4 l) =>
            cond (Nat.beq e3 e && Nat.beq e4 e' && Nat.ble S.ro b && !Nat.beq b b2)
              (o.v = 0 ∧ n.v = l.length ∧ n.v + 1 ≤ 16777216 ∧ K (.slc (Nat.succ S.nx) (.lit 0) (n.add (.lit 1)) none) (linkS (((takeS S b2 v2 e e' [.list r] (.lit 0)).write b none).alloc (.own v e e' (l ++ [.int 0]))) (Nat.succ S.nx) e e' (l ++ [.int 0]) l.length S.nx r)) False
          | _ => False)
       | _ => False) False
  | _, _, _ => False
noncomputable def symAppendX (P : Program) (S : SS) (t t2 : TypeId) (s x : V) (K : V → SS → Prop) : Prop :=
  match x with
  | .slc b2 o2 n2 _ =>
    (match S.hp.get b2 with
     | some (.own v2 e e' [.list r]) => o2.v = 0 ∧ n2.v = 1 ∧ symAppendW P S t t2 s b2 v2 e e' r K
     | _ => symAppendO P S t t2 s x K)
  | x => symAppendO P S t t2 s x K
noncomputable def symStoreF (P : Program) (S : SS) (t : TypeId) (a x : V) (K : V → SS → Prop) : Prop :=
  match a, x with
  | .oel b v i n, .slc b' o m c => frz1 P S t (.slc b' o m c) fun x S => symStore P S t (.oel b v i n) x K
  | a, x => symStore P S t a x K
noncomputable def symAppendZ (P : Program) (S : SS) (t t2 : TypeId) (s x : V) (K : V → SS → Prop) : Prop :=
  match P.underlying t, P.underlying t2, s, nlOf x, intOf x with
  | some (.slice e), some (.int _), .val (.slice none 0 0), some (z, n), some (.i64, _) =>
    (match P.info? e, zeroT P e with
     | some inf, some (.int .i64 (.ofNat 0)) => cond (isI64 P e && sizeIs1 P e && Nat.ble inf.bytes 4096) (0 < z ∧ z ≤ 16777216 ∧ K (.slc S.nx (.lit 0) n none) (S.alloc (.arr e (List.replicate n.v (.int 0))))) False
     | _, _ => False)
  | _, _, _, _, _ => False
noncomputable def isIntT (P : Program) (t : TypeId) : Bool := match P.underlying t with | some (.int _) => true | _ => false
structure symClear (P : Program) (S : SS) (t : TypeId) (x : V) (K : V → SS → Prop) : Prop where
  out : False
noncomputable def symCopy (P : Program) (S : SS) (t : TypeId) (d s : V) (K : V → SS → Prop) : Prop :=
  match P.underlying t, d, s with
  | some (.slice e), .slc b o n _, .slc b' o' n' _ =>
    (match S.hp.get b, S.hp.get b' with
     | some (.arr e1 l), some (.arr e2 l') =>
       cond (Nat.beq e e1 && Nat.beq e e2 && Nat.ble S.ro b)
         (o.v + n.v ≤ l.length ∧ o'.v + n'.v ≤ l'.length ∧ 0 < n.v ∧ 0 < n'.v ∧
           K (.int .i64 (min n'.v n.v : Nat)) (S.write b (some (.arr e (l.take o.v ++ (l'.drop o'.v).take (min n'.v n.v) ++ l.drop (o.v + min n'.v n.v)))))) False
     | _, _ => False)
  | some (.slice e), .slc _ _ _ _, .val (.slice none 0 0) => cond (hasSize P e) (K (.val (.int .i64 0)) S) False
  | some (.slice e), .slc b o n _, .str s =>
    (match S.hp.get b with
     | some (.arr e1 l) =>
       cond (Nat.beq e e1 && isU8 P e && sizeIs1 P e && Nat.ble S.ro b)
         (o.v + n.v ≤ l.length ∧ s.length ≤ n.v ∧ 0 < s.length ∧ K (.int .i64 (s.length : Nat)) (S.write b (some (.arr e (l.take o.v ++ strD s ++ l.drop (o.v + s.length)))))) False
     | _ => False)
  | _, _, _ => False
noncomputable def symCap (P : Program) (t : TypeId) (x : V) (K : V → Prop) : Prop :=
  match x with
  | .val (.slice none 0 0) => cond (isSliceT P t) (K (.val (.int .i64 0))) False
  | _ => False
noncomputable def symData (x : V) (K : V → SS → Prop) (S : SS) : Prop :=
  match x with
  | .slc b o n _ => n.v ≠ 0 ∧ K (.ept b o) S
  | .val (.slice none 0 0) => K (.val (.pointer none)) S
  | _ => False
noncomputable def symUStr (P : Program) (S : SS) (t : TypeId) (p n : V) (K : V → SS → Prop) : Prop :=
  match p with
  | .ept b o =>
    (match P.underlying t, S.hp.get b, nlOf n, intOf n with
     | some (.pointer e), some (.arr e' l), some (_, m), some (.i64, z) =>
       cond (Nat.beq e e' && isU8 P e && sizeIs1 P e && Nat.beq (P.cellsOf e) 1 && Nat.ble S.ro b)
         (0 ≤ z ∧ 0 < m.v ∧ m.v ≤ 16777216 ∧ o.v + m.v ≤ l.length ∧ byteL ((l.drop o.v).take m.v) ∧ K (.str (bytesD ((l.drop o.v).take m.v))) (S.write b none)) False
     | _, _, _, _ => False)
  | .val (.pointer none) => (match n with | .val (.int .i64 (.ofNat 0)) => K (.val (.string ⟨#[]⟩)) S | _ => False)
  | _ => False
noncomputable def isStrT (P : Program) (t : TypeId) : Bool := match P.underlying t with | some .string => true | _ => false
noncomputable def symLen (P : Program) (t : TypeId) (x : V) (K : V → Prop) : Prop :=
  match x with
  | .slc _ _ n _ => cond (isSliceT P t) (match n with | .lit n => K (.val (.int .i64 n)) | .sym n => K (.int .i64 n)) False
  | .osl _ _ _ n => cond (isSliceT P t) (match n with | .lit n => K (.val (.int .i64 n)) | .sym n => K (.int .i64 n)) False
  | .dat _ d => cond (isSliceT P t) (K (.int .i64 d.len)) False
  | .val (.slice none 0 0) => cond (isSliceT P t) (K (.val (.int .i64 0))) False
  | .str s => cond (isStrT P t) (K (.int .i64 s.length)) False
  | .val (.string b) => cond (isStrT P t) (K (.val (.int .i64 b.size))) False
  | _ => False
noncomputable def symMinMax (mx : Bool) (args : List V) (K : V → Prop) : Prop :=
  match args with
  | [a, b] =>
    match intOf a, intOf b with
    | some (k, x), some (k', y) => cond (k == k') (cond mx (K (.int k (max x y))) (K (.int k (min x y)))) False
    | _, _ => False
  | [a, b, c] =>
    match intOf a, intOf b, intOf c with
    | some (k, x), some (k', y), some (k'', z) => cond (mx && (k == k' && k == k'')) (K (.int k (max (max x y) z))) False
    | _, _, _ => False
  | _ => False
abbrev Con := List V → Option (Prop × V)
noncomputable def V.plain : V → Bool
  | .val v => flat1 v
  | .int _ _ | .prop _ | .str _ => true
  | _ => false
noncomputable def V.plain1 : V → Bool
  | .agg cs => cs.all V.plain
  | v => v.plain
noncomputable def V.plainR : V → Bool
  | .tup cs => cs.all V.plain1
  | v => v.plain1
noncomputable def V.free : V → Bool
  | .dat _ _ | .dpt _ _ | .fnd _ _ => true
  | v => v.plain
noncomputable def V.free1 : V → Bool
  | .agg cs => cs.all V.free
  | v => v.free
noncomputable def V.freeR : V → Bool
  | .tup cs => cs.all V.free1
  | v => v.free1
noncomputable def lend (P : Program) (S : SS) (t : TypeId) (v : V) (K : V → Prop) : Prop :=
  match v with
  | .slc b o n _ =>
    (match S.hp.get b with
     | some (.arr e l) => cond (isSliceOf P t e) (o.v + n.v ≤ l.length ∧ K (.dat t (.list ((l.drop o.v).take n.v)))) False
     | some (.own _ e _ l) => cond (isSliceOf P t e) (o.v + n.v ≤ l.length ∧ noHole l ∧ isRowT P e ∧ K (.dat t (.list ((l.drop o.v).take n.v)))) False
     | _ => False)
  | .osl b v i n => (match S.hp.get b with | some (.own v' _ e' l) => cond (Nat.beq v v' && isSliceOf P t e') (i.v < l.length ∧ n.v = (nthD l i.v).len ∧ (∃ r, nthD l i.v = .list r) ∧ K (.dat t (.list (nthD l i.v).asList))) False | _ => False)
  | .val (.slice none 0 0) => cond (isSliceT P t && sizeIs P t 1) (K (.dat t .nil)) False
  | v => cond v.freeR (K v) False
noncomputable def lendAll (P : Program) (S : SS) : List TypeId → List V → (List V → Prop) → Prop
  | _, [], K => K []
  | t :: ts, v :: vs, K => lend P S t v fun v => lendAll P S ts vs fun vs => K (v :: vs)
  | [], v :: vs, K => cond v.freeR (lendAll P S [] vs fun vs => K (v :: vs)) False
structure Ann where
  hs : Nat := 1
  τ : Type
  slots : SS → Nat → τ → List (Tmp × V)
  blks : SS → Nat → τ → List (Nat × SB)
  inv : SS → Nat → τ → Prop
  meas : SS → Nat → τ → Nat
  dead : SS → List Nat := fun _ => []
noncomputable def slI (S : SS) (t : Tmp) : Int := match (S.fr.get t).bind intOf with | some (_, n) => n | none => 0
noncomputable def slD (S : SS) (t : Tmp) : D := match S.fr.get t with | some (.dat _ d) => d | some (.dpt _ d) => d | _ => .nil
noncomputable def bkL (S : SS) (b : Nat) : List D := match S.hp.get b with | some (.arr _ l) => l | some (.grd _ _ l) => l | some (.own _ _ _ l) => l | _ => []
abbrev SQ := AEx → SS → Prop
structure Ctx where
  P : Program
  con : FuncId → Option Con
  ora : FuncId → Option Value
  bits : Nat
  ann : FuncId → Nat → Option Ann
  tab : FuncId → Option Con := fun _ => none
  srt : FuncId → Option RowF := fun _ => none
  srtC : FuncId → Bool := fun _ => false
  frz : FuncId → Nat → List (Tmp × Nat × TypeId) := fun _ _ => []
  conF : TypeId → Option (D → Con) := fun _ => none
  join : FuncId → Nat → Option Ann := fun _ _ => none
  sm : TypeId → Bool := fun _ => false
  ownB : TypeId → Bool := fun _ => false
abbrev SRun := FuncId → Code → SS → SQ → Prop
noncomputable def resS (P : Program) (S : SS) : List ResultVar → (List V → Prop) → Prop
  | [], K => K []
  | .tmp t :: rs, K => (match S.fr.get t with | some v => resS P S rs fun vs => K (v :: vs) | none => False)
  | .cell a t :: rs, K => (match S.fr.get a with | some a => symLoad P S t a fun v => resS P S rs fun vs => K (v :: vs) | none => False)
noncomputable def frameS (args : List V) : Nat → T V → T V :=
  List.rec (fun _ t => t) (fun v _ ih n t => ih (Nat.succ n) (t.put n (some v))) args
noncomputable def isDfr (S : SS) (b : Nat) : Bool := match S.hp.get b with | some .dfr => true | _ => false
def beqL : List Nat → List Nat → Bool
  | [], [] => true
  | a :: l, b :: r => Nat.beq a b && beqL l r
  | _, _ => false
noncomputable def symOff : List Nat → SS → (SS → Prop) → Prop
  | [], S, K => K S
  | b :: l, S, K => cond (isDfr S b && Nat.ble S.ro b) (symOff l (S.write b none) K) False
noncomputable def symInline (C : Ctx) (run : SRun) (g : FuncId) (args : List V) (S : SS) (K : V → SS → Prop) : Prop :=
  match cond (Nat.testBit C.bits g) C.P.funcs[g]? none with
  | some fn =>
    match fn.body with
    | some body =>
      cond (Nat.blt fn.ntmps args.length || Nat.blt 1000000 fn.ntmps) False
        (run g body { S with fr := frameS args 0 .leaf, sz := fn.ntmps, fl := S.nx, mks := [] } fun e S1 =>
          match e with
          | .exit _ => False
          | _ => symOff S1.mks S1 fun S1 => resS C.P S1 fn.results.toList fun vs =>
            match vs with
            | [v] => K v { S1 with fr := S.fr, sz := S.sz, fl := S.fl, mks := S.mks }
            | vs => K (.tup vs) { S1 with fr := S.fr, sz := S.sz, fl := S.fl, mks := S.mks })
    | none => False
  | none => False
structure symSort (P : Program) (f : RowF) (S : SS) (args : List V) (K : V → SS → Prop) : Prop where
  out : False
structure symSortC (C : Ctx) (run : SRun) (S : SS) (args : List V) (K : V → SS → Prop) : Prop where
  out : False
noncomputable def symCall (C : Ctx) (run : SRun) (g : FuncId) (ts : List TypeId) (args : List V) (S : SS) (K : V → SS → Prop) : Prop :=
  match externA C.P g [undef], args, C.ora g with
  | some _, [x], _ => K x S
  | some _, _, _ => False
  | none, [], some v => cond (flat1 v) (K (.val v) S) False
  | none, args, _ =>
   match C.tab g with
   | some c => (match c args with | some (p, r) => p ∧ K r S | none => False)
   | none =>
    match C.srt g with
    | some f => symSort C.P f S args K
    | none => cond (C.srtC g) (symSortC C run S args K) (match C.con g with
    | some c =>
      lendAll C.P S ts args fun as =>
        match c as with
        | some (p, r) => cond (r.freeR && (r.plainR || args.all V.freeR)) (p ∧ K r S) (frzL C.P ts args S fun bs S1 => match c bs with | some (p1, r1) => p1 ∧ cond (r1.freeR && bs.all V.freeR) (K r1 S1) False | none => False)
        | none => False
    | none => symInline C run g args S K)
noncomputable def symExts (C : Ctx) (g : FuncId) (args : List V) (S : SS) (K : V → SS → Prop) (no : Prop) : Prop := no
noncomputable def symFnd (C : Ctx) (t : TypeId) (ts : List TypeId) (d : D) (args : List V) (S : SS) (K : V → SS → Prop) : Prop :=
  match C.conF t with
  | some c => lendAll C.P S ts args fun as =>
      match c d as with
      | some (p, r) => cond r.plainR (p ∧ K r S) False
      | none => False
  | none => False
noncomputable def setAll {α : Type} (l : List (Nat × α)) : T α → T α := List.rec (fun t => t) (fun x _ ih t => ih (t.put x.1 (some x.2))) l
def noRange : Code → Bool
  | .rangeFunc _ _ _ _ => false
  | .seq a b => noRange a && noRange b
  | .cond _ a b => noRange a && noRange b
  | .block _ b => noRange b
  | .loop b => noRange b
  | .scope b => noRange b
  | _ => true
def notIn (b : Nat) (l : List Nat) : Bool := l.all fun x => !Nat.beq x b
noncomputable def backY (S S2 : SS) (b : Nat) (k : SB) : SS := { S2 with fr := S.fr, sz := S.sz, fl := S.fl, mks := S.mks, hp := S2.hp.put b (some k) }
noncomputable def symYield (run : SRun) (b : Nat) (args : List V) (S : SS) (K : V → SS → Prop) : Prop :=
  match S.hp.get b with
  | some (.lp .ready g fr sz ps as bd) =>
    cond (Nat.beq args.length ps.toList.length && Nat.ble S.ro b && Nat.blt b S.nx && ps.toList.all (fun d => Nat.blt d sz) && noRange as && noRange bd)
      (run g as { S with fr := setAll (ps.toList.zip args) fr, sz := sz, fl := S.nx, mks := [] } fun e S1 =>
        match e with
        | .normal => cond (notIn b S1.wr)
            (run g bd { S1 with hp := S1.hp.put b (some (.lp .busy g fr sz ps as bd)) } fun e2 S2 => cond (notIn b S2.wr)
              (match e2 with
               | .normal => K (.val (.bool true)) (backY S S2 b (.lp .ready g fr sz ps as bd))
               | .ret => K (.val (.bool false)) { backY S S2 b (.lp .ret g fr sz ps as bd) with wr := b :: S2.wr }
               | .exit id => K (.val (.bool false)) { backY S S2 b (.lp (.exit id) g fr sz ps as bd) with wr := b :: S2.wr }) False) False
        | _ => False) False
  | _ => False
noncomputable def symCallOp (C : Ctx) (run : SRun) (c : Call) (S : SS) (K : V → SS → Prop) : Prop :=
  withVs S c.args.toList fun args =>
    match c.callee with
    | .builtin .len => (match args, c.argTypes.toList with | [x], t :: _ => symLen C.P t x fun v => K v S | _, _ => False)
    | .builtin .append => (match args, c.argTypes.toList with | [s, x], t :: t2 :: _ => cond (isIntT C.P t2) (symAppendZ C.P S t t2 s x K) (symAppendX C.P S t t2 s x K) | _, _ => False)
    | .builtin .copy => (match args, c.argTypes.toList with | [d, x], t :: _ => symCopy C.P S t d x K | _, _ => False)
    | .builtin .clear => (match args, c.argTypes.toList with | [x], t :: _ => symClear C.P S t x K | _, _ => False)
    | .builtin .unsafeSliceData => (match args with | [x] => symData x K S | _ => False)
    | .builtin .unsafeString => (match args, c.argTypes.toList with | [p, n], t :: _ => symUStr C.P S t p n K | _, _ => False)
    | .builtin .min => symMinMax false args fun v => K v S
    | .builtin .max => symMinMax true args fun v => K v S
    | .value f => withV S f fun fv => match fv with
      | .fn g first cap => symExts C g (first ++ (args ++ cap)) S K (symCall C run g (cond first.isEmpty c.argTypes.toList []) (first ++ (args ++ cap)) S K)
      | .fnd t d => symFnd C t c.argTypes.toList d args S K
      | .yld b => symYield run b args S K
      | _ => False
    | .builtin .cap => (match args, c.argTypes.toList with | [x], t :: _ => symCap C.P t x fun v => K v S | _, _ => False)
    | _ => False
noncomputable def offsT (P : Program) (e : TypeId) : Bool := match P.underlying e with | some (.struct fs) => offsOK P fs.toList 0 | _ => false
noncomputable def symLoadF (P : Program) (S : SS) (t : TypeId) (a : V) (K : V → Prop) : Prop :=
  match a with
  | .epf b i e f =>
    (match S.hp.get b, fieldA P e f with
     | some (.arr e' l), some fd => cond (Nat.beq e e' && Nat.beq fd.type t && offsT P e && hasSize P t) (i.v < l.length ∧ withCells P t ((nthD l i.v).fld f) K) False
     | _, _ => False)
  | a => symLoad P S t a K
noncomputable def symParts (S : SS) (parts : List (Nat × Operand)) : (List (Nat × V) → Prop) → Prop :=
  List.rec (fun K => K []) (fun x _ ih K => withV S x.2 fun v => ih fun l => K ((x.1, v) :: l)) parts
noncomputable def symOp (C : Ctx) (run : SRun) (o : Op) (S : SS) (K : V → SS → Prop) : Prop :=
  match o with
  | .call c => symCallOp C run c S K
  | .move x | .assign x => withV S x fun v => K v S
  | .pick c a b => withV S c fun c => withV S a fun a => withV S b fun b => symPick c a b fun v => K v S
  | .alloc e => symAlloc C.P (C.sm e) S e K
  | .box e x => withV S x fun v => symBox S e v K
  | .build t parts => symParts S parts.toList fun ps => symBuild C.P t ps fun v => K v S
  | .buildSlice t len parts => symParts S parts.toList fun ps => cond (C.ownB t) (symBuildOwn C.P S t len ps K) (frzParts C.P (elemTs C.P t) ps S fun ps S => symBuildSlice C.P S t len ps K)
  | .load t a => withV S a fun a => symLoadF C.P S t a fun v => K v S
  | .store t a x => withV S a fun a => withV S x fun x => symStoreF C.P S t a x K
  | .nilCheck x => withV S x fun x => symNilCheck x fun v => K v S
  | .makeFunc (.func f) first cap => withVs S first.toList fun fs => withVs S cap.toList fun cs => K (.fn f fs cs) S
  | .makeSlice t l c => withV S l fun l => withV S c fun c => symMakeSlice C.P S t l c K
  | .slice t x lo hi mx => withV S x fun x => withO S lo fun lo => withO S hi fun hi => withO S mx fun mx => symSlice C.P S t x lo hi mx fun v => K v S
  | .fieldAddr s x f => withV S x fun x => symFieldAddr C.P s x f fun v => K v S
  | .field t x f => withV S x fun x => symField C.P t x f fun v => K v S
  | .indexAddr t x ix => symIdxOp C.P S t x ix fun v => K v S
  | .index t x ix => withV S x fun x => withV S ix fun ix => symIndex C.P t x ix fun v => K v S
  | .extract t ix => withV S t fun t => symExtract t ix fun v => K v S
  | .binOp op t x y _ => withV S x fun a => withV S y fun b => symBin C.P op t x y a b fun v => K v S
  | .unOp op _ x => withV S x fun x => symUn op x fun v => K v S
  | .convert s d x => withV S x fun x => symConvS C.P S s d x fun v => K v S
  | _ => False
noncomputable def symFetch (S : SS) (ops : Array Oper) (o : Oper) (yes no : SS → Prop) : Prop :=
  match o.guard with
  | none => yes S
  | some (j, want) =>
    match (ops[j]?).bind (·.dst) with
    | some d =>
      (match S.fr.get d with
       | some (.val (.bool b)) => cond (b == want) (yes S) (no S)
       | some (.val (.tuple _)) => no S
       | some (.prop p) =>
         cond want ((p → yes { S with fr := S.fr.put d (some (.val (.bool true))) }) ∧ (¬ p → no { S with fr := S.fr.put d (some (.val (.bool false))) }))
           ((¬ p → yes { S with fr := S.fr.put d (some (.val (.bool false))) }) ∧ (p → no { S with fr := S.fr.put d (some (.val (.bool true))) }))
       | _ => False)
    | none => False
noncomputable def symOps (C : Ctx) (run : SRun) (ops : Array Oper) : List Oper → SS → (SS → Prop) → Prop :=
  fun l => List.rec (fun S K => K S) (fun o _ ih S K =>
    symFetch S ops o (fun S => symOp C run o.op S fun v S1 => S1.put o.dst (some v) fun S2 => ih S2 K) (fun S => S.put o.dst (some (.val undef)) fun S2 => ih S2 K)) l
def dstIs (t : Nat) (o : Oper) : Bool := match o.dst with | some d => Nat.beq d t | none => false
noncomputable def symFrzS (P : Program) (ops : Array Oper) (ts : List TypeId) : List (Nat × Operand) → SS → (SS → Prop) → Prop
  | [], S, K => K S
  | x :: l, S, K =>
    match x.2 with
    | .tmp t =>
      (match S.fr.get t with
       | some (.slc b o n c) =>
         (match ts with
          | ty :: _ => cond (ops.toList.any (dstIs t)) (frz1 P S ty (.slc b o n c) fun u S1 => symFrzS P ops ts l { S1 with fr := S1.fr.put t (some u) } K) False
          | [] => symFrzS P ops ts l S K)
       | _ => symFrzS P ops ts l S K)
    | _ => symFrzS P ops ts l S K
noncomputable def symPreF (P : Program) (ops : Array Oper) (o : Op) (S : SS) (K : SS → Prop) : Prop :=
  match o with
  | .buildSlice t _ parts => symFrzS P ops (elemTs P t) parts.toList S K
  | _ => K S
noncomputable def symPre (C : Ctx) (run : SRun) (ops : Array Oper) : List Oper → SS → (SS → Prop) → Prop :=
  fun l => List.rec (fun S K => K S) (fun o _ ih S K =>
    symFetch S ops o (fun S => symPreF C.P ops o.op S fun S => symOp C run o.op { S with ro := S.nx } fun v S1 => { S1 with ro := S.ro }.put o.dst (some v) fun S2 => ih S2 K) (fun S => S.put o.dst (some (.val undef)) fun S2 => ih S2 K)) l
noncomputable def symSoft (C : Ctx) (run : SRun) (n0 : Nat) (o : Op) (S : SS) (K : V → SS → Prop) : Prop :=
  match o with
  | .load t a => withV S a fun a => match a with | .ptr b off => cond (Nat.blt b n0) (symLoad C.P S t (.ptr b off) fun v => K v S) False | _ => False
  | o => symOp C run o S K
noncomputable def symEarly (C : Ctx) (run : SRun) (ops : Array Oper) (n0 : Nat) (g : Bool) : List Oper → SS → (SS → Prop) → Prop :=
  fun l => List.rec (fun S K => K S) (fun o _ ih S K =>
    symFetch S ops o (fun S => cond (softOp o.op) (symSoft C run n0 o.op S fun v S1 => S1.put o.dst (some v) fun S2 => ih S2 K)
      (symOp C run o.op { S with ro := cond g S.nx n0 } fun v S1 => { S1 with ro := n0 }.put o.dst (some v) fun S2 => ih S2 K)) (fun S => S.put o.dst (some (.val undef)) fun S2 => ih S2 K)) l
def SB.isRow : SB → Bool
  | .lp _ _ _ _ _ _ _ | .dfr => false
  | _ => true
noncomputable def isBox (S : SS) (b : Nat) : Bool := match S.hp.get b with | some k => k.isRow | none => false
noncomputable def footB : V → Option Nat
  | .ptr b _ | .ept b _ | .epf b _ _ _ => some b
  | _ => none
noncomputable def footS : V → Option Nat
  | .slc b _ _ _ => some b
  | _ => none
noncomputable def footV (f : V → Option Nat) (S : SS) (x : Operand) (K : Nat → Prop) : Prop := withV S x fun a => match f a with | some b => cond (isBox S b) (K b) False | none => False
noncomputable def symFoot (S : SS) (o : Op) (K : List Nat → List Nat → Prop) : Prop :=
  match o with
  | .load _ a => footV footB S a fun b => K [b] []
  | .store _ a _ => footV footB S a fun b => K [] [b]
  | .convert _ _ x => withV S x fun x => match intOf x with | some _ => K [] [] | none => False
  | .slice _ x _ _ _ => footV footS S x fun b => K [b] []
  | _ => K [] []
noncomputable def symC (C : Ctx) (run : SRun) (ops : Array Oper) : List Oper → SS → List Nat → List Nat → (SS → Prop) → Prop :=
  fun l => List.rec (fun S ld st K => cond ((ld.all fun b => st.all fun b' => !Nat.beq b b') && (ld.all fun b => isBox S b) && (st.all fun b => isBox S b)) (K S) False) (fun o _ ih S ld st K =>
    symFetch S ops o (fun S => cond (ld.all fun b => isBox S b) (symFoot S o.op fun l1 s1 => symOp C run o.op S fun v S1 => S1.put o.dst (some v) fun S2 => ih S2 (l1 ++ ld) (s1 ++ st) K) False) (fun S => S.put o.dst (some (.val undef)) fun S2 => ih S2 ld st K)) l
noncomputable def symDraw (C : Ctx) (run : SRun) (ops : Array Oper) (W : Nat) (S : SS) (Q : SQ) : Prop :=
  cond (wantB ops (tailFrom (softOf ops) (masks ops.toList []) W) W)
    (cond (drawOKB ops (masks ops.toList []) (tailFrom (softOf ops) (masks ops.toList []) W) W)
      (symEarly C run ops S.nx true (ops.toList.take (tailFrom (softOf ops) (masks ops.toList []) W)) { S with ro := S.nx } fun S1 =>
        symEarly C run ops S.nx false ((ops.toList.take W).drop (tailFrom (softOf ops) (masks ops.toList []) W)) S1 fun S2 =>
          symOps C run ops (ops.toList.drop W) { S2 with ro := S.ro } fun S3 => Q .normal S3) False)
    (cond (wantC ops W) (cond (drawOKC ops (masks ops.toList [])) (symC C run ops ops.toList S [] [] fun S1 => Q .normal S1) False) (cond (drawOK ops (masks ops.toList []) W)
      (symPre C run ops (ops.toList.take W) S fun S1 => symOps C run ops (ops.toList.drop W) S1 fun S2 => Q .normal S2) False))
noncomputable def symRegion (C : Ctx) (run : SRun) (ops : Array Oper) (draw : Bool) (S : SS) (Q : SQ) : Prop :=
  cond draw (symDraw C run ops (tailFrom (freeOf ops) (masks ops.toList []) ops.size) S Q)
    (symOps C run ops ops.toList S fun S1 => Q .normal S1)
noncomputable def firstId : Code → Option Nat
  | .region id _ _ => some id
  | .seq a b => (match firstId a with | some i => some i | none => firstId b)
  | .cond _ a b => (match firstId a with | some i => some i | none => firstId b)
  | .block _ b | .loop b | .scope b => firstId b
  | _ => none
def condT : Operand → List Tmp | .tmp t => [t] | _ => []
noncomputable def writesOf : Code → List Tmp
  | .region _ ops _ => ops.toList.filterMap (·.dst) ++ ops.toList.filterMap (fun o => match o.guard with | some (j, _) => (ops[j]?).bind (·.dst) | none => none)
  | .seq a b => writesOf a ++ writesOf b
  | .cond c a b => condT c ++ (writesOf a ++ writesOf b)
  | .block _ b | .loop b | .scope b => writesOf b
  | _ => []
noncomputable def clearAll {α : Type} (l : List Nat) : T α → T α := List.rec (fun t => t) (fun n _ ih t => ih (t.put n none)) l
noncomputable def verUp (k : SB) (n : Nat) : Nat := match k with | .own v _ _ _ => cond (Nat.ble n v) (Nat.succ v) n | _ => n
noncomputable def maxId : List (Nat × SB) → Nat → Nat
  | [], n => n
  | x :: l, n => maxId l (verUp x.2 (cond (Nat.ble n x.1) (Nat.succ x.1) n))
noncomputable def headS (S : SS) (b : Code) (slots : List (Tmp × V)) (blks : List (Nat × SB)) : SS :=
  { S with fr := setAll slots (clearAll (writesOf b) S.fr), hp := setAll blks S.hp, nx := maxId blks S.nx, wr := [] }
noncomputable def renV : V → V → List (Nat × Nat)
  | .slc b _ _ _, .slc b0 _ _ _ => [(b0, b)]
  | _, _ => []
noncomputable def sameNL : Option NL → Option NL → Prop
  | none, none => True
  | some a, some b => a.v = b.v
  | _, _ => False
noncomputable def vMatch1 (v v0 : V) : Prop :=
  match v0 with
  | .int k0 n0 => (match intOf v with | some (k, n) => cond (k == k0) (n = n0) False | none => False)
  | .prop p0 => (match propOf v with | some p => (p ↔ p0) | none => False)
  | .str s0 => (match strOf v with | some s => s = s0 | none => False)
  | .dat t0 d0 =>
    (match v with
     | .dat t d => cond (Nat.beq t t0) (d = d0) False
     | _ => False)
  | .dpt t0 d0 => (match v with | .dpt t d => cond (Nat.beq t t0) (d = d0) False | _ => False)
  | .fnd t0 d0 => (match v with | .fnd t d => cond (Nat.beq t t0) (d = d0) False | _ => False)
  | .val (.slice none 0 0) => (match v with | .val (.slice none 0 0) => True | _ => False)
  | .val (.pointer none) => (match v with | .val (.pointer none) => True | _ => False)
  | .val (.int k0 n0) => (match v with | .val (.int k n) => cond (k == k0) (n = n0) False | _ => False)
  | .ptr b0 o0 => (match v with | .ptr b o => cond (Nat.beq b b0 && Nat.beq o o0) True False | _ => False)
  | .slc _ o0 n0 c0 => (match v with | .slc _ o n c => o.v = o0.v ∧ n.v = n0.v ∧ sameNL c c0 | _ => False)
  | .osl b0 v0 i0 n0 => (match v with | .osl b v i n => cond (Nat.beq b b0 && Nat.beq v v0) (i.v = i0.v ∧ n.v = n0.v) False | _ => False)
  | _ => False
noncomputable def vMatchR (ren : Nat → Nat) (v v0 : V) : Prop :=
  match v0 with
  | .slc b0 o0 n0 c0 => (match v with | .slc b o n c => cond (Nat.beq (ren b0) b) (vMatch1 (.slc b o n c) (.slc b0 o0 n0 c0)) False | _ => False)
  | v0 => vMatch1 v v0
noncomputable def bMatch (ren : Nat → Nat) (k k0 : SB) : Prop :=
  match k, k0 with
  | .arr e l, .arr e0 l0 => cond (Nat.beq e e0) (l = l0) False
  | .grd a e l, .grd a0 e0 l0 => cond (Nat.beq a a0 && Nat.beq e e0) (l = l0) False
  | .own _ e e' l, .own _ e0 e0' l0 => cond (Nat.beq e e0 && Nat.beq e' e0') (l = l0) False
  | .arr e l, .own _ e0 _ l0 => cond (Nat.beq e e0) (l = l0 ∧ allNil l) False
  | .box e cs, .box e0 cs0 => cond (Nat.beq e e0) (vs ren cs cs0) False
  | _, _ => False
  where vs (ren : Nat → Nat) : List V → List V → Prop
  | [], [] => True
  | v :: l, v0 :: l0 => vMatchR ren v v0 ∧ vs ren l l0
  | _, _ => False
noncomputable def slotsMatch (S : SS) (ren : Nat → Nat) : List (Tmp × V) → Prop
  | [] => True
  | (t, v0) :: l =>
    (match S.fr.get t with
     | some v => (match v, v0 with | .slc b _ _ _, .slc b0 _ _ _ => cond (Nat.beq (ren b0) b) (vMatch1 v v0) False | v, v0 => vMatch1 v v0)
     | none => False) ∧ slotsMatch S ren l
noncomputable def rens (S : SS) : List (Tmp × V) → List (Nat × Nat)
  | [] => []
  | (t, v0) :: l => (match S.fr.get t with | some v => renV v v0 | none => []) ++ rens S l
noncomputable def rensL : List V → List V → List (Nat × Nat)
  | v :: l, v0 :: l0 => renV v v0 ++ rensL l l0
  | _, _ => []
noncomputable def rensB (S : SS) : List (Nat × SB) → List (Nat × Nat)
  | [] => []
  | (b0, k0) :: l => (match S.hp.get b0, k0 with | some (.box _ cs), .box _ cs0 => rensL cs cs0 | _, _ => []) ++ rensB S l
noncomputable def rensA (S : SS) (slots : List (Tmp × V)) (blks : List (Nat × SB)) : List (Nat × Nat) := rens S slots ++ rensB S blks
noncomputable def renOf (l : List (Nat × Nat)) (b : Nat) : Nat := match l with | [] => b | (x, y) :: l => cond (Nat.beq x b) y (renOf l b)
noncomputable def blksMatch (S : SS) (ren : Nat → Nat) : List (Nat × SB) → Prop
  | [] => True
  | (b0, k0) :: l => (match S.hp.get (ren b0) with | some k => bMatch ren k k0 | none => False) ∧ blksMatch S ren l
noncomputable def allListed (S0 : SS) (blks : List (Nat × SB)) (wr : List Nat) : Bool := wr.all fun b => Nat.ble S0.nx b || (blks.any (fun x => Nat.beq x.1 b) || (match S0.hp.get b with | none => true | some _ => false))
def V.refs : V → List Nat
  | .ptr b _ => [b]
  | .ept b _ => [b]
  | .slc b _ _ _ => [b]
  | .epf b _ _ _ => [b]
  | .agg cs => refsL cs
  | .tup cs => refsL cs
  | .fn _ fs cs => refsL fs ++ refsL cs
  | .osl b v _ _ => [b, v]
  | .oel b v _ _ => [b, v]
  | .yld b => [b]
  | _ => []
  where refsL : List V → List Nat
  | [] => []
  | v :: l => V.refs v ++ refsL l
noncomputable def T.toL {α : Type} (t : T α) : List α := T.rec [] (fun _ v _ hl hr => hl ++ (v.toList ++ hr)) t
noncomputable def SB.refs : SB → List Nat
  | .lp _ _ fr _ _ _ _ => V.refs.refsL fr.toL
  | .dfr => []
  | .box _ cs => V.refs.refsL cs
  | .arr _ _ | .grd _ _ _ => []
  | .own v _ _ _ => [v]
noncomputable def T.all {α : Type} (p : Nat → α → Bool) (t : T α) : (Nat → Nat) → Bool :=
  T.rec (fun _ => true) (fun _ v _ hl hr f => (match v with | some a => p (f 0) a | none => true) && hl (fun n => f (2 * n + 1)) && hr (fun n => f (2 * n + 2))) t
noncomputable def refOK (S0 : SS) (ren : List (Nat × Nat)) (blks : List (Nat × SB)) (v : V) : Bool :=
  match v with
  | .slc b _ _ _ => blks.any fun y => Nat.beq y.1 b
  | v => v.refs.all fun r => Nat.blt r S0.nx && Nat.beq (renOf ren r) r
noncomputable def SB.refOK (S0 : SS) (ren : List (Nat × Nat)) (blks : List (Nat × SB)) (k : SB) : Bool :=
  match k with
  | .box _ cs => cs.all (Go.Ev.refOK S0 ren blks)
  | .arr _ _ | .grd _ _ _ | .own _ _ _ _ => true
  | .lp _ _ _ _ _ _ _ | .dfr => false
noncomputable def ownOK (S0 : SS) (blks : List (Nat × SB)) : Bool :=
  blks.all fun y => match y.2 with | .own v _ _ _ => Nat.ble S0.nx v && blks.all (fun y' => Nat.beq y'.1 y.1 || (match y'.2 with | .own v' _ _ _ => !Nat.beq v v' | _ => true)) | _ => true
noncomputable def isGone (S : SS) (b : Nat) : Bool := match S.hp.get b with | none => true | some _ => false
noncomputable def renOK (S0 : SS) (ren : List (Nat × Nat)) (blks : List (Nat × SB)) (slots : List (Tmp × V)) (cleared : T V) : Bool :=
  ren.all (fun x => blks.any fun y => Nat.beq y.1 x.1) &&
  (ren.all (fun x => Nat.beq x.1 x.2 || (Nat.ble S0.fl x.1 && (Nat.ble S0.nx x.2 || Nat.ble S0.ro x.2 && isGone S0 x.2) && blks.all (fun y => Nat.beq y.1 x.1 || !Nat.beq (renOf ren y.1) x.2))) &&
  (ren.all (fun x => Nat.beq (renOf ren x.1) x.2) &&
  (T.all (fun _ v => v.refs.all fun r => Nat.blt r S0.nx && Nat.beq (renOf ren r) r) cleared (fun n => n) &&
  (T.all (fun b k => blks.any (fun y => Nat.beq y.1 b) || k.refs.all fun r => Nat.blt r S0.nx && Nat.beq (renOf ren r) r) S0.hp (fun n => n) &&
  (slots.all (fun x => match x.2 with | .slc _ _ _ _ => true | v => v.refs.all fun r => Nat.blt r S0.nx && Nat.beq (renOf ren r) r) &&
  blks.all (fun y => y.2.refOK S0 ren blks))))))
noncomputable def mkM (S0 S1 : SS) (ren : List (Nat × Nat)) (blks : List (Nat × SB)) : Bool :=
  beqL S1.mks S0.mks && S0.mks.all fun b => isDfr S0 b && Nat.beq (renOf ren b) b && !(blks.any fun y => Nat.beq y.1 b)
noncomputable def matchS (S0 S1 : SS) (b : Code) (slots : List (Tmp × V)) (blks : List (Nat × SB)) : Prop :=
  cond (allListed S0 blks S1.wr && blks.all (fun y => Nat.ble S0.ro y.1) && slots.all (fun x => (writesOf b).any fun t => Nat.beq t x.1) && renOK S0 (rensA S1 slots blks) blks slots (clearAll (writesOf b) S0.fr) && ownOK S0 blks && mkM S0 S1 (rensA S1 slots blks) blks)
    (slotsMatch S1 (renOf (rensA S1 slots blks)) slots ∧ blksMatch S1 (renOf (rensA S1 slots blks)) blks) False
def LIM : Nat := 1000000000
def orN : Nat → (Nat → Prop) → Prop
  | 0, _ => False
  | 1, p => p 0
  | n + 2, p => orN (n + 1) p ∨ p (n + 1)
def andN : Nat → (Nat → Prop) → Prop
  | 0, _ => True
  | 1, p => p 0
  | n + 2, p => andN (n + 1) p ∧ p (n + 1)
noncomputable def killT (l : List Nat) (t : T SB) : T SB := match l with | [] => t | b :: l => killT l (t.put b none)
noncomputable def killL (l : List Nat) (S : SS) : SS := { S with hp := killT l S.hp, wr := l ++ S.wr }
noncomputable def symLoop1 (A : Ann) (ih : Code → SS → SQ → Prop) (b : Code) (S S0 : SS) (Q : SQ) : Prop :=
  (orN A.hs fun i => ∃ x, A.inv S i x ∧ matchS S0 { S with wr := [] } b (A.slots S i x) (A.blks S i x)) ∧
  andN A.hs fun i => ∀ x, A.inv S i x → A.meas S i x < LIM ∧ ih b (headS S0 b (A.slots S i x) (A.blks S i x)) fun e S1 =>
    match e with
    | .normal => orN A.hs fun i' => ∃ y, A.inv S i' y ∧ A.meas S i' y < A.meas S i x ∧ matchS S0 { S1 with wr := S1.wr ++ (A.blks S i x).map (·.1) } b (A.slots S i' y) (A.blks S i' y)
    | e => Q e { S1 with wr := S1.wr ++ ((A.blks S i x).map (·.1) ++ S0.wr) }
noncomputable def symLoop (A : Ann) (ih : Code → SS → SQ → Prop) (b : Code) (S : SS) (Q : SQ) : Prop :=
  cond ((A.dead S).all fun b => Nat.ble S.ro b) (symLoop1 A ih b S (killL (A.dead S) S) Q) False
noncomputable def symJoin (A : Ann) (ih : Code → SS → SQ → Prop) (a b : Code) (S : SS) (Q : SQ) : Prop :=
  (ih a { S with wr := [] } fun e S1 =>
    match e with
    | .normal => orN A.hs fun i => ∃ x, A.inv S i x ∧ matchS S S1 a (A.slots S i x) (A.blks S i x)
    | e => Q e { S1 with wr := S1.wr ++ S.wr }) ∧
  andN A.hs fun i => ∀ x, A.inv S i x → ih b (headS S a (A.slots S i x) (A.blks S i x)) fun e S1 => Q e { S1 with wr := S1.wr ++ ((A.blks S i x).map (·.1) ++ S.wr) }
noncomputable def symCond (S : SS) (c : Operand) (yes no : SS → Prop) : Prop :=
  match c with
  | .tmp t =>
    (match S.fr.get t with
     | some (.val (.bool b)) => cond b (yes S) (no S)
     | some (.prop p) => (p → yes { S with fr := S.fr.put t (some (.val (.bool true))) }) ∧ (¬ p → no { S with fr := S.fr.put t (some (.val (.bool false))) })
     | _ => False)
  | .const (.bool b) => cond b (yes S) (no S)
  | _ => False
noncomputable def symRange (C : Ctx) (out : SRun) (g : FuncId) (f : Operand) (ps : Array Tmp) (as bd : Code) (S : SS) (Q : SQ) : Prop :=
  withV S f fun fv =>
    match fv with
    | .fn gf first cap =>
      symInline C out gf (first ++ .yld (Nat.succ S.nx) :: cap) ((S.alloc .dfr).alloc (.lp .ready g S.fr S.sz ps as bd)) fun _ S3 =>
        cond (Nat.ble S3.ro (Nat.succ S.nx)) (match S3.hp.get (Nat.succ S.nx) with
           | some (.lp .ready _ _ _ _ _ _) => Q .normal { S3.write (Nat.succ S.nx) none with mks := S.nx :: S3.mks }
           | some (.lp .ret _ _ _ _ _ _) => Q .ret { S3.write (Nat.succ S.nx) none with mks := S.nx :: S3.mks }
           | some (.lp (.exit id) _ _ _ _ _ _) => Q (.exit id) { S3.write (Nat.succ S.nx) none with mks := S.nx :: S3.mks }
           | _ => False) False
    | _ => False
noncomputable def symStep (C : Ctx) (out : SRun) (g : FuncId) (ih : Code → SS → SQ → Prop) (c : Code) (S : SS) (Q : SQ) : Prop :=
  match c with
  | .skip | .label _ => Q .normal S
  | .seq a b =>
    (match (firstId b).bind (C.join g) with
     | none => ih a S fun e S1 => match e with | .normal => ih b S1 Q | e => Q e S1
     | some A => symJoin A ih a b S Q)
  | .cond c a b => symCond S c (fun S => ih a S Q) (fun S => ih b S Q)
  | .block id b => ih b S fun e S1 => match e with | .exit id' => cond (Nat.beq id' id) (Q .normal S1) (Q (.exit id') S1) | e => Q e S1
  | .loop b =>
    (match (firstId b).bind (C.ann g) with
     | some A => symLoop A ih b S Q
     | none => ih b S fun e S1 => match e with | .normal => ih (.loop b) S1 Q | e => Q e S1)
  | .exit id => Q (.exit id) S
  | .ret => Q .ret S
  | .scope b => ih b S Q
  | .region id ops draw => cond (hasDefer ops) False (symRegion C out ops draw S fun e S1 => symFrz C.P (C.frz g id) S1 fun S2 => Q e S2)
  | .rangeFunc f ps as bd => symRange C out g f ps as bd S Q
  | _ => False
noncomputable def symIn (C : Ctx) (out : SRun) (k : Nat) : SRun := fun g => Nat.rec (fun _ _ _ => False) (fun _ ih => symStep C out g ih) k
noncomputable def symRun (C : Ctx) (d : Nat) : SRun := Nat.rec (fun _ _ _ _ => False) (fun _ ih => symIn C ih 100000) d
noncomputable def fnAll (f : V → Option (TypeId × D)) : List V → Option (List TypeId × List D)
  | [] => some ([], [])
  | v :: vs => match f v, fnAll f vs with | some (t, d), some (ts, ds) => some (t :: ts, d :: ds) | _, _ => none
noncomputable def isFunT (P : Program) (e : TypeId) : Bool := match P.underlying e with | some (.func _ _ _) => sizeIs P e 1 | _ => false
noncomputable def boxD (P : Program) (fnD : V → Option D) (e : TypeId) (cs : List V) : Option D :=
  match cs with
  | [.fn g fs caps] => cond (isFunT P e) (fnD (.fn g fs caps)) none
  | cs => datOf P 20 e cs
noncomputable def fnD (P : Program) (S : SS) : Nat → V → Option D
  | _, .fnd _ d => some d
  | n + 1, .fn g [] caps =>
    (match fnAll (fun v => match v with
      | .ptr b 0 => (match S.hp.get b with | some (.box e cs) => cond (posT P e) (match boxD P (fnD P S n) e cs with | some d => some (e, d) | none => none) none | _ => none)
      | .dpt t d => some (t, d)
      | _ => none) caps with
     | some (ts, ds) => some (.fn g ts ds)
     | none => none)
  | _, _ => none
noncomputable def ret1 (P : Program) (S : SS) (v r : V) : Prop :=
  match r with
  | .dat t d =>
    (match v with
     | .slc b o n _ =>
       (match S.hp.get b with
        | some (.arr e l) => cond (isSliceOf P t e) (o.v + n.v ≤ l.length ∧ .list ((l.drop o.v).take n.v) = d) False
        | some (.own _ e _ l) => cond (isSliceOf P t e) (o.v + n.v ≤ l.length ∧ noHole l ∧ isRowT P e ∧ .list ((l.drop o.v).take n.v) = d) False
        | _ => False)
     | .val (.slice none 0 0) => cond (isSliceT P t && sizeIs P t 1) (.nil = d) False
     | v => vMatch1 v r)
  | .fnd _ d => (match fnD P S 8 v with | some d' => d' = d | none => False)
  | r => cond r.free (vMatch1 v r) False
noncomputable def rets (P : Program) (S : SS) : List V → List V → Prop
  | [], [] => True
  | v :: vs, r :: rs => ret1 P S v r ∧ rets P S vs rs
  | _, _ => False
noncomputable def ret2 (P : Program) (S : SS) (v r : V) : Prop :=
  match r with
  | .agg rs => (match v with | .agg vs => rets P S vs rs | _ => False)
  | r => ret1 P S v r
noncomputable def rets2 (P : Program) (S : SS) : List V → List V → Prop
  | [], [] => True
  | v :: vs, r :: rs => ret2 P S v r ∧ rets2 P S vs rs
  | _, _ => False
noncomputable def retMatch (P : Program) (S : SS) (v r : V) : Prop :=
  match r with
  | .tup rs => (match v with | .tup vs => rets2 P S vs rs | _ => False)
  | r => ret2 P S v r
noncomputable def symFun (C : Ctx) (d : Nat) (g : FuncId) (args : List V) (r : V) : Prop :=
  symInline C (symRun C d) g args { fr := .leaf, sz := 0, hp := .leaf, nx := 0, ro := 0, fl := 0, wr := [] } fun v S => retMatch C.P S v r
end Go.Ev
