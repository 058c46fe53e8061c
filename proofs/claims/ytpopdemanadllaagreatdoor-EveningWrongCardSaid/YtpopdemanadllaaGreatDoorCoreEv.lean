/-
  Part of the engine that the claim is proved with: it states nothing of the document by itself.
-/
import Derived.Lib.Bytealg
import Derived.RangeFuncLeaves
import Derived.RangeFuncRecord
import Derived.OrdersIn
import Derived.KernelRfl

namespace Go.Ev
def UNK : Nat := 18446744073709551616
def forceNat {β : Type} (n : Nat) (k : Nat → β) : β := Nat.casesOn n (k Nat.zero) (fun m => k (Nat.succ m))
theorem forceNat_eq {β : Type} (n : Nat) (k : Nat → β) : forceNat n k = k n := by cases n <;> rfl
def forceInt {β : Type} (n : Int) (k : Int → β) : β := Int.casesOn n (fun m => forceNat m fun m => k (.ofNat m)) (fun m => forceNat m fun m => k (.negSucc m))
theorem forceInt_eq {β : Type} (n : Int) (k : Int → β) : forceInt n k = k n := by cases n <;> simp [forceInt, forceNat_eq]
def forceBool {β : Type} (b : Bool) (k : Bool → β) : β := Bool.casesOn b (k false) (k true)
theorem forceBool_eq {β : Type} (b : Bool) (k : Bool → β) : forceBool b k = k b := by cases b <;> rfl
inductive T (α : Type) where
 | leaf
 | node (l : T α) (v : Option α) (r : T α)
noncomputable def T.get {α : Type} (t : T α) : Nat → Option α :=
 T.rec (fun _ => none) (fun _ v _ gl gr n => cond (Nat.beq n 0) v (cond (Nat.beq (Nat.mod n 2) 1) (gl (Nat.div n 2)) (gr (Nat.pred (Nat.div n 2))))) t
noncomputable def T.set {α : Type} (k : Nat) : T α → Nat → Option α → T α :=
 Nat.rec (fun t _ _ => t) (fun _ ih t n a => T.casesOn t
  (cond (Nat.beq n 0) (.node .leaf a .leaf)
   (cond (Nat.beq (Nat.mod n 2) 1) (.node (ih .leaf (Nat.div n 2) a) none .leaf) (.node .leaf none (ih .leaf (Nat.pred (Nat.div n 2)) a))))
  (fun l v r => cond (Nat.beq n 0) (.node l a r)
   (cond (Nat.beq (Nat.mod n 2) 1) (.node (ih l (Nat.div n 2) a) v r) (.node l v (ih r (Nat.pred (Nat.div n 2)) a))))) k
inductive AMark where
 | col (D : Nat)
 | fn (g : FuncId) (args : List Value)
structure AFrame where
 size : Nat
 t : T Value
 marks : List AMark
inductive ABk where
 | cells (cs : List Value) (elem : TypeId) (esz : Nat) (mate : Option Nat) (ro : Bool)
 | loop (st : LoopState) (pending : Option Code) (F : AFrame) (params : Array Tmp) (assign body : Code)
 | deferred
structure AHeap where
 t : T ABk
 next : Nat
 wlow : Nat
noncomputable def AHeap.get (h : AHeap) (i : Nat) : Option ABk := h.t.get i
noncomputable def AHeap.alloc (h : AHeap) (bk : ABk) : AHeap := { t := h.t.set (Nat.succ h.next) h.next (some bk), next := Nat.succ h.next, wlow := h.wlow }
noncomputable def AHeap.write (h : AHeap) (i : Nat) (bk : Option ABk) : AHeap := { t := h.t.set (Nat.succ i) i bk, next := h.next, wlow := cond (Nat.ble h.wlow i) h.wlow i }
structure GVar where
 g : Nat
 e : TypeId
 cs : List Value
structure GTab where
 l : List GVar
 N : Nat
noncomputable def GHt : List GVar → T ABk
 | [] => .leaf
 | x :: r => (GHt r).set (Nat.succ x.g) x.g (some (.cells x.cs x.e 0 none true))
def pow10s : List Value := [.int .u64 1, .int .u64 10, .int .u64 100, .int .u64 1000, .int .u64 10000, .int .u64 100000, .int .u64 1000000, .int .u64 10000000, .int .u64 100000000, .int .u64 1000000000, .int .u64 10000000000, .int .u64 100000000000, .int .u64 1000000000000, .int .u64 10000000000000, .int .u64 100000000000000, .int .u64 1000000000000000, .int .u64 10000000000000000, .int .u64 100000000000000000, .int .u64 1000000000000000000, .int .u64 10000000000000000000]
instance : Inhabited GTab := ⟨{ l := [{ g := 0, e := 139, cs := pow10s }], N := 4 }⟩
noncomputable def GH : AHeap := { t := GHt (default : GTab).l, next := (default : GTab).N, wlow := (default : GTab).N }
noncomputable def isG (g : Nat) : Bool := Nat.blt g (default : GTab).N
noncomputable def AFrame.get (F : AFrame) (t : Nat) : Value := match F.t.get t with | some v => v | none => undef
noncomputable def AFrame.put (F : AFrame) (d : Option Tmp) (v : Value) : Option AFrame :=
 match d with
 | some d => cond (Nat.blt d F.size) (some { F with t := F.t.set 40 d (some v) }) none
 | none => some F
noncomputable def aeval (F : AFrame) : Operand → Value
 | .tmp t => F.get t
 | .const v => v
 | .global g => .pointer (some ⟨g, 0, none⟩)
 | .func f => .func (.func f) #[] #[]
noncomputable def flat1 : Value → Bool
 | .bool _ | .int _ _ | .float _ _ | .complex _ _ _ | .string _ | .nilFunc | .nilIface => true
 | .pointer none | .map none | .chan none => true
 | .slice none 0 0 => true
 | .iface _ (.bool _) | .iface _ (.int _ _) | .iface _ (.string _) => true
 | .func (.func _) a b => a.isEmpty && b.isEmpty
 | _ => false
noncomputable def flat : Value → Bool
 | .agg cs => cs.toList.all flat1
 | v => flat1 v
noncomputable def flatR : Value → Bool
 | .tuple vs => vs.toList.all flat
 | v => flat v
noncomputable def okOperand : Operand → Bool
 | .tmp _ => true
 | .const v => flat v || (match v with | .tuple vs => Nat.beq vs.size 0 | _ => false)
 | .global g => isG g
 | .func _ => true
noncomputable def _root_.Go.Sem.val? (P : Program) {α : Type} : Sem α → Option α
 | .pure a => some a
 | .program k => (k P).val? P
 | .mark _ k => k.val? P
 | _ => none
noncomputable def isAggT (P : Program) (t : TypeId) : Option Bool :=
 match P.underlying t with
 | some (.struct _) | some (.array _ _) => some true
 | some _ => some false
 | none => none
noncomputable def sizeT (P : Program) (t : TypeId) : Option Nat := (P.info? t).map (·.size)
noncomputable def zeroT (P : Program) (t : TypeId) : Option Value := (P.info? t).bind (·.zero)
noncomputable def oneCellB : Value → Bool
 | .agg _ | .tuple _ => false
 | _ => true
noncomputable def forceV1 {β : Type} (v : Value) (k : Value → β) : β :=
 match v with
 | .int kd n => forceInt n fun n => k (.int kd n)
 | .bool b => forceBool b fun b => k (.bool b)
 | .slice a l c => forceNat l fun l => forceNat c fun c =>
   match a with
   | none => k (.slice none l c)
   | some ⟨i, o, s⟩ => forceNat i fun i => forceNat o fun o => k (.slice (some ⟨i, o, s⟩) l c)
 | .pointer (some ⟨i, o, s⟩) => forceNat i fun i => forceNat o fun o => k (.pointer (some ⟨i, o, s⟩))
 | v => k v
theorem forceV1_eq {β : Type} (v : Value) (k : Value → β) : forceV1 v k = k v := by
 unfold forceV1; split <;> simp [forceInt_eq, forceBool_eq, forceNat_eq]
 split <;> rfl
noncomputable def forceL {β : Type} (l : List Value) : (List Value → β) → β :=
 List.rec (fun k => k []) (fun v _ ih k => forceV1 v fun v => ih fun l => k (v :: l)) l
theorem forceL_eq {β : Type} (l : List Value) (k : List Value → β) : forceL l k = k l := by
 induction l generalizing k with
 | nil => rfl
 | cons v l ih => show forceV1 v (fun v => forceL l fun l => k (v :: l)) = _; rw [forceV1_eq, ih]
noncomputable def forceV {β : Type} (v : Value) (k : Value → β) : β :=
 match v with
 | .agg cs => forceL cs.toList fun l => k (.agg ⟨l⟩)
 | .tuple cs => forceL cs.toList fun l => k (.tuple ⟨l⟩)
 | v => forceV1 v k
theorem forceV_eq {β : Type} (v : Value) (k : Value → β) : forceV v k = k v := by
 unfold forceV; split
 ·rw [forceL_eq]
 ·rw [forceL_eq]
 ·rw [forceV1_eq]
noncomputable def args_ {β : Type} (F : AFrame) (l : List Operand) : (List Value → β) → β :=
 List.rec (fun k => k []) (fun x _ ih k => forceV (aeval F x) fun v => ih fun l => k (v :: l)) l
noncomputable def AHeap.cells (h : AHeap) (i : Nat) : Option (List Value) :=
 match h.get i with
 | some (.cells cs _ _ _ _) => some cs
 | _ => none
noncomputable def loadA (P : Program) (h : AHeap) (t : TypeId) (v : Value) : Option Value :=
 match v with
 | .pointer (some ⟨i, o, none⟩) =>
  match h.cells i, isAggT P t with
  | some cs, some false => cs[o]?
  | some cs, some true =>
   match sizeT P t with
   | some s => cond (Nat.ble (o + s) cs.length) (some (.agg ((cs.drop o).take s).toArray)) none
   | none => none
  | _, _ => none
 | _ => none
noncomputable def AHeap.kill (h : AHeap) (mate : Option Nat) : AHeap :=
 match mate with
 | none => h
 | some m => h.write m none
noncomputable def spliceL (cs : List Value) (o : Nat) (vs : List Value) : List Value := cs.take o ++ vs ++ cs.drop (o + vs.length)
noncomputable def writeCells (h : AHeap) (i o : Nat) (vs : List Value) : Option AHeap :=
 match h.get i with
 | some (.cells cs e esz mate false) =>
  cond (Nat.ble (o + vs.length) cs.length && vs.all oneCellB)
   (some ((h.kill mate).write i (some (.cells (spliceL cs o vs) e esz none false)))) none
 | _ => none
noncomputable def storeA (P : Program) (h : AHeap) (t : TypeId) (a v : Value) : Option AHeap :=
 match a with
 | .pointer (some ⟨i, o, none⟩) =>
  match sizeT P t with
  | some s => cond (Nat.beq v.cells.size s) (writeCells h i o v.cells.toList) none
  | none => none
 | _ => none
noncomputable def newRowA (h : AHeap) (cs : List Value) (e : TypeId) (esz : Nat) : Option (Nat × AHeap) :=
 cond (cs.all oneCellB) (forceNat h.next fun n => some (n, { h with next := n }.alloc (.cells cs e esz none false))) none
noncomputable def boundA (x : Option Value) (y d : Nat) : Option Nat :=
 match x with
 | none => some d
 | some (.int _ (.ofNat n)) => cond (Nat.ble n y) (some n) none
 | _ => none
noncomputable def eszIs (h : AHeap) (i s : Nat) : Bool := match h.get i with | some (.cells _ _ esz _ _) => Nat.beq esz s | _ => false
noncomputable def sliceA (P : Program) (hp : AHeap) (t : TypeId) (x : Value) (low high max : Option Value) : Option Value :=
 match P.underlying t, x with
 | some (.slice elem), .slice (some ⟨i, o, none⟩) len cap =>
  match sizeT P elem with
  | none => none
  | some size =>
   cond (eszIs hp i size) (cond (Nat.beq cap UNK)
    (match max with
    | some _ => none
    | none =>
     match boundA high len len with
     | none => none
     | some h =>
      match boundA low h 0 with
      | none => none
      | some l => some (.slice (some ⟨i, o + l * size, none⟩) (h - l) UNK))
    (cond (Nat.blt cap UNK) (match boundA max cap cap with
    | none => none
    | some m =>
     match high, max with
     | none, some _ => none
     | _, _ =>
      match boundA high m len with
      | none => none
      | some h =>
       match boundA low h 0 with
       | none => none
       | some l => some (.slice (some ⟨i, cond (Nat.beq m l) o (o + l * size), none⟩) (h - l) (m - l))) none)) none
 | _, _ => none
noncomputable def partA (P : Program) (t : TypeId) (cs : Array Value) (off : Nat) : Option Value :=
 match isAggT P t, sizeT P t with
 | some true, some s => some (.agg (cs.extract off (off + s)))
 | some false, _ => cs[off]?
 | _, _ => none
noncomputable def fieldA (P : Program) (t : TypeId) (f : Nat) : Option Field :=
 match P.underlying t with
 | some (.struct fs) => fs[f]?
 | _ => none
noncomputable def indexAddrA (P : Program) (t : TypeId) (x ix : Value) : Option Value :=
 match ix with
 | .int _ (.ofNat n) =>
  match P.underlying t, x with
  | some (.slice elem), .slice (some ⟨i, o, none⟩) len _ =>
   match sizeT P elem with
   | some s => cond (Nat.blt n len) (some (.pointer (some ⟨i, o + n * s, none⟩))) none
   | none => none
  | some (.array len elem), .pointer (some ⟨i, o, none⟩) =>
   match sizeT P elem with
   | some s => cond (Nat.blt n len) (some (.pointer (some ⟨i, o + n * s, none⟩))) none
   | none => none
  | _, _ => none
 | _ => none
noncomputable def nilEqK (P : Program) (t : TypeId) (x y : Value) : Option Bool :=
 match P.underlying t, x, y with
 | some (.pointer _), .pointer (some _), .pointer none => some false
 | some (.pointer _), .pointer none, .pointer (some _) => some false
 | some (.pointer e), .pointer (some ⟨i, o, none⟩), .pointer (some ⟨j, o2, none⟩) => cond (Nat.beq i j && Nat.beq o o2) (match sizeT P e with | some _ => some true | none => none) none
 | some (.slice _), .slice (some _) _ _, .slice none _ _ => some false
 | some (.slice _), .slice none _ _, .slice (some _) _ _ => some false
 | some (.func _ _ _), .func _ _ _, .nilFunc => some false
 | some (.func _ _ _), .nilFunc, .func _ _ _ => some false
 | _, _, _ => none
noncomputable def nilEqA (P : Program) (op : BinOp) (t : TypeId) (x y : Value) : Option Value :=
 match nilEqK P t x y with
 | some b => (match op with | .eql => some (.bool b) | .neq => some (.bool (Bool.not b)) | _ => none)
 | none => none
def ltI : Int → Int → Bool
 | .ofNat a, .ofNat b => Nat.blt a b
 | .ofNat _, .negSucc _ => false
 | .negSucc _, .ofNat _ => true
 | .negSucc a, .negSucc b => Nat.blt b a
def eqI : Int → Int → Bool
 | .ofNat a, .ofNat b => Nat.beq a b
 | .ofNat _, .negSucc _ => false
 | .negSucc _, .ofNat _ => false
 | .negSucc a, .negSucc b => Nat.beq a b
def wrapLim : IntKind → Nat
 | .i64 => 9223372036854775808
 | .u8 => 256
 | _ => 128
def wrapF (k : IntKind) (n : Int) : Int :=
 match n with
 | .ofNat m => cond (Nat.blt m (wrapLim k)) (.ofNat m) (k.wrap (.ofNat m))
 | .negSucc m => match k with | .i64 => cond (Nat.blt m 9223372036854775808) (.negSucc m) (IntKind.i64.wrap (.negSucc m)) | k => k.wrap (.negSucc m)
noncomputable def intBin (op : BinOp) (k : IntKind) (a b : Int) : Option Value :=
 match op with
 | .add => some (.int k (wrapF k (Int.add a b)))
 | .sub => some (.int k (wrapF k (Int.sub a b)))
 | .mul => some (.int k (wrapF k (Int.mul a b)))
 | .eql => some (.bool (eqI a b))
 | .neq => some (.bool (Bool.not (eqI a b)))
 | .lss => some (.bool (ltI a b))
 | .leq => some (.bool (Bool.not (ltI b a)))
 | .gtr => some (.bool (ltI b a))
 | .geq => some (.bool (Bool.not (ltI a b)))
 | _ => none
noncomputable def flatVal (P : Program) (s : Sem Value) (h : AHeap) : Option (Value × AHeap) :=
 match s.val? P with
 | some v => cond (flat v) (some (v, h)) none
 | none => none
noncomputable def flatValR (P : Program) (s : Sem Value) (h : AHeap) : Option (Value × AHeap) :=
 match s.val? P with
 | some v => cond (flatR v) (some (v, h)) none
 | none => none
noncomputable def binA (P : Program) (op : BinOp) (t : TypeId) (ox oy : Operand) (x y : Value) (h : AHeap) : Option (Value × AHeap) :=
 match x, y with
 | .int k a, .int k' b =>
  match cond (k == k') (intBin op k a b) none with
  | some v => some (v, h)
  | none => flatVal P (binOp op t (.int k a) (.int k' b)) h
 | x, y =>
  match nilEqA P op t x y with
  | some v => some (v, h)
  | none => cond (flat x && flat y) (flatVal P (do eqGuard op t ox oy x y; binOp op t x y) h) none
noncomputable def moveA (x : Value) (h : AHeap) : Option (Value × AHeap) := some (x, h)
noncomputable def pickA (c a b : Value) (h : AHeap) : Option (Value × AHeap) := match c with | .bool t => some (cond t a b, h) | _ => none
noncomputable def ptrA (r : Option (Nat × AHeap)) : Option (Value × AHeap) := match r with | some (i, h) => some (.pointer (some ⟨i, 0, none⟩), h) | none => none
noncomputable def allocA (P : Program) (e : TypeId) (h : AHeap) : Option (Value × AHeap) :=
 match zeroT P e with
 | some z => cond (flat z) (ptrA (newRowA h z.cells.toList e 0)) none
 | none => none
noncomputable def boxA (e : TypeId) (v : Value) (h : AHeap) : Option (Value × AHeap) := ptrA (newRowA h v.cells.toList e 0)
noncomputable def valA (v : Option Value) (h : AHeap) : Option (Value × AHeap) := match v with | some v => some (v, h) | none => none
noncomputable def buildSliceA (P : Program) (F : AFrame) (t : TypeId) (len : Nat) (parts : Array (Nat × Operand)) (h : AHeap) : Option (Value × AHeap) :=
  match P.underlying t with
  | some (.slice elem) =>
   match sizeT P elem, zeroT P elem with
   | some size, some z =>
    cond (Nat.ble len 16777216 && Nat.ble (len * size) 16777216 && flat z && Nat.beq z.cells.size size)
     (match Instr.fill (fun i => some (i * size, size)) ((List.replicate len z.cells.toList).flatten.toArray) (parts.map fun (i, x) => (i, aeval F x)).toList with
     | some cs => match newRowA h cs.toList elem size with | some (i, h) => some (.slice (some ⟨i, 0, none⟩) len len, h) | none => none
     | none => none) none
   | _, _ => none
  | _ => none
noncomputable def nilCheckA (v : Value) (h : AHeap) : Option (Value × AHeap) :=
  match v with
  | .pointer (some a) => some (.pointer (some a), h)
  | .func (.func f) fs cs => some (.func (.func f) fs cs, h)
  | .func (.yield f) fs cs => some (.func (.yield f) fs cs, h)
  | _ => none
noncomputable def makeIfaceA (P : Program) (t : TypeId) (v : Value) (h : AHeap) : Option (Value × AHeap) :=
  match P.underlying t with
  | some (.interface _) => none
  | some _ => some (.iface t v, h)
  | none => none
noncomputable def makeSliceA (P : Program) (t : TypeId) (l c : Value) (h : AHeap) : Option (Value × AHeap) :=
  match P.underlying t, l, c with
  | some (.slice elem), .int _ (.ofNat l), .int _ (.ofNat c) =>
   match P.info? elem with
   | some i =>
    match i.zero with
    | some z =>
     cond (Nat.ble l c && Nat.ble c 16777216 && Nat.ble (i.bytes * c) 281474976710656 && flat z && Nat.beq z.cells.size i.size)
      (match newRowA h (List.replicate c z.cells.toList).flatten elem i.size with | some (i, h) => some (.slice (some ⟨i, 0, none⟩) l c, h) | none => none) none
    | none => none
   | none => none
  | _, _, _ => none
noncomputable def sliceArrA (P : Program) (h : AHeap) (t : TypeId) (x : Value) (lo hi mx : Option Value) : Option Value :=
 match P.underlying t, x, mx with
 | some (.array n elem), .pointer (some ⟨i, o, none⟩), none =>
  match sizeT P elem, h.get i with
  | some size, some (.cells cs _ 0 _ _) =>
   cond (Nat.ble (o + n * size) cs.length && Nat.blt n UNK)
    (match boundA hi n n with
    | some hh =>
     (match boundA lo hh 0 with
      | some l => cond (Nat.blt l n) (some (.slice (some ⟨i, o + l * size, none⟩) (hh - l) (n - l))) none
      | none => none)
    | none => none) none
  | _, _ => none
 | _, _, _ => none
noncomputable def sliceO (P : Program) (t : TypeId) (x : Value) (lo hi mx : Option Value) (h : AHeap) : Option (Value × AHeap) :=
 match sliceA P h t x lo hi mx with
 | some v => some (v, h)
 | none => match sliceArrA P h t x lo hi mx with | some v => some (v, h) | none => cond (flat x && (lo.all flat) && (hi.all flat) && (mx.all flat)) (flatVal P (Instr.sliceAt t x lo hi mx) h) none
noncomputable def fieldAddrA (P : Program) (s : TypeId) (x : Value) (f : Nat) (h : AHeap) : Option (Value × AHeap) :=
  match x, fieldA P s f with
  | .pointer (some ⟨i, o, none⟩), some fd =>
   match sizeT P fd.type with
   | some 0 | none => none
   | some _ => some (.pointer (some ⟨i, o + fd.offset, none⟩), h)
  | _, _ => none
noncomputable def fieldO (P : Program) (t : TypeId) (x : Value) (f : Nat) (h : AHeap) : Option (Value × AHeap) :=
  match x, fieldA P t f with
  | .agg cs, some fd => valA (partA P fd.type cs fd.offset) h
  | _, _ => none
noncomputable def indexO (P : Program) (t : TypeId) (x ix : Value) (h : AHeap) : Option (Value × AHeap) :=
  match x, ix with
  | .agg cs, .int _ (.ofNat n) =>
   match P.underlying t with
   | some (.array len elem) =>
    match sizeT P elem with
    | some s => cond (Nat.blt n len) (valA (partA P elem cs (n * s)) h) none
    | none => none
   | _ => none
  | .string s, .int k n => flatVal P (Instr.index t (.string s) (.int k n)) h
  | _, _ => none
noncomputable def extractA (x : Value) (ix : Nat) (h : AHeap) : Option (Value × AHeap) :=
 match x with | .tuple vs => valA vs[ix]? h | _ => none
noncomputable def storeO (P : Program) (t : TypeId) (a x : Value) (h : AHeap) : Option (Value × AHeap) :=
 match storeA P h t a x with | some h => some (undef, h) | none => none
noncomputable def unA (P : Program) (op : UnOp) (x : Value) (h : AHeap) : Option (Value × AHeap) :=
 cond (flat x) (flatVal P (Op.unary op x) h) none
noncomputable def convP (P : Program) (s d : TypeId) (i o : Nat) (h : AHeap) : Bool :=
 match P.underlying s, P.underlying d, h.get i with
 | some (.pointer t), some .unsafePointer, some (.cells cs _ _ _ _) => Nat.blt o cs.length && (match sizeT P t with | some k => Nat.blt 0 k | none => false)
 | some .unsafePointer, some (.pointer u), some (.cells cs e 0 _ _) =>
  Nat.beq o 0 && Nat.beq e u && (match sizeT P u with | some k => Nat.blt 0 k && Nat.ble k cs.length && Nat.beq (P.cellsOf u) k | none => false)
 | _, _, _ => false
noncomputable def bytesA : List Value → Option (List UInt8)
 | [] => some []
 | .int .u8 (.ofNat k) :: r => cond (Nat.blt k 256) (match bytesA r with | some l => some (UInt8.ofNat k :: l) | none => none) none
 | _ => none
noncomputable def convB (P : Program) (s d : TypeId) (i o n : Nat) (h : AHeap) : Option (Value × AHeap) :=
 match P.underlying s, P.underlying d, h.cells i with
 | some (.slice e), some .string, some cs =>
  match P.underlying e with
  | some (.int .u8) =>
   cond (Nat.ble (o + n) cs.length)
    (match bytesA ((cs.drop o).take n) with
    | some l => some (.string ⟨⟨l⟩⟩, h)
    | none => none) none
  | _ => none
 | _, _, _ => none
noncomputable def convA (P : Program) (s d : TypeId) (x : Value) (h : AHeap) : Option (Value × AHeap) :=
 match x with
 | .pointer (some ⟨i, o, none⟩) => cond (convP P s d i o h) (some (.pointer (some ⟨i, o, none⟩), h)) none
 | .slice (some ⟨i, o, none⟩) n _ => convB P s d i o n h
 | x => cond (flat x) (flatVal P (convert s d x) h) none
noncomputable def convZ (P : Program) (s d : TypeId) (x : Value) (h : AHeap) : Option (Value × AHeap) :=
 match x with
 | .string b =>
  match P.underlying s, P.underlying d with
  | some .string, some (.slice e) =>
   match P.underlying e with
   | some (.int .u8) =>
    cond (Nat.ble b.size 16777216)
     (forceNat h.next fun n => some (.slice (some ⟨n, 0, none⟩) b.size UNK, { h with next := n }.alloc (.cells (b.data.toList.map fun (b : UInt8) => Value.int .u8 b.toNat) e 1 none true))) none
   | _ => none
  | _, _ => none
 | _ => none
noncomputable def convO (P : Program) (s d : TypeId) (x : Value) (h : AHeap) : Option (Value × AHeap) :=
 match convA P s d x h with
 | some r => some r
 | none => convZ P s d x h
noncomputable def zflat (P : Program) (t : TypeId) : Bool := match zeroT P t with | some z => flat z | none => false
noncomputable def opA (call : Call → TypeId → AFrame → AHeap → Option (Value × AHeap)) (P : Program) (F : AFrame) (o : Op) (type : TypeId) (h : AHeap) : Option (Value × AHeap) :=
 match o with
 | .call c => call c type F h
 | .move x | .assign x => moveA (aeval F x) h
 | .pick c a b => pickA (aeval F c) (aeval F a) (aeval F b) h
 | .alloc e => allocA P e h
 | .box e x => boxA e (aeval F x) h
 | .build t parts => cond (zflat P t) (valA ((Instr.build t (parts.map fun (i, x) => (i, aeval F x))).val? P) h) none
 | .buildSlice t len parts => buildSliceA P F t len parts h
 | .load t a => valA (loadA P h t (aeval F a)) h
 | .store t a x => storeO P t (aeval F a) (aeval F x) h
 | .nilCheck x => nilCheckA (aeval F x) h
 | .makeInterface t x => makeIfaceA P t (aeval F x) h
 | .makeFunc (.func f) first captured => some (.func (.func f) (first.map (aeval F)) (captured.map (aeval F)), h)
 | .makeSlice t l c => makeSliceA P t (aeval F l) (aeval F c) h
 | .slice t x lo hi mx => sliceO P t (aeval F x) (lo.map (aeval F)) (hi.map (aeval F)) (mx.map (aeval F)) h
 | .fieldAddr s x f => fieldAddrA P s (aeval F x) f h
 | .field t x f => fieldO P t (aeval F x) f h
 | .indexAddr t x ix => valA (indexAddrA P t (aeval F x) (aeval F ix)) h
 | .index t x ix => indexO P t (aeval F x) (aeval F ix) h
 | .extract t ix => extractA (aeval F t) ix h
 | .binOp op t x y _ => binA P op t x y (aeval F x) (aeval F y) h
 | .unOp op _ x => unA P op (aeval F x) h
 | .convert s d x => convO P s d (aeval F x) h
 | .typeAssert x s t ok => cond (flat (aeval F x)) (flatValR P (Instr.typeAssert (aeval F x) s t ok) h) none
 | _ => none
noncomputable def srcA (h : AHeap) (size : Nat) (x : Value) : Option (Nat × List Value) :=
 match x with
 | .slice none n _ => cond (Nat.beq n 0) (some (0, [])) none
 | .slice (some ⟨j, o, none⟩) n _ =>
  cond (Nat.beq n 0) (some (0, []))
   (match h.cells j with
   | some cs => cond (Nat.ble (o + n * size) cs.length) (some (n, (cs.drop o).take (n * size))) none
   | none => none)
 | .string b => cond (Nat.beq size 1) (some (b.size, b.data.toList.map fun b => Value.int .u8 b.toNat)) none
 | _ => none
noncomputable def appNew (h : AHeap) (elem : TypeId) (size : Nat) (cs : List Value) (n : Nat) : Option (Value × AHeap) :=
 match newRowA h cs elem size with | some (i, h) => some (.slice (some ⟨i, 0, none⟩) n UNK, h) | none => none
noncomputable def appMate (h : AHeap) (i o l n : Nat) (cs : List Value) (e : TypeId) (esz : Nat) (mate : Option Nat) (new : List Value) : Option (Value × AHeap) :=
 forceNat h.next fun n0 =>
  cond (((cs.drop o).take (l * esz) ++ new).all oneCellB && Nat.blt 0 esz)
   (some (.slice (some ⟨n0, 0, none⟩) (l + n) UNK,
    (({ (h.kill mate) with next := n0 }.write i (some (.cells (cs.take (o + l * esz)) e esz (some n0) false))).alloc
     (.cells ((cs.drop o).take (l * esz) ++ new) e esz (some i) false)))) none
noncomputable def appOnto (P : Program) (h : AHeap) (elem : TypeId) (size : Nat) (s : Value) (n : Nat) (new : List Value) : Option (Value × AHeap) :=
 match s with
 | .slice none l _ => cond (Nat.beq l 0) (cond (Nat.beq n 0) (some (s, h)) (cond (Nat.ble n 16777216) (appNew h elem size new n) none)) none
 | .slice (some ⟨i, o, none⟩) l c =>
  cond (Nat.beq n 0) (some (s, h))
   (match h.get i with
   | some (.cells cs e esz mate ro) =>
    cond (Nat.beq e elem && Nat.beq esz size && Nat.ble (o + l * esz) cs.length && Nat.ble (l + n) 16777216)
     (cond (Nat.beq c UNK)
      (cond ro none (appMate h i o l n cs e esz mate new))
      (cond (Nat.ble (l + n) c)
       (match writeCells h i (o + l * esz) new with
        | some h => some (.slice (some ⟨i, o, none⟩) (l + n) c, h)
        | none => none)
       (appNew h elem size ((cs.drop o).take (l * esz) ++ new) (l + n)))) none
   | _ => none)
 | _ => none
noncomputable def appendA (P : Program) (h : AHeap) (t : TypeId) (s x : Value) : Option (Value × AHeap) :=
 match P.underlying t with
 | some (.slice elem) =>
  match P.info? elem with
  | none => none
  | some inf =>
   match inf.zero with
   | none => none
   | some z =>
    cond (Nat.beq z.cells.size inf.size && Nat.ble inf.bytes 4096 && Nat.blt 0 inf.bytes)
     (match srcA h inf.size x with
     | some (n, new) => appOnto P h elem inf.size s n new
     | none => none) none
 | _ => none
noncomputable def appendZ (P : Program) (h : AHeap) (t : TypeId) (s x : Value) : Option (Value × AHeap) :=
 match P.underlying t with
 | some (.slice elem) =>
  match s, x with
  | .slice none 0 c, .int .i64 (.ofNat n) =>
   match P.info? elem with
   | none => none
   | some inf =>
    match inf.zero with
    | none => none
    | some z =>
     cond (Nat.beq c 0 && Nat.blt 0 n && Nat.ble n 16777216 && Nat.beq z.cells.size inf.size && Nat.blt 0 inf.size && Nat.ble inf.bytes 4096 && z.cells.toList.all flat1)
      (appNew h elem inf.size (Builtin.zeroCells z.cells n).toList n) none
  | _, _ => none
 | _ => none
noncomputable def copyA (P : Program) (h : AHeap) (t : TypeId) (d s : Value) : Option (Value × AHeap) :=
 match P.underlying t, d, s with
 | some (.slice elem), .slice (some ⟨i, o, none⟩) dl _, .slice (some ⟨j, p, none⟩) sl _ =>
  match sizeT P elem with
  | some size =>
   forceNat (cond (Nat.ble sl dl) sl dl) fun n =>
    cond (Nat.beq n 0) (some (.int .i64 (.ofNat 0), h))
     (match h.cells j with
     | some cs => cond (Nat.ble (p + n * size) cs.length) (match writeCells h i o ((cs.drop p).take (n * size)) with | some h => some (.int .i64 (.ofNat n), h) | none => none) none
     | none => none)
  | none => none
 | some (.slice elem), .slice (some ⟨i, o, none⟩) dl _, .string b =>
  match sizeT P elem with
  | some size =>
   cond (Nat.beq size 1 && Nat.ble b.size dl && Nat.blt 0 b.size)
    (match writeCells h i o (b.data.toList.map fun b => Value.int .u8 b.toNat) with | some h => some (.int .i64 (.ofNat b.size), h) | none => none) none
  | none => none
 | some (.slice elem), .slice (some ⟨_, _, none⟩) _ _, .slice none n _ =>
  match sizeT P elem with
  | some _ => cond (Nat.beq n 0) (some (.int .i64 (.ofNat 0), h)) none
  | none => none
 | _, _, _ => none
noncomputable def clearA (P : Program) (h : AHeap) (t : TypeId) (x : Value) : Option (Value × AHeap) := none
noncomputable def dataA (args : List Value) (h : AHeap) : Option (Value × AHeap) :=
 match args with
 | [.slice (some ⟨i, o, none⟩) n _] => cond (Nat.beq n 0) none (some (.pointer (some ⟨i, o, none⟩), h))
 | [.slice none _ _] => some (.pointer none, h)
 | _ => none
noncomputable def stringA (P : Program) (ats : Array TypeId) (args : List Value) (h : AHeap) : Option (Value × AHeap) :=
 match (ats[0]? : Option TypeId), args with
 | some _, [.pointer none, .int .i64 (.ofNat 0)] => some (.string ⟨#[]⟩, h)
 | some pt, [.pointer (some ⟨i, o, none⟩), .int .i64 (.ofNat n)] =>
  match P.underlying pt, h.get i with
  | some (.pointer e), some (.cells cs e' esz m false) =>
   cond (Nat.beq e e' && Nat.beq (P.cellsOf e) 1 && Nat.blt 0 n && Nat.ble (o + n) cs.length && Nat.ble n 16777216)
    (match bytesA ((cs.drop o).take n) with
    | some l => some (.string ⟨⟨l⟩⟩, (h.kill m).write i (some (.cells cs e' esz none true)))
    | none => none) none
  | _, _ => none
 | _, _ => none
noncomputable def flatB (P : Program) (b : Builtin) (ats : Array TypeId) (type : TypeId) (consts : Array Bool) (args : Array Value) (h : AHeap) : Option (Value × AHeap) :=
 cond (args.toList.all flat) (match (builtin b ats type consts args).val? P with | some (.value v) => cond (flat v) (some (v, h)) none | _ => none) none
noncomputable def lenA (P : Program) (ats : Array TypeId) (type : TypeId) (consts : Array Bool) (args : Array Value) (h : AHeap) : Option (Value × AHeap) :=
 match (ats[0]? : Option TypeId), (args[0]? : Option Value) with
 | some t, some (.slice (some ⟨_, _, none⟩) n _) => match P.underlying t with | some (.slice _) => some (.int .i64 n, h) | _ => none
 | _, _ => flatB P .len ats type consts args h
noncomputable def builtinA (P : Program) (b : Builtin) (ats : Array TypeId) (type : TypeId) (consts : Array Bool) (args : Array Value) (h : AHeap) : Option (Value × AHeap) :=
 match b with
 | .append =>
  match (ats[0]? : Option TypeId), (ats[1]? : Option TypeId), (args[0]? : Option Value), (args[1]? : Option Value) with
  | some t, some t2, some s, some x => (match P.underlying t2 with | some (.slice _) | some .string => appendA P h t s x | some (.int _) => appendZ P h t s x | _ => none)
  | _, _, _, _ => none
 | .copy =>
  match (ats[0]? : Option TypeId), (args[0]? : Option Value), (args[1]? : Option Value) with
  | some t, some d, some s => copyA P h t d s
  | _, _, _ => none
 | .clear => (match (ats[0]? : Option TypeId), args.toList with | some t, [x] => clearA P h t x | _, _ => none)
 | .unsafeSliceData => dataA args.toList h
 | .unsafeString => stringA P ats args.toList h
 | .len => lenA P ats type consts args h
 | .min | .max | .cap => flatB P b ats type consts args h
 | _ => none
inductive AEx where
 | normal
 | exit (id : Nat)
 | ret
noncomputable def fetch (F : AFrame) (ops : Array Oper) (o : Oper) : Bool :=
 match o.guard with
 | none => true
 | some (j, want) =>
  match (ops[j]?).bind (·.dst) with
  | some d => match F.get d with | .bool b => b == want | _ => false
  | none => false
noncomputable def stepOps (call : Call → TypeId → AFrame → AHeap → Option (Value × AHeap)) (P : Program) (ops : Array Oper) : List Oper → AFrame → AHeap → Option (AFrame × AHeap)
 | [], F, h => some (F, h)
 | o :: rest, F, h =>
  cond (fetch F ops o)
   (match opA call P F o.op o.type h with
    | some (v, h1) => forceV v fun v => match F.put o.dst v with | some F => stepOps call P ops rest F h1 | none => none
    | none => none)
   (match F.put o.dst undef with | some F => stepOps call P ops rest F h | none => none)
noncomputable def frameOf (n : Nat) (args : Array Value) : AFrame :=
 { size := n, t := (args.toList.zipIdx.foldl (fun t (v, i) => t.set 40 i (some v)) .leaf), marks := [] }
noncomputable def resultA (P : Program) (h : AHeap) (F : AFrame) : List ResultVar → Option (List Value)
 | [] => some []
 | .tmp t :: rs => match resultA P h F rs with | some vs => some (F.get t :: vs) | none => none
 | .cell a t :: rs => match loadA P h t (F.get a), resultA P h F rs with | some v, some vs => some (v :: vs) | _, _ => none
noncomputable def resultsA (P : Program) (h : AHeap) (F : AFrame) (fn : Func) : Option Value :=
 match resultA P h F fn.results.toList with
 | some [v] => some v
 | some vs => some (.tuple vs.toArray)
 | none => none
noncomputable def endMarks (dc : FuncId → List Value → AHeap → Option AHeap) (h : AHeap) : List AMark → Option AHeap
 | [] => some h
 | .col m :: ms => match h.get m with | some .deferred => endMarks dc (h.write m none) ms | _ => none
 | .fn g xs :: ms => match dc g xs h with | some h => endMarks dc h ms | none => none
def maskOf (acc : List Nat) (o : Oper) : Nat := o.after.toList.foldl (fun s e => cond (Region.binds .any e) (s ||| 2 ^ e.on ||| acc.getD e.on 0) s) 0
def masks : List Oper → List Nat → List Nat
 | [], acc => acc
 | o :: r, acc => masks r (acc ++ [maskOf acc o])
def edgesOK : List Oper → Nat → Bool
 | [], _ => true
 | o :: r, k => (o.after.toList.all fun e => !Region.binds .any e || Nat.blt e.on k) && edgesOK r (k + 1)
def depsOK (ops : Array Oper) (ms : List Nat) : Bool :=
 ops.toList.zipIdx.all fun (o, j) => ops.toList.zipIdx.all fun (p, i) => !Nat.blt i j || p.apart ops o || (ms.getD j 0).testBit i
def guardsOK (ops : Array Oper) (ms : List Nat) : Bool :=
 ops.toList.zipIdx.all fun (o, j) => match o.guard with | none => true | some (g, _) => Nat.blt g j && (ms.getD j 0).testBit g
def nodupB : List (Option Tmp) → Bool
 | [] => true
 | none :: r => nodupB r
 | some d :: r => !r.contains (some d) && nodupB r
def heapFree : Op → Bool
 | .move _ | .assign _ | .pick _ _ _ | .binOp _ _ _ _ _ | .unOp _ _ _ | .extract _ _ | .field _ _ _ | .index _ _ _ | .fieldAddr _ _ _ => true
 | _ => false
def forcedB (free : List Bool) (ms : List Nat) (j : Nat) : Bool := free.getD j false || (List.range j).all fun i => free.getD i false || (ms.getD j 0).testBit i
def tailOK (free : List Bool) (ms : List Nat) (T : Nat) : Bool := (List.range ms.length).all fun j => Nat.blt j T || forcedB free ms j
def tailFrom (free : List Bool) (ms : List Nat) : Nat → Nat
 | 0 => 0
 | k + 1 => cond (forcedB free ms k) (tailFrom free ms k) (k + 1)
def freeOf (ops : Array Oper) : List Bool := ops.toList.map fun o => heapFree o.op
def drawOK (ops : Array Oper) (ms : List Nat) (T : Nat) : Bool :=
 edgesOK ops.toList 0 && depsOK ops ms && guardsOK ops ms && nodupB (ops.toList.map (·.dst)) && tailOK (freeOf ops) ms T
def softOp : Op → Bool
 | .load _ _ => true
 | .call c => (match c.callee with | .builtin .len => true | _ => false)
 | o => heapFree o
def softOf (ops : Array Oper) : List Bool := ops.toList.map fun o => softOp o.op
def isApp : Op → Bool
 | .call c => (match c.callee with | .builtin .append => true | _ => false)
 | _ => false
def wantB (ops : Array Oper) (T W : Nat) : Bool := ((ops.toList.take W).drop T).any fun o => isApp o.op
def drawOKB (ops : Array Oper) (ms : List Nat) (T W : Nat) : Bool := drawOK ops ms W && (Nat.ble T W && (List.range W).all fun j => Nat.blt j T || forcedB (softOf ops) ms j)
def isStoreOp : Op → Bool | .store _ _ _ => true | _ => false
def isPlainOp : Op → Bool | .load _ _ | .store _ _ _ | .convert _ _ _ | .slice _ _ _ _ _ | .indexAddr _ _ _ => true | o => heapFree o
def wantC (ops : Array Oper) (W : Nat) : Bool := (ops.toList.take W).any (fun o => isStoreOp o.op) && ops.toList.all fun o => isPlainOp o.op
def calmOf (ops : Array Oper) : List Bool := ops.toList.map fun o => !isStoreOp o.op
def drawOKC (ops : Array Oper) (ms : List Nat) : Bool :=
 edgesOK ops.toList 0 && depsOK ops ms && guardsOK ops ms && nodupB (ops.toList.map (·.dst)) && tailOK (calmOf ops) ms 0
abbrev Run := Option Nat → Code → AFrame → AHeap → Option (AEx × AFrame × AHeap)
structure RowF where
 new : List Int → List Int
 ret : List Int → Option Nat
structure Msk where
 bits : Nat
 fast : Bool
 ora : FuncId → Option Value
 tab : FuncId → List Value → Option Value := fun _ _ => none
 srt : FuncId → Option RowF := fun _ => none
 srtC : FuncId → Bool := fun _ => false
noncomputable def ids0 : Value → List Nat
 | .pointer (some a) => [a.block]
 | .slice (some a) _ _ => [a.block]
 | _ => []
noncomputable def ids1 : Value → List Nat
 | .agg cs => cs.toList.flatMap ids0
 | .iface _ v => ids0 v
 | .func _ a b => (a.toList ++ b.toList).flatMap ids0
 | v => ids0 v
noncomputable def ids2 : Value → List Nat
 | .agg cs => cs.toList.flatMap ids1
 | .tuple cs => cs.toList.flatMap ids1
 | v => ids1 v
noncomputable def reachA (h : AHeap) (lo : Nat) (fuel : Nat) : List Nat → List Nat → List Nat :=
 Nat.rec (fun _ seen => seen) (fun _ ih todo seen =>
  match todo with
  | [] => seen
  | x :: todo =>
   cond (Nat.blt x lo || seen.any fun y => Nat.beq x y) (ih todo seen)
    (match h.get x with
    | some (.cells cs _ _ m _) => ih (m.toList ++ (cs.flatMap ids2 ++ todo)) (x :: seen)
    | _ => ih todo (x :: seen))) fuel
noncomputable def sweepT (h2 : AHeap) : List Nat → T ABk → T ABk
 | [], t => t
 | i :: l, t => sweepT h2 l (T.set (Nat.succ i) t i (h2.get i))
noncomputable def leave (fast : Bool) (h h2 : AHeap) (v : Value) : AHeap :=
 cond (fast && Nat.ble h.next h2.wlow)
  (cond (flatR v) h { t := sweepT h2 (reachA h2 h.next 100000 (ids2 v) []) h.t, next := h2.next, wlow := cond (Nat.ble h.wlow h2.wlow) h.wlow h2.wlow })
  { h2 with wlow := cond (Nat.ble h.wlow h2.wlow) h.wlow h2.wlow }
def isDefer : Op → Bool | .defer _ => true | _ => false
def hasDefer (ops : Array Oper) : Bool := ops.toList.any fun o => isDefer o.op
def isRec : Op → Bool
 | .call c => (match c.callee with | .builtin .recover => true | _ => false)
 | _ => false
def hasRec (ops : Array Oper) : Bool := ops.toList.any fun o => isRec o.op
noncomputable def recOps (P : Program) (ops : Array Oper) : List Oper → AFrame → AHeap → Option (AFrame × AHeap)
 | [], F, h => some (F, h)
 | o :: rest, F, h =>
  cond (fetch F ops o)
   (cond (isRec o.op) (match F.put o.dst .nilIface with | some F => recOps P ops rest F h | none => none)
    (match opA (fun _ _ _ _ => none) P F o.op o.type h with
    | some (v, h1) => forceV v fun v => match F.put o.dst v with | some F => recOps P ops rest F h1 | none => none
    | none => none))
   (match F.put o.dst undef with | some F => recOps P ops rest F h | none => none)
noncomputable def runD (P : Program) (run : Run) : Code → AFrame → AHeap → Option (AEx × AFrame × AHeap)
 | .seq a b, F, h => (match runD P run a F h with | some (e, F1, h1) => (match e with | .normal => runD P run b F1 h1 | e => some (e, F1, h1)) | none => none)
 | .region id ops draw, F, h => cond (hasRec ops) (cond (draw || hasDefer ops) none (match recOps P ops ops.toList F h with | some (F1, h1) => some (.normal, F1, h1) | none => none)) (run none (.region id ops draw) F h)
 | c, F, h => run none c F h
noncomputable def dcall (P : Program) (G : Msk) (run : Run) (g : FuncId) (args : List Value) (h : AHeap) : Option AHeap :=
 match cond (Nat.testBit G.bits g) P.funcs[g]? none with
 | some fn =>
  match fn.body with
  | some body =>
   cond (Nat.blt fn.ntmps args.length || Nat.blt 1000000 fn.ntmps) none
    (match runD P run body (frameOf fn.ntmps ⟨args⟩) h with
    | some (e, F1, h1) =>
     (match e with
      | .exit _ => none
      | _ => match F1.marks with
       | [] => (match resultsA P h1 F1 fn with | some _ => some h1 | none => none)
       | _ => none)
    | none => none)
  | none => none
 | none => none
noncomputable def callF (P : Program) (G : Msk) (run : Run) (g : FuncId) (args : Array Value) (h : AHeap) : Option (Value × AHeap) :=
 match cond (Nat.testBit G.bits g) P.funcs[g]? none with
 | some fn =>
  match fn.body with
  | some body =>
   cond (Nat.blt fn.ntmps args.size || Nat.blt 1000000 fn.ntmps) none
    (match run none body (frameOf fn.ntmps args) { h with wlow := h.next } with
    | some (e, F1, h1) =>
     match e with
     | .exit _ => none
     | _ =>
      match endMarks (dcall P G run) h1 F1.marks with
      | some h2 =>
       (match resultsA P h2 F1 fn with
        | some v => some (v, leave G.fast h h2 v)
        | none => none)
      | none => none
    | none => none)
  | none => none
 | none => none
noncomputable def putAll (F : AFrame) (l : List (Tmp × Value)) : Option AFrame :=
 l.foldl (fun (F : Option AFrame) (p : Tmp × Value) => match F with | some F => F.put (some p.1) p.2 | none => none) (some F)
noncomputable def endY (l : Nat) (e : AEx) (F : AFrame) (params : Array Tmp) (assign body : Code) (h : AHeap) : Option (Value × AHeap) :=
 match e with
 | .normal => some (.bool true, h.write l (some (.loop .ready none F params assign body)))
 | .ret => some (.bool false, h.write l (some (.loop .done (some .ret) F params assign body)))
 | .exit id => some (.bool false, h.write l (some (.loop .done (some (.exit id)) F params assign body)))
noncomputable def callY (run : Run) (l : Nat) (args : Array Value) (h : AHeap) : Option (Value × AHeap) :=
 match h.get l with
 | some (.loop .ready none F0 params assign body) =>
  cond (Nat.beq args.size params.size)
   (match putAll { F0 with marks := [] } (params.toList.zip args.toList) with
   | none => none
   | some F1 =>
    match run (some l) assign F1 h with
    | some (.normal, F2, h2) =>
     match h2.get l with
     | some (.loop .ready none Fa pa aa ba) =>
      match run (some l) body F2 (h2.write l (some (.loop .busy none Fa pa aa ba))) with
      | some (e, _, h3) =>
       match h3.get l with
       | some (.loop .busy none Fb pb ab bb) => endY l e Fb pb ab bb h3
       | _ => none
      | none => none
     | _ => none
    | _ => none) none
 | _ => none
noncomputable def callP (P : Program) (G : Msk) (run : Run) (g : FuncId) (args : List Value) (h : AHeap) : Option (Value × AHeap) :=
 cond (G.fast && args.all flat)
  (match callF P G run g ⟨args⟩ GH with
  | some (v, h2) => cond (flatR v && Nat.ble GH.next h2.wlow) (some (v, h)) (callF P G run g ⟨args⟩ h)
  | none => none)
  (callF P G run g ⟨args⟩ h)
noncomputable def externA (P : Program) (g : FuncId) (args : List Value) : Option Value :=
 match P.funcs[g]? with
 | some fn =>
  match fn.body with
  | some _ => none
  | none =>
   match args with
   | [v] => cond (fn.name == "internal/abi.NoEscape" && (fn.origin == "" || fn.origin == "internal/abi.NoEscape")) (some v) none
   | _ => none
 | none => none
noncomputable def sortA (f : RowF) (args : List Value) (h : AHeap) : Option (Value × AHeap) := none
structure Bef (ss : List Int) (x y : Int) : Prop where
 out : ∃ i j : Nat, i < j ∧ ss[i]? = some x ∧ ss[j]? = some y
structure SortsTo (cmp : Int → Int → Option Int) (zs ss : List Int) : Prop where
 perm : ss.Perm zs
 nodup : ss.Nodup
 ord : ∀ x y, x ∈ ss → y ∈ ss → ∃ z, cmp x y = some z ∧ (z < 0 ↔ Bef ss x y)
noncomputable def mateOf (h : AHeap) (i : Nat) : Option Nat := match h.get i with | some (.cells _ _ _ m _) => m | _ => none
open Classical in
noncomputable def sortCA (P : Program) (G : Msk) (run : Run) (args : List Value) (h : AHeap) : Option (Value × AHeap) := none
noncomputable def callE0 (P : Program) (G : Msk) (run : Run) (g : FuncId) (args : List Value) (h : AHeap) : Option (Value × AHeap) :=
 match externA P g args with
 | some v => some (v, h)
 | none =>
  match args, G.ora g with
  | [], some v => some (v, h)
  | args, _ =>
   match G.tab g args with
   | some v => cond (args.all flat) (some (v, h)) none
   | none => match G.srt g with | some f => sortA f args h | none => cond (G.srtC g) (sortCA P G run args h) (callP P G run g args h)
noncomputable def isExt (fn : Func) (n : String) : Bool := fn.name == n && (fn.origin == "" || fn.origin == n)
noncomputable def extH (P : Program) (g : FuncId) (args : List Value) (h : AHeap) : Option (Value × AHeap) :=
 match P.funcs[g]? with
 | some fn =>
  match fn.body with
  | some _ => none
  | none =>
   match args with
   | [.string b, .int .u8 (.ofNat c)] =>
    cond (isExt fn "internal/bytealg.IndexByteString") (some (.int .i64 (Go.Lib.indexByte b.data.toList c.toUInt8), h))
     (cond (isExt fn "internal/bytealg.CountString") (some (.int .i64 (.ofNat (Go.Lib.countByte b.data.toList c.toUInt8)), h)) none)
   | [.int .i64 (.ofNat n)] =>
    cond (isExt fn "internal/bytealg.MakeNoZero" && Nat.ble n 16777216)
     (match fn.resultTypes.toList with
     | [t] =>
      (match P.underlying t with
       | some (.slice e) => (match newRowA h [] e 1 with | some (i, h) => some (.slice (some ⟨i, 0, none⟩) n UNK, h) | none => none)
       | _ => none)
     | _ => none) none
   | _ => none
 | none => none
noncomputable def callE (P : Program) (G : Msk) (run : Run) (g : FuncId) (args : List Value) (h : AHeap) : Option (Value × AHeap) :=
 match callE0 P G run g args h with
 | some r => some r
 | none => extH P g args h
noncomputable def callA (P : Program) (G : Msk) (run : Run) (c : Call) (type : TypeId) (F : AFrame) (h : AHeap) : Option (Value × AHeap) :=
 match c.callee with
 | .builtin b => args_ F c.args.toList fun args => builtinA P b c.argTypes type (c.args.map fun | .const _ => true | _ => false) ⟨args⟩ h
 | .value f =>
  match aeval F f with
  | .func (.func g) first captured => args_ F c.args.toList fun args => callE P G run g (first.toList ++ (args ++ captured.toList)) h
  | .func (.yield l) first _ => args_ F c.args.toList fun args => callY run l ⟨first.toList ++ args⟩ h
  | _ => none
 | .invoke _ _ => none
noncomputable def evSeq (run : Run) (rd : Option Nat) (a b : Code) (F : AFrame) (h : AHeap) : Option (AEx × AFrame × AHeap) :=
 match run rd a F h with
 | some (e, F1, h1) => match e with | .normal => run rd b F1 h1 | e => some (e, F1, h1)
 | none => none
noncomputable def evCond (run : Run) (rd : Option Nat) (c : Value) (a b : Code) (F : AFrame) (h : AHeap) : Option (AEx × AFrame × AHeap) :=
 match c with
 | .bool t => cond t (run rd a F h) (run rd b F h)
 | _ => none
noncomputable def evBlock (run : Run) (rd : Option Nat) (id : Nat) (b : Code) (F : AFrame) (h : AHeap) : Option (AEx × AFrame × AHeap) :=
 match run rd b F h with
 | some (e, F1, h1) => match e with | .exit id' => cond (Nat.beq id' id) (some (.normal, F1, h1)) (some (.exit id', F1, h1)) | e => some (e, F1, h1)
 | none => none
noncomputable def preOps (call : Call → TypeId → AFrame → AHeap → Option (Value × AHeap)) (P : Program) (ops : Array Oper) : List Oper → AFrame → AHeap → Option (AFrame × AHeap)
 | [], F, h => some (F, h)
 | o :: rest, F, h =>
  cond (fetch F ops o)
   (match opA call P F o.op o.type { h with wlow := h.next } with
   | some (v, h1) => cond (Nat.ble h.next h1.wlow) (forceV v fun v => match F.put o.dst v with | some F => preOps call P ops rest F { h1 with wlow := h.wlow } | none => none) none
   | none => none)
   (match F.put o.dst undef with | some F => preOps call P ops rest F h | none => none)
noncomputable def evDraw (call : Call → TypeId → AFrame → AHeap → Option (Value × AHeap)) (P : Program) (ops : Array Oper) (ms : List Nat) (T : Nat) (F : AFrame) (h : AHeap) : Option (AFrame × AHeap) :=
 cond (drawOK ops ms T)
  (match preOps call P ops (ops.toList.take T) F h with
  | some (F1, h1) => stepOps call P ops (ops.toList.drop T) F1 h1
  | none => none) none
noncomputable def AHeap.upTo (h : AHeap) (N : Nat) : AHeap := { h with next := N, wlow := N }
noncomputable def earlyOps (call : Call → TypeId → AFrame → AHeap → Option (Value × AHeap)) (P : Program) (ops : Array Oper) (h0 : AHeap) (g : Bool) : List Oper → AFrame → AHeap → Option (AFrame × AHeap)
 | [], F, h => some (F, h)
 | o :: rest, F, h =>
  cond (fetch F ops o)
   (cond (softOp o.op)
    (match opA call P F o.op o.type (h0.upTo h.next) with
    | some (v, h1) => cond (Nat.beq h1.next h.next && Nat.ble h.next h1.wlow) (forceV v fun v => match F.put o.dst v with | some F => earlyOps call P ops h0 g rest F h | none => none) none
    | none => none)
    (match opA call P F o.op o.type { h with wlow := h.next } with
    | some (v, h1) => cond (Nat.ble (cond g h.next h0.next) h1.wlow) (forceV v fun v => match F.put o.dst v with | some F => earlyOps call P ops h0 g rest F { h1 with wlow := cond (Nat.ble h.wlow h1.wlow) h.wlow h1.wlow } | none => none) none
    | none => none))
   (match F.put o.dst undef with | some F => earlyOps call P ops h0 g rest F h | none => none)
noncomputable def evDrawB (call : Call → TypeId → AFrame → AHeap → Option (Value × AHeap)) (P : Program) (ops : Array Oper) (ms : List Nat) (T W : Nat) (F : AFrame) (h : AHeap) : Option (AFrame × AHeap) :=
 cond (drawOKB ops ms T W)
  (match earlyOps call P ops h true (ops.toList.take T) F h with
  | some (F1, h1) =>
   match earlyOps call P ops h false ((ops.toList.take W).drop T) F1 h1 with
   | some (F2, h2) => stepOps call P ops (ops.toList.drop W) F2 h2
   | none => none
  | none => none) none
noncomputable def footC (F : AFrame) (h : AHeap) (o : Op) : Option (List Nat × List Nat) :=
 match o with
 | .load _ a => (match aeval F a with | .pointer (some ⟨i, _, none⟩) => some ([i], []) | _ => none)
 | .store _ a _ =>
  (match aeval F a with
  | .pointer (some ⟨i, _, none⟩) => (match h.get i with | some (.cells _ _ _ mate false) => some ([], i :: mate.toList) | _ => none)
  | _ => none)
 | .convert _ _ x => (match aeval F x with | .int _ _ => some ([], []) | _ => none)
 | .slice _ x _ _ _ => (match aeval F x with | .slice (some ⟨i, _, none⟩) _ _ => some ([i], []) | _ => none)
 | _ => some ([], [])
noncomputable def stepC (call : Call → TypeId → AFrame → AHeap → Option (Value × AHeap)) (P : Program) (ops : Array Oper) : List Oper → AFrame → AHeap → List Nat → List Nat → Option (AFrame × AHeap)
 | [], F, h, ld, st => cond (ld.all fun i => st.all fun j => !Nat.beq i j) (some (F, h)) none
 | o :: rest, F, h, ld, st =>
  cond (fetch F ops o)
   (match footC F h o.op with
   | some (l, s) =>
    (match opA call P F o.op o.type h with
     | some (v, h1) => forceV v fun v => match F.put o.dst v with | some F => stepC call P ops rest F h1 (l ++ ld) (s ++ st) | none => none
     | none => none)
   | none => none)
   (match F.put o.dst undef with | some F => stepC call P ops rest F h ld st | none => none)
noncomputable def evDrawC (call : Call → TypeId → AFrame → AHeap → Option (Value × AHeap)) (P : Program) (ops : Array Oper) (ms : List Nat) (F : AFrame) (h : AHeap) : Option (AFrame × AHeap) :=
 cond (drawOKC ops ms) (stepC call P ops ops.toList F h [] []) none
noncomputable def evDrawW (call : Call → TypeId → AFrame → AHeap → Option (Value × AHeap)) (P : Program) (ops : Array Oper) (ms : List Nat) (W : Nat) (F : AFrame) (h : AHeap) : Option (AFrame × AHeap) :=
 cond (wantB ops (tailFrom (softOf ops) ms W) W) (evDrawB call P ops ms (tailFrom (softOf ops) ms W) W F h) (cond (wantC ops W) (evDrawC call P ops ms F h) (evDraw call P ops ms W F h))
noncomputable def evRegion (P : Program) (G : Msk) (run : Run) (ops : Array Oper) (draw : Bool) (F : AFrame) (h : AHeap) : Option (AEx × AFrame × AHeap) :=
 match cond draw (evDrawW (callA P G run) P ops (masks ops.toList []) (tailFrom (freeOf ops) (masks ops.toList []) ops.size) F h) (stepOps (callA P G run) P ops ops.toList F h) with
 | some (F1, h1) => some (.normal, F1, h1)
 | none => none
noncomputable def evRange1 (P : Program) (G : Msk) (run : Run) (gf : FuncId) (first captured : Array Value) (params : Array Tmp) (assign body : Code) (F : AFrame) (h : AHeap) (F2 : AFrame) : Option (AEx × AFrame × AHeap) :=
 forceNat h.next fun L =>
  (match callF P G run gf (first ++ #[.func (.yield L) #[] #[]] ++ captured) ({ h with next := L }.alloc (.loop .ready none F params assign body)) with
  | some (_, h2) =>
   match h2.get L with
   | some (.loop .ready none _ _ _ _) => some (.normal, F2, h2.write L none)
   | some (.loop .done (some .ret) _ _ _ _) => some (.ret, F2, h2.write L none)
   | some (.loop .done (some (.exit id)) _ _ _ _) => some (.exit id, F2, h2.write L none)
   | _ => none
  | none => none)
noncomputable def evRange (P : Program) (G : Msk) (run : Run) (rd : Option Nat) (g : Value) (params : Array Tmp) (assign body : Code) (F : AFrame) (h : AHeap) : Option (AEx × AFrame × AHeap) :=
 match g with
 | .func (.func gf) first captured =>
   (match rd with
   | none => evRange1 P G run gf first captured params assign body F (h.alloc .deferred) { F with marks := .col h.next :: F.marks }
   | some l => match h.get l with | some (.loop _ _ _ _ _ _) => evRange1 P G run gf first captured params assign body F h F | _ => none)
 | _ => none
noncomputable def deferA (F : AFrame) (c : Call) : Option AMark :=
 match c.callee with
 | .value f => (match aeval F f with | .func (.func g) first captured => some (.fn g (first.toList ++ (c.args.toList.map (aeval F) ++ captured.toList))) | _ => none)
 | _ => none
noncomputable def stepD (call : Call → TypeId → AFrame → AHeap → Option (Value × AHeap)) (P : Program) (ops : Array Oper) : List Oper → AFrame → AHeap → Option (AFrame × AHeap)
 | [], F, h => some (F, h)
 | o :: rest, F, h =>
  cond (fetch F ops o)
   (match o.op with
   | .defer c => (match deferA F c with | some m => (match AFrame.put { F with marks := m :: F.marks } o.dst undef with | some F => stepD call P ops rest F h | none => none) | none => none)
   | op =>
    (match opA call P F op o.type h with
     | some (v, h1) => forceV v fun v => match F.put o.dst v with | some F => stepD call P ops rest F h1 | none => none
     | none => none))
   (match F.put o.dst undef with | some F => stepD call P ops rest F h | none => none)
noncomputable def evDefer (P : Program) (G : Msk) (run : Run) (rd : Option Nat) (ops : Array Oper) (draw : Bool) (F : AFrame) (h : AHeap) : Option (AEx × AFrame × AHeap) :=
 match draw, rd with
 | false, none => (match stepD (callA P G run) P ops ops.toList F h with | some (F1, h1) => some (.normal, F1, h1) | none => none)
 | _, _ => none
noncomputable def evStep (P : Program) (G : Msk) (out run : Run) (rd : Option Nat) (c : Code) (F : AFrame) (h : AHeap) : Option (AEx × AFrame × AHeap) :=
 match c with
 | .skip => some (.normal, F, h)
 | .label _ => some (.normal, F, h)
 | .seq a b => evSeq run rd a b F h
 | .cond c a b => evCond run rd (aeval F c) a b F h
 | .block id b => evBlock run rd id b F h
 | .loop b => evSeq run rd b (.loop b) F h
 | .exit id => some (.exit id, F, h)
 | .ret => some (.ret, F, h)
 | .scope b => run rd b F h
 | .region _ ops draw => cond (hasDefer ops) (evDefer P G out rd ops draw F h) (evRegion P G out ops draw F h)
 | .rangeFunc g params assign body => evRange P G out rd (aeval F g) params assign body F h
 | .goto _ => none
 | .refuse _ => none
noncomputable def evIn (P : Program) (G : Msk) (out : Run) (k : Nat) : Run := Nat.rec (fun _ _ _ _ => none) (fun _ ih => evStep P G out ih) k
noncomputable def ev (P : Program) (G : Msk) (d : Nat) : Run := Nat.rec (fun _ _ _ _ => none) (fun _ ih => evIn P G ih 1000000000000000) d
end Go.Ev
