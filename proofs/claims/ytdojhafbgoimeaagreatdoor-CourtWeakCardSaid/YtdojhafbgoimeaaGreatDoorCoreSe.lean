/- Part of the proof. -/
import Derived.Test.YtdojhafbgoimeaaGreatDoorCoreG2

namespace Go.Ev
noncomputable section
inductive D where
  |int (n:Int)
  |bool (p:Prop)
  |str (s:List UInt8)
  |nil
  |list (l:List D)
  |sct (fs:List D)
  |fn (g:FuncId) (ts:List TypeId) (ds:List D)
def D.asInt:D->Int| .int n=>n|_=>0
def D.asProp:D->Prop| .bool p=>p|_=>False
def D.asStr:D->List UInt8| .str s=>s|_=> []
def D.asList:D->List D| .list l=>l|_=> []
def D.isNil:D->Prop| .nil=>True|_=>False
def zas (l:List D) (i:Nat):D:=(l[i]?).getD .nil
def D.fld (d:D) (j:Nat):D:=match d with| .sct fs=>zas fs j|_=> .nil
def D.isFn (d:D):Prop:=match d with| .fn _ _ _=>True|_=>False
def D.len (d:D):Nat:=d.asList.length
theorem zmR (n:Int):(D.int n).asInt=n:=rfl
theorem zqf (l:List D):(D.list l).len=l.length:=rfl
theorem zsi:D.nil.len=0:=rfl
def D.sub (d:D) (o n:Nat):D:=match d with| .list l=> .list ((l.drop o).take n)|d=>d
inductive NL where
  |lit (n:Nat)
  |sym (n:Nat)
def NL.v:NL->Nat| .lit n=>n| .sym n=>n
def NL.add:NL->NL->NL
  | .lit a,.lit b=> .lit (a+b)
  | .lit a,.sym b=>cond (Nat.beq a 0) (.sym b) (.sym (a+b))
  |a,b=> .sym (a.v+b.v)
def NL.mulK:NL->Nat->NL
  | .lit n,s=> .lit (n*s)
  | .sym n,s=> .sym (n*s)
def NL.sub:NL->NL->NL
  | .lit a,.lit b=> .lit (a-b)
  |a,.lit b=>cond (Nat.beq b 0) a (.sym (a.v-b))
  |a,b=> .sym (a.v-b.v)
inductive V where
  |val (v:Value)
  |int (k:IntKind) (n:Int)
  |prop (p:Prop)
  |str (s:List UInt8)
  |agg (cs:List V)
  |tup (cs:List V)
  |ptr (b o:Nat)
  |ept (b:Nat) (i:NL)
  |slc (b:Nat) (o n:NL) (c:Option NL)
  |epf (b:Nat) (i:NL) (e:TypeId) (f:Nat)
  |dat (t:TypeId) (d:D)
  |dpt (t:TypeId) (d:D)
  |fn (g:FuncId) (first cap:List V)
  |fnd (t:TypeId) (d:D)
  |osl (b v:Nat) (i n:NL)
  |oel (b v:Nat) (i n:NL)
  |yld (b:Nat)
inductive zs9 where
  |ready
  |busy
  |ret
  |exit (id:Nat)
inductive SB where
  |box (e:TypeId) (cs:List V)
  |arr (e:TypeId) (l:List D)
  |grd (a e:TypeId) (l:List D)
  |own (v:Nat) (e e':TypeId) (l:List D)
  |lp (st:zs9) (g:FuncId) (fr:T V) (sz:Nat) (ps:Array Tmp) (as bd:Code)
  |dfr
structure SS where
  fr:T V
  sz:Nat
  hp:T SB
  nx:Nat
  ro:Nat
  fl:Nat
  wr:List Nat
  mks:List Nat:= []
def T.put {α:Type} (t:T α) (n:Nat) (a:Option α):T α:=T.set (Nat.succ n) t n a
def SS.put (S:SS) (d:Option Tmp) (v:Option V) (K:SS->Prop):Prop:=
  match d with
  |none=>K S
  |some d=>cond (Nat.blt d S.sz) (K {S with fr:=S.fr.put d v}) False
def SS.alloc (S:SS) (k:SB):SS:={S with hp:=S.hp.put S.nx (some k),nx:=Nat.succ S.nx}
def SS.write (S:SS) (b:Nat) (k:Option SB):SS:={S with hp:=S.hp.put b k,wr:=b::S.wr}
def SS.bump (S:SS):SS:={S with nx:=Nat.succ S.nx}
def zcs:V->Option (IntKind×Int)
  | .int k n=>some (k,n)
  | .val (.int k n)=>some (k,n)
  |_=>none
def zqp:V->Option (Int×NL)
  | .int _ n=>some (n,.sym n.toNat)
  | .val (.int _ n)=>some (n,.lit n.toNat)
  |_=>none
def zg5 (b:Bool):Prop:=b=true
def zd0:V->Option Prop
  | .prop p=>some p
  | .val (.bool b)=>some (zg5 b)
  |_=>none
def zgv:V->Option (List UInt8)
  | .str s=>some s
  | .val (.string b)=>some b.data.toList
  |_=>none
def V.cells:V->List V| .agg cs=>cs|v=> [v]
def V.one:V->Bool
  | .agg _| .tup _=>false
  | .val v=>zar v
  |_=>true
def zsT (v:Value):Option V:=
  match v with
  | .agg cs=>cond (flat v) (some (.agg (cs.toList.map .val))) none
  |v=>cond (flat v) (some (.val v)) (match v with| .tuple vs=>cond (Nat.beq vs.size 0) (some (.val v)) none|_=>none)
def zr6 (S:SS):Operand->Option V
  | .tmp t=>S.fr.get t
  | .const v=>zsT v
  | .func f=>some (.fn f [] [])
  | .global _=>none
def zbg (S:SS) (x:Operand) (K:V->Prop):Prop:=match zr6 S x with|some v=>K v|none=>False
def zjp (S:SS) (xs:List Operand):(List V->Prop)->Prop:=
  List.rec (λK=>K []) (λx _ ih K=>zbg S x λv=>ih λl=>K (v::l)) xs
def zqP (S:SS) (x:Option Operand) (K:Option V->Prop):Prop:=match x with|some x=>zbg S x λv=>K (some v)|none=>K none
def inR:IntKind->Int->Prop
  | .i64,n=> -9223372036854775808<=n/\n<9223372036854775808
  | .u8,n=>0<=n/\n<256
  | .u64,n=>0<=n/\n<18446744073709551616
  | .i32,n=> -2147483648<=n/\n<2147483648
  | .u32,n=>0<=n/\n<4294967296
  | .i8,n=> -128<=n/\n<128
  | .i16,n=> -32768<=n/\n<32768
  | .u16,n=>0<=n/\n<65536
def zaf (a b:Int):Int:=((a.toNat&&&b.toNat:Nat):Int)
def zbF (k:IntKind) (a b:Int):Int:=a.fdiv (2^min b.toNat k.bits)
def zpb (op:BinOp) (k:IntKind) (a b:Int) (K:V->Prop):Prop:=
  match op with
  | .shr=>0<=b/\K (.int k (zbF k a b))
  |_=>False
def zrn (k:IntKind) (a b:Int) (K:V->Prop):Prop:=
  match k with
  | .u8=>K (.int .u8 (IntKind.u8.wrap (a+b)))
  |k=>inR k (a+b)/\K (.int k (a+b))
def zkD (a b:Int):Int:=IntKind.i64.wrap ((BitVec.ofInt 64 a&&&BitVec.ofInt 64 b).toNat:Nat)
def zro (k:IntKind) (a b:Int) (K:V->Prop):Prop:=
  match k with
  | .i64=>K (.int .i64 (zkD a b))
  |k=>0<=a/\0<=b/\inR k a/\inR k b/\K (.int k (zaf a b))
def zo3 (op:BinOp) (k:IntKind) (a b:Int) (K:V->Prop):Prop:=
  match op with
  | .add=>zrn k a b K
  | .sub=>inR k (a-b)/\K (.int k (a-b))
  | .mul=>inR k (a*b)/\K (.int k (a*b))
  | .quo=>b≠0/\inR k (a.tdiv b)/\K (.int k (a.tdiv b))
  | .rem=>b≠0/\K (.int k (a.tmod b))
  | .and=>zro k a b K
  | .shr=>0<=b/\K (.int k (zbF k a b))
  | .eql=>K (.prop (a=b))
  | .neq=>K (.prop (¬a=b))
  | .lss=>K (.prop (a<b))
  | .leq=>K (.prop (a<=b))
  | .gtr=>K (.prop (b<a))
  | .geq=>K (.prop (b<=a))
  |_=>False
structure sLt (a b:List UInt8):Prop where
  out:Op.bytesLess a b=true
def zpd (op:BinOp) (a b:List UInt8) (K:V->Prop):Prop:=
  match op with
  | .add=>a.length+b.length<9223372036854775808/\K (.str (a++b))
  | .eql=>K (.prop (a=b))
  | .neq=>K (.prop (¬a=b))
  | .lss=>K (.prop (sLt a b))
  | .leq=>K (.prop (sLt a b\/a=b))
  | .gtr=>K (.prop (¬(sLt a b\/a=b)))
  | .geq=>K (.prop (¬sLt a b))
  |_=>False
def zj6 (op:BinOp) (a b:Prop) (K:V->Prop):Prop:=
  match op with
  | .eql=>K (.prop (a↔b))
  | .neq=>K (.prop (¬(a↔b)))
  |_=>False
def zrq (op:BinOp) (x:V) (K:V->Prop):Prop:=
  match op,x with
  | .eql,.dat _ d=>K (.prop d.isNil)
  | .neq,.dat _ d=>K (.prop (¬d.isNil))
  | .eql,.slc _ _ _ _=>K (.val (.bool false))
  | .neq,.slc _ _ _ _=>K (.val (.bool true))
  |_,_=>False
def zbH (P:Program) (t:TypeId):Bool:=match P.underlying t with|some .bool=>true|_=>false
def zal (P:Program) (t:TypeId):Bool:=match P.underlying t with|some (.slice _)=>true|_=>false
def zjK (P:Program) (t:TypeId):Bool:=match zah P t with|some _=>true|none=>false
def zsR (P:Program) (t:TypeId):Bool:=match zah P t with|some k=>Nat.blt 0 k|none=>false
def zsQ (P:Program) (t:TypeId) (n:Nat):Bool:=match zah P t with|some k=>Nat.blt 0 k&&Nat.ble k n&&Nat.beq (P.cellsOf t) k|none=>false
structure zrr (P:Program) (op:BinOp) (t:TypeId) (x y:V) (K:V->Prop):Prop where
  out:False
def zj5 (P:Program) (op:BinOp) (t:TypeId) (x y:V) (K:V->Prop):Prop:=
  match zcs x,zcs y with
  |some (k,a),some (k',b)=>cond (k==k') (zo3 op k a b K) (zpb op k a b K)
  |_,_=>
    match zgv x,zgv y with
    |some a,some b=>zpd op a b K
    |_,_=>
      match zd0 x,zd0 y with
      |some a,some b=>cond (zbH P t) (zj6 op a b K) False
      |_,_=>
        match y with
        | .val (.slice none 0 0)=>cond (zal P t) (zrq op x K) False
        |y=>zrr P op t x y K
def zoV (P:Program) (op:BinOp) (t:TypeId) (ox oy:Operand) (x y:V) (K:V->Prop):Prop:=
  match x,y with
  | .val a,.val b=>
    match zfP P op t ox oy a b {t:= .leaf,next:=0,wlow:=0} with
    |some (v,_)=>cond (zaG v&&zaG a&&zaG b) (zeX v λv=>K (.val v)) False
    |none=>False
  |x,y=>zj5 P op t x y K
def zsP (op:UnOp) (x:V) (K:V->Prop):Prop:=
  match op,x with
  | .not,.val (.bool b)=>K (.val (.bool (!b)))
  | .not,.prop p=>K (.prop (¬p))
  | .neg,x=>(match zcs x with|some (k,n)=>inR k (-n)/\K (.int k (-n))|none=>False)
  |_,_=>False
def zkc (P:Program) (s d:TypeId) (x:V) (K:V->Prop):Prop:=
  match P.underlying s,P.underlying d with
  |some _,some (.int k)=>
    (match x with
     | .val (.int _ n)=>zfC (k.wrap n) λm=>K (.val (.int k m))
     | .int _ n=>K (.int k (k.wrap n))
     |_=>False)
  |some .string,some .string=>(match zgv x with|some s=>K (.str s)|none=>False)
  |_,_=>False
structure zmX (l:List D):Prop where
  out:∀d,d∈l->∃n:Nat,n<256/\d= .int n
def zfj (l:List D):List UInt8:=l.map λd=>UInt8.ofNat d.asInt.toNat
def zsL (s:List UInt8):List D:=s.map λb=> .int b.toNat
def zca (P:Program) (t:TypeId):Bool:=match zah P t with|some s=>Nat.beq s 1|none=>false
def zsf (P:Program) (t:TypeId):Bool:=match P.underlying t with|some (.int .i64)=>true|_=>false
def zmH (P:Program) (t:TypeId):Bool:=match P.underlying t with|some (.int .u8)=>true|_=>false
def zh4 (P:Program) (S:SS) (s d:TypeId) (x:V) (K:V->Prop):Prop:=
  match x with
  | .slc b o n _=>
    (match P.underlying s,P.underlying d,S.hp.get b with
     |some (.slice e),some .string,some (.arr e' l)=>
       cond (zmH P e&&zmH P e'&&zca P e') (o.v+n.v<=l.length/\zmX ((l.drop o.v).take n.v)/\K (.str (zfj ((l.drop o.v).take n.v)))) False
     |_,_,_=>False)
  | .ptr b o=>
    (match P.underlying s,P.underlying d,S.hp.get b with
     |some (.pointer t),some .unsafePointer,some (.box _ cs)=>cond (Nat.blt o cs.length&&zsR P t) (K (.ptr b o)) False
     |some .unsafePointer,some (.pointer u),some (.box e cs)=>
       cond (Nat.beq o 0&&Nat.beq e u&&zsQ P u cs.length) (K (.ptr b o)) False
     |_,_,_=>False)
  |x=>zkc P s d x K
def zkk (c a b:V) (K:V->Prop):Prop:=
  match c with
  | .val (.bool t)=>cond t (K a) (K b)
  | .prop p=>
    (match zd0 a,zd0 b with
     |some x,some y=>K (.prop ((p/\x)\/(¬p/\y)))
     |_,_=>False)
  |_=>False
def zn5 (P:Program) (t:TypeId):Bool:=match P.underlying t with|some (.int .i64)=>true|_=>false
def zaD (P:Program) (t:TypeId) (n:Nat):Bool:=match zah P t with|some s=>Nat.beq s n|none=>false
def zl1 (P:Program) (rec_:TypeId->List V->Option D):List Field->List V->Option (List D)
  | [],[]=>some []
  | [],_=>none
  |fd::fs,vs=>
    match zah P fd.type with
    |none=>none
    |some s=>
      cond (Nat.ble s vs.length)
        (match rec_ fd.type (vs.take s),zl1 P rec_ fs (vs.drop s) with
         |some d,some ds=>some (d::ds)
         |_,_=>none) none
def zuI:V->Option D
  | .fnd _ d=>some d
  | .val .nilFunc=>some .nil
  | .fn g [] []=>some (.fn g [] [])
  |_=>none
def zdR (P:Program):Nat->TypeId->List V->Option D
  |0,_,_=>none
  |f+1,t,vs=>
    cond (zaD P t vs.length)
    (match P.underlying t,vs with
    |some (.int k),[v]=>(match zcs v with|some (k',n)=>cond (k==k') (some (.int n)) none|none=>none)
    |some .bool,[v]=>(zd0 v).map .bool
    |some .string,[v]=>(zgv v).map .str
    |some (.slice _),[.val (.slice none 0 0)]=>some .nil
    |some (.slice _),[.dat t' d]=>cond (Nat.beq t t') (some d) none
    |some (.struct fs),vs=>(zl1 P (zdR P f) fs.toList vs).map .sct
    |some (.func _ _ _),[v]=>zuI v
    |_,_=>none) none
def zeZ (rec_:TypeId->D->Option (List V)) (d:D):List Field->Nat->Option (List V)
  | [],_=>some []
  |fd::fs,j=>
    match rec_ fd.type (d.fld j),zeZ rec_ d fs (Nat.succ j) with
    |some vs,some ws=>some (vs++ws)
    |_,_=>none
def zuH (e:TypeId):Field:={name:= "",type:=e,offset:=0,embedded:=false,tag:= "",pkgPath:= "",byteOffset:=0}
def cellsOf (P:Program):Nat->TypeId->D->Option (List V)
  |0,_,_=>none
  |f+1,t,d=>
    match P.underlying t with
    |some (.int k)=>some [.int k d.asInt]
    |some .bool=>some [.prop d.asProp]
    |some .string=>some [.str d.asStr]
    |some (.slice _)=>some [.dat t d]
    |some (.struct fs)=>zeZ (cellsOf P f) d fs.toList 0
    |some (.array n e)=>zeZ (cellsOf P f) d (List.replicate n (zuH e)) 0
    |some (.func _ _ _)=>some [.fnd t d]
    |_=>none
def za4 (P:Program) (t:TypeId) (d:D) (K:V->Prop):Prop:=
  match cellsOf P 20 t d,zbf P t with
  |some vs,some true=>K (.agg vs)
  |some [v],some false=>K v
  |_,_=>False
def zfq (P:Program):List Field->Nat->Bool
  | [],_=>true
  |fd::fs,o=>Nat.beq fd.offset o&&(match zah P fd.type with|some s=>zfq P fs (o+s)|none=>false)
def zn2 (P:Program) (t:TypeId):Bool:=match zbf P t with|some true=>true|_=>false
def zfQ:List V->Option (List D)
  | []=>some []
  |v::vs=>match zd0 v,zfQ vs with|some p,some ds=>some (.bool p::ds)|_,_=>none
def ze9 (P:Program) (S:SS) (t:TypeId) (a:V) (K:V->Prop):Prop:=
  match a with
  | .ptr b o=>
    match S.hp.get b with
    |some (.box _ cs)=>
      (match zbf P t,zah P t with
       |some false,_=>(match cs[o]? with|some v=>K v|none=>False)
       |some true,some s=>cond (Nat.ble (o+s) cs.length) (K (.agg ((cs.drop o).take s))) False
       |_,_=>False)
    |some (.grd a e l)=>cond (Nat.beq o 0&&Nat.beq a t&&zbH P e&&zaD P e 1&&zn2 P t&&zaD P t l.length) (K (.agg (l.map λd=> .prop d.asProp))) False
    |_=>False
  | .ept b i=>
    match S.hp.get b with
    |some (.arr e l)=>cond (Nat.beq e t) (i.v<l.length/\za4 P t (zas l i.v) K) False
    |some (.grd _ e l)=>cond (Nat.beq e t) (i.v<l.length/\za4 P t (zas l i.v) K) False
    |some (.own v e _ l)=>cond (Nat.beq e t&&zal P t) (i.v<l.length/\(zas l i.v= .nil->K (.val (.slice none 0 0)))/\(∀r,zas l i.v= .list r->K (.osl b v i (.sym r.length)))/\∀n,zas l i.v= .int n->False) False
    |_=>False
  | .oel b v i n=>
    match S.hp.get b with
    |some (.own v' _ e' l)=>cond (Nat.beq v v'&&Nat.beq e' t) (i.v<l.length/\n.v<(zas l i.v).len/\za4 P t (zas (zas l i.v).asList n.v) K) False
    |_=>False
  | .dpt t' d=>cond (Nat.beq t t') (za4 P t d K) False
  |_=>False
def zav (P:Program) (t e:TypeId):Bool:=(match P.underlying t with|some (.slice e')=>Nat.beq e' e|_=>false)&&zaD P t 1
structure zfM (l:List D):Prop where
  out:∀d,d∈l->d= .nil
def zuj (n:NL):Option NL->Prop
  |none=>True
  |some c=>c.v=n.v
def zlx (P:Program) (S:SS) (b:Nat) (e:TypeId) (l:List D) (i:NL) (x:V) (p:Prop) (K:V->SS->Prop):Prop:=
  match x with
  | .slc b' o n c=>
    (match S.hp.get b' with
     |some (.arr e2 l2)=>
       cond (zav P e e2&&Nat.ble S.ro b&&Nat.ble S.ro b'&& !Nat.beq b b')
         (i.v<l.length/\p/\o.v=0/\n.v=l2.length/\zuj n c/\K (.val undef) ((S.write b' none).write b (some (.own S.nx e e2 (l.set i.v (.list l2))))).bump) False
     |_=>False)
  |_=>False
def zfI (P:Program) (S:SS) (t:TypeId) (a x:V) (K:V->SS->Prop):Prop:=
  match a with
  | .ptr b o=>
    match S.hp.get b,zah P t with
    |some (.box be cs),some s=>
      cond (Nat.ble S.ro b&&Nat.beq x.cells.length s&&Nat.ble (o+s) cs.length&&x.cells.all V.one)
        (K (.val undef) (S.write b (some (.box be (cs.take o++x.cells++cs.drop (o+x.cells.length)))))) False
    |some (.grd a e l),some s=>
      (match zfQ x.cells with
       |some ds=>cond (Nat.beq o 0&&Nat.beq a t&&zbH P e&&zaD P e 1&&Nat.ble S.ro b&&Nat.beq ds.length s&&Nat.beq s l.length) (K (.val undef) (S.write b (some (.grd a e ds)))) False
       |none=>False)
    |_,_=>False
  | .ept b i=>
    match S.hp.get b with
    |some (.arr e l)=>
      cond (Nat.beq e t&&Nat.ble S.ro b)
        (match zdR P 20 t x.cells with
         |some d=>i.v<l.length/\K (.val undef) (S.write b (some (.arr e (l.set i.v d))))
         |none=>zlx P S b e l i x (zfM l) K) False
    |some (.grd a e l)=>
      cond (Nat.beq e t&&Nat.ble S.ro b)
        (match zdR P 20 t x.cells with
         |some d=>i.v<l.length/\K (.val undef) (S.write b (some (.grd a e (l.set i.v d))))
         |none=>False) False
    |some (.own v e e' l)=>
      cond (Nat.beq e t&&Nat.ble S.ro b)
        (match x with
         | .val (.slice none 0 0)=>zaD P e 1=true/\i.v<l.length/\K (.val undef) (S.write b (some (.own v e e' (l.set i.v .nil))))
         |x=>zlx P S b e l i x True K) False
    |_=>False
  | .oel b v i n=>
    match S.hp.get b with
    |some (.own v' e e' l)=>
      cond (Nat.beq v v'&&Nat.beq e' t&&Nat.ble S.ro b)
        (match zdR P 20 t x.cells with
         |some d=>i.v<l.length/\n.v<(zas l i.v).len/\K (.val undef) (S.write b (some (.own v e e' (l.set i.v (.list ((zas l i.v).asList.set n.v d))))))
         |none=>False) False
    |_=>False
  |_=>False
def zoX (S:SS) (e:TypeId) (x:V) (K:V->SS->Prop):Prop:=
  cond (x.cells.all V.one) (K (.ptr S.nx 0) (S.alloc (.box e x.cells))) False
def zvE (P:Program):Nat->TypeId->Option (TypeId×Nat)
  |0,_=>none
  |f+1,t=>
    match P.underlying t with
    |some (.array n e)=>
      (match P.underlying e with
       |some (.int .i64)=>some (e,n)
       |_=>match zvE P f e with|some (e',m)=>some (e',n*m)|none=>none)
    |_=>none
def ztc:List Value->Bool
  | []=>true
  | .int .i64 (.ofNat 0)::l=>ztc l
  |_=>false
def zrG (P:Program) (t:TypeId):Option (TypeId×Nat):=
  match P.underlying t with
  |some (.array n e)=>cond (zbH P e) (some (e,n)) none
  |_=>none
def ztb:List Value->Bool
  | []=>true
  | .bool false::l=>ztb l
  |_=>false
def zhX (P:Program) (sm:Bool) (S:SS) (e:TypeId) (K:V->SS->Prop):Prop:=
  match zcv P e with
  |some z=>
    (match cond sm none (zvE P 4 e) with
     |some (t,n)=>cond (flat z&&ztc z.cells.toList&&Nat.beq z.cells.toList.length n&&zn5 P t&&zaD P t 1) (K (.ptr S.nx 0) (S.alloc (.grd e t (List.replicate n (.int 0))))) False
     |none=>
       (match zrG P e with
        |some (t,n)=>cond (flat z&&ztb z.cells.toList&&Nat.beq z.cells.toList.length n&&zbH P t&&zaD P t 1) (K (.ptr S.nx 0) (S.alloc (.grd e t (List.replicate n (.bool False))))) False
        |none=>cond (flat z) (K (.ptr S.nx 0) (S.alloc (.box e (z.cells.toList.map .val)))) False))
  |none=>False
def zqS (P:Program) (e:TypeId):Option D:=
  match zcv P e with
  |some z=>zdR P 20 e (z.cells.toList.map .val)
  |none=>none
def zdA (P:Program) (S:SS) (t:TypeId) (l c:V) (K:V->SS->Prop):Prop:=
  match P.underlying t with
  |some (.slice e)=>
    match zqp l,zqp c,zqS P e,P.info? e with
    |some (li,l),some (ci,c),some z,some i=>
      cond (Nat.blt 0 i.size&&zdD P e) (0<=li/\li<=ci/\ci<=16777216/\i.bytes*c.v<=281474976710656/\K (.slc S.nx (.lit 0) l (some c)) (S.alloc (.arr e (List.replicate c.v z)))) False
    |_,_,_,_=>False
  |_=>False
def zju (P:Program) (e:TypeId):Bool:=match zah P e with|some s=>Nat.blt 0 s|none=>false
def bnd (x:Option V) (d:Int×NL):Option (Int×NL):=match x with|none=>some d|some v=>zqp v
def zrJ (n:NL):Option NL->Int->Prop
  |none,h=>h<=n.v
  |some c,h=>h<=c.v
def zth:Option NL->NL->Option NL
  |none,_=>none
  |some c,l=>some (c.sub l)
def zib (P:Program) (S:SS) (t:TypeId) (x:V) (lo hi mx:Option V) (K:V->Prop):Prop:=
  match P.underlying t,mx with
  |some (.slice e),none=>
    (match x with
    | .slc b o n c=>
      (match bnd lo (0,.lit 0),bnd hi (n.v,n),S.hp.get b with
       |some (l,ln),some (h,hn),some (.arr e' _)=>cond (Nat.beq e e') (0<=l/\l<=h/\zrJ n c h/\K (.slc b (o.add ln) (hn.sub ln) (zth c ln))) False
       |_,_,_=>False)
    | .dat t' d=>
      (match bnd lo (0,.lit 0),bnd hi (d.len,.sym d.len) with
       |some (l,ln),some (h,hn)=>cond (Nat.beq t t'&&zju P e) (0<=l/\l<=h/\h<=d.len/\K (.dat t (d.sub ln.v (hn.sub ln).v))) False
       |_,_=>False)
    | .val (.slice none 0 0)=>
      (match bnd lo (0,.lit 0),bnd hi (0,.lit 0) with
       |some (l,_),some (h,_)=>cond (zju P e) (0<=l/\l<=h/\h<=0/\K (.val (.slice none 0 0))) False
       |_,_=>False)
    |_=>False)
  |some .string,none=>
    (match zgv x with
     |some s=>
       (match bnd lo (0,.lit 0),bnd hi (s.length,.sym s.length) with
        |some (l,ln),some (h,hn)=>0<=l/\l<=h/\h<=s.length/\K (.str ((s.drop ln.v).take (hn.sub ln).v))
        |_,_=>False)
     |none=>False)
  |_,_=>False
def chD (P:Program) (e:TypeId) (s:Nat):Nat->List V->Option (List D)
  |0,_=>some []
  |n+1,cs=>match zdR P 20 e (cs.take s),chD P e s n (cs.drop s) with|some d,some ds=>some (d::ds)|_,_=>none
def zj7 (P:Program) (S:SS) (e:TypeId) (x:V) (K:V->SS->Prop):Prop:=
  match P.underlying e with
  |some (.array n t)=>
    (match zah P t with
     |some s=>
       (match chD P t s n x.cells with
        |some l=>cond (x.cells.all V.one&&Nat.blt 0 s&&Nat.beq x.cells.length (n*s)) (K (.ptr S.nx 0) (S.alloc (.grd e t l))) False
        |none=>False)
     |none=>False)
  |_=>False
def zgF (P:Program) (S:SS) (t:TypeId) (x:V) (lo hi mx:Option V) (K:V->SS->Prop):Prop:=
  match x,lo,hi,mx with
  | .ptr b 0,none,none,none=>
    (match P.underlying t,S.hp.get b with
     |some (.array n e),some (.box a cs)=>
       (match zah P e with
        |some s=>
          (match chD P e s n cs with
           |some l=>cond (Nat.beq a t&&Nat.ble S.ro b&&Nat.blt 0 s&&Nat.blt 0 n&&Nat.ble n 16777216&&Nat.beq cs.length (n*s)) (K (.slc S.nx (.lit 0) (.lit n) (some (.lit n))) ((S.write b none).alloc (.grd a e l))) False
           |none=>False)
        |none=>False)
     |_,_=>False)
  |x,lo,hi,mx=>zib P S t x lo hi mx λv=>K v S
def zdy (P:Program) (s:TypeId) (x:V) (f:Nat) (K:V->Prop):Prop:=
  match x,zfk P s f with
  | .ptr b o,some fd=>(match zah P fd.type with|some 0|none=>False|some _=>K (.ptr b (o+fd.offset)))
  | .ept b i,some fd=>(match zah P fd.type with|some 0|none=>False|some _=>K (.epf b i s f))
  | .dpt t d,some fd=>
    (match P.underlying s,zah P fd.type with
     |some (.struct fs),some (.succ _)=>cond (Nat.beq t s&&zfq P fs.toList 0) (K (.dpt fd.type (d.fld f))) False
     |_,_=>False)
  |_,_=>False
def zh6 (P:Program) (t:TypeId) (x:V) (f:Nat) (K:V->Prop):Prop:=
  match x,zfk P t f with
  | .agg cs,some fd=>
    (match zbf P fd.type,zah P fd.type with
     |some true,some s=>cond (Nat.ble (fd.offset+s) cs.length) (K (.agg ((cs.drop fd.offset).take s))) False
     |some false,_=>(match cs[fd.offset]? with|some v=>K v|none=>False)
     |_,_=>False)
  |_,_=>False
def zdz (P:Program) (S:SS) (t:TypeId) (x ix:V) (K:V->Prop):Prop:=
  match zqp ix,P.underlying t with
  |some (i,n),some (.slice e)=>
    (match x with
     | .slc b o l _=>
       (match S.hp.get b with
        |some (.arr e' _)=>cond (Nat.beq e e') (0<=i/\i<l.v/\K (.ept b (o.add n))) False
        |some (.own _ e' _ _)=>cond (Nat.beq e e') (0<=i/\i<l.v/\K (.ept b (o.add n))) False
        |_=>False)
     | .dat t' d=>cond (Nat.beq t t'&&zju P e) (0<=i/\i<d.len/\K (.dpt e (zas d.asList n.v))) False
     | .osl b v j l=>(match S.hp.get b with|some (.own v' _ e' ll)=>cond (Nat.beq v v'&&Nat.beq e e') (0<=i/\i<l.v/\j.v<ll.length/\i<(zas ll j.v).len/\K (.oel b v j n)) False|_=>False)
     |_=>False)
  |some (i,n),some (.array len e)=>
    (match x with
     | .ptr b o=>
      (match S.hp.get b,zah P e with
       |some (.grd _ e' _),some s=>cond (zaD P e' 1) (0<=i/\i<(len:Int)/\K (.ept b ((NL.lit o).add (n.mulK s)))) False
       |some (.box _ _),some s=>(match n with| .lit n=>0<=i/\i<(len:Int)/\K (.ptr b (o+n*s))| .sym _=>False)
       |_,_=>False)
     | .ept b m=>(match S.hp.get b,zah P e with|some (.grd _ e' _),some s=>cond (zaD P e' 1) (0<=i/\i<(len:Int)/\K (.ept b (m.add (n.mulK s)))) False|_,_=>False)
     |_=>False)
  |_,_=>False
def zvH (g:Nat):Option zlI:=(default:zdQ).l.find? λp=>Nat.beq p.g g
def ztr (P:Program) (e:TypeId) (s:Nat):Nat->List Value->Option (List D)
  |0,_=>some []
  |n+1,cs=>match zdR P 20 e ((cs.take s).map .val),ztr P e s n (cs.drop s) with|some d,some ds=>some (d::ds)|_,_=>none
def zkh (P:Program) (t:TypeId) (g:Nat) (ix:V) (K:V->Prop):Prop:=
  match zqp ix,P.underlying t,zvH g with
  |some (i,n),some (.array len e),some x=>
    (match zah P e with
     |some s=>
       (match ztr P e s len x.cs with
        |some l=>cond (Nat.blt 0 s&&x.cs.all zaG&&Nat.beq x.cs.length (len*s)) (0<=i/\i<(len:Int)/\K (.dpt e (zas l n.v))) False
        |none=>False)
     |none=>False)
  |_,_,_=>False
def zlw (P:Program) (S:SS) (t:TypeId) (x ix:Operand) (K:V->Prop):Prop:=
  match x with
  | .global g=>zbg S ix λix=>zkh P t g ix K
  |x=>zbg S x λx=>zbg S ix λix=>zdz P S t x ix K
def zak (s:List UInt8) (i:Nat):Int:=((s[i]?).getD 0).toNat
structure zo9 (P:Program) (t:TypeId) (cs:List V) (ix:V) (K:V->Prop):Prop where
  out:False
def zh8 (P:Program) (t:TypeId) (x ix:V) (K:V->Prop):Prop:=
  match x with
  | .agg cs=>zo9 P t cs ix K
  |x=>
  match zqp ix,zgv x,P.underlying t with
  |some (i,n),some s,some .string=>0<=i/\i<s.length/\K (.int .u8 (zak s n.v))
  |_,_,_=>False
def ze7 (x:V) (ix:Nat) (K:V->Prop):Prop:=
  match x with| .tup vs=>(match vs[ix]? with|some v=>K v|none=>False)|_=>False
def zee (x:V) (K:V->Prop):Prop:=
  match x with
  | .ptr _ _| .ept _ _| .dpt _ _| .fn _ _ _=>K x
  | .fnd t d=>d.isFn/\K (.fnd t d)
  |_=>False
def zlY (places:List (Nat×Nat)):List (Nat×V)->List V->Option (List V)
  | [],cs=>some cs
  | (i,v)::ps,cs=>
    match places[i]? with
    |some (o,s)=>cond (Nat.beq v.cells.length s&&Nat.ble (o+s) cs.length) (zlY places ps (cs.take o++v.cells++cs.drop (o+v.cells.length))) none
    |none=>none
def zeA (P:Program):List Field->Option (List (Nat×Nat))
  | []=>some []
  |fd::fs=>match zah P fd.type,zeA P fs with|some s,some ps=>some ((fd.offset,s)::ps)|_,_=>none
def zh2 (P:Program) (t:TypeId) (parts:List (Nat×V)) (K:V->Prop):Prop:=
  match P.underlying t,zcv P t with
  |some (.struct fs),some z=>
    (match zeA P fs.toList with
     |some places=>cond (flat z) (match zlY places parts (z.cells.toList.map .val) with|some cs=>K (.agg cs)|none=>False) False
     |none=>False)
  |some (.array n e),some z=>
    (match zah P e with
     |some s=>cond (flat z) (match zlY ((List.range n).map λi=>(i*s,s)) parts (z.cells.toList.map .val) with|some cs=>K (.agg cs)|none=>False) False
     |none=>False)
  |_,_=>False
def zqY (P:Program):Nat->TypeId->List TypeId
  |0,_=> []
  |f+1,t=>
    match P.underlying t with
    |some (.struct fs)=>(fs.toList.map λfd=>zqY P f fd.type).flatten
    |some (.array _ _)=> []
    |_=> [t]
def zq1 (P:Program) (t:TypeId):List TypeId:=match P.underlying t with|some (.slice e)=>zqY P 20 e|_=> []
def ziQ (P:Program) (e:TypeId):Prop:=zal P e=true/\zaD P e 1=true
structure zg9 (l:List D):Prop where
  out:∀n,D.int n∉l
def zmF (P:Program) (S:SS) (t:TypeId) (v:V) (K:V->SS->Prop):Prop:=
  match v with
  | .slc b o n c=>
    (match S.hp.get b with
     |some (.arr e l)=>cond (zav P t e&&Nat.ble S.ro b) (o.v+n.v<=l.length/\K (.dat t (.list ((l.drop o.v).take n.v))) (S.write b none)) False
     |some (.grd _ e l)=>(match c with|some c=>cond (zav P t e&&Nat.ble S.ro b) (o.v+n.v<=l.length/\o.v+c.v<=l.length/\K (.dat t (.list ((l.drop o.v).take n.v))) (S.write b none)) False|none=>False)
     |some (.own _ e _ l)=>cond (zav P t e&&Nat.ble S.ro b) (o.v+n.v<=l.length/\zg9 l/\ziQ P e/\K (.dat t (.list ((l.drop o.v).take n.v))) (S.write b none)) False
     |_=>False)
  |v=>K v S
def ztq (P:Program):List TypeId->List V->SS->(List V->SS->Prop)->Prop
  |_,[],S,K=>K [] S
  | [],v::vs,S,K=>K (v::vs) S
  |t::ts,v::vs,S,K=>zmF P S t v λv S=>ztq P ts vs S λvs S=>K (v::vs) S
def zt3 (P:Program) (S:SS) (ts:List TypeId) (v:V) (K:V->SS->Prop):Prop:=
  match v with
  | .agg cs=>ztq P ts cs S λcs S=>K (.agg cs) S
  | .slc b o n c=>(match ts with|t::_=>zmF P S t (.slc b o n c) K| []=>K (.slc b o n c) S)
  |v=>K v S
def zfD (P:Program) (ts:List TypeId):List (Nat×V)->SS->(List (Nat×V)->SS->Prop)->Prop
  | [],S,K=>K [] S
  |x::ps,S,K=>zt3 P S ts x.2 λv S=>zfD P ts ps S λps S=>K ((x.1,v)::ps) S
def zlv (P:Program):List (Tmp×Nat×TypeId)->SS->(SS->Prop)->Prop
  | [],S,K=>K S
  |x::l,S,K=>
    match S.fr.get x.1 with
    |some (.ptr b 0)=>
      (match S.hp.get b with
       |some (.box _ cs)=>
         (match cs[x.2.1]? with
          |some v=>cond (Nat.ble S.ro b) (zmF P S x.2.2 v λu S1=>match S1.hp.get b with|some (.box be cs1)=>zlv P l (S1.write b (some (.box be (cs1.set x.2.1 u)))) K|_=>False) False
          |none=>False)
       |_=>False)
    |_=>False
def ziE (P:Program) (e:TypeId):List (Nat×V)->Nat->Option (List D)
  | [],_=>some []
  | (i,v)::ps,j=>
    cond (Nat.beq i j) (match zdR P 20 e v.cells,ziE P e ps (Nat.succ j) with|some d,some ds=>some (d::ds)|_,_=>none) none
def zc3 (P:Program) (S:SS) (t:TypeId) (len:Nat) (parts:List (Nat×V)) (K:V->SS->Prop):Prop:=
  match P.underlying t with
  |some (.slice e)=>
    (match ziE P e parts 0,zah P e,zqS P e with
     |some ds,some (.succ s),some _=>
       cond (Nat.beq ds.length len&&Nat.ble len 16777216&&Nat.ble (len*Nat.succ s) 16777216&&zdD P e) (K (.slc S.nx (.lit 0) (.lit len) (some (.lit len))) (S.alloc (.arr e ds))) False
     |_,_,_=>False)
  |_=>False
def zsJ (P:Program) (e t2:TypeId):Option TypeId:=match P.underlying t2 with|some (.slice e2)=>some e2|some .string=>some e|_=>none
def zrm (P:Program) (S:SS) (e:TypeId) (ts:TypeId) (x:V) (K:NL->List D->Prop):Prop:=
  match x with
  | .str s=>cond (zmH P e&&zca P e) (K (.sym s.length) (zsL s)) False
  | .val (.string s)=>cond (zmH P e&&zca P e) (K (.lit s.data.toList.length) (zsL s.data.toList)) False
  | .val (.slice none 0 0)=>K (.lit 0) []
  | .slc b o n _=>(match S.hp.get b with|some (.arr e' l)=>cond (Nat.beq e e') (o.v+n.v<=l.length/\K n ((l.drop o.v).take n.v)) False|_=>False)
  | .dat t d=>cond (Nat.beq t ts) (K (.sym d.len) d.asList) False
  |_=>False
def zm3 (n:NL) (A B:Prop):Prop:=
  match n with
  | .lit n=>cond (Nat.beq n 0) A B
  | .sym n=>(n=0->A)/\(0<n->B)
def ztw:V->Bool| .str _=>true|_=>false
def zm5 (pos:Bool) (n:NL) (A B:Prop):Prop:=cond pos (0<n.v/\B) (zm3 n A B)
def zdE (inf:TypeInfo):Bool:=match inf.zero with|some z=>Nat.beq z.cells.size inf.size|none=>false
def zkY:V->Bool
  | .val (.slice none 0 0)| .slc _ _ _ _| .dat _ _=>true
  |_=>false
def leA (b n:Nat) (K:Prop):Prop:=cond (Nat.ble b 16) (n<=8796093022208/\K) (n<=16777216/\K)
def zbI (P:Program) (S:SS) (t t2:TypeId) (s x:V) (K:V->SS->Prop):Prop:=
  match P.underlying t with
  |some (.slice e)=>
   match zsJ P e t2 with
   |some e2=>
    (match P.info? e with
     |some inf=>
       cond (Nat.beq e e2&&zdE inf&&Nat.ble inf.bytes 4096&&Nat.blt 0 inf.bytes&&Nat.blt 0 inf.size)
         (zrm P S e t2 x λk new=>
           zm5 (ztw x) k (cond (zkY s) (K s S) False)
             (match s with
              | .val (.slice none 0 0)=>leA inf.bytes k.v (K (.slc S.nx (.lit 0) k none) (S.alloc (.arr e new)))
              | .slc b o n c=>
                (match S.hp.get b with
                 |some (.arr e' l)=>
                   cond (Nat.beq e e')
                     (let out:Prop:=K (.slc S.nx (.lit 0) (n.add k) none) (S.alloc (.arr e ((l.drop o.v).take n.v++new)))
                      o.v+n.v<=l.length/\leA inf.bytes (n.v+k.v)
                      (match c with
                       |none=>cond (Nat.ble S.ro b) (K (.slc S.nx (.lit 0) (n.add k) none) ((S.write b none).alloc (.arr e ((l.drop o.v).take n.v++new)))) False
                       |some c=>
                         let inn:Prop:=o.v+n.v+k.v<=l.length/\cond (Nat.ble S.ro b) (K (.slc b o (n.add k) (some c)) (S.write b (some (.arr e (l.take (o.v+n.v)++new++l.drop (o.v+n.v+k.v)))))) False
                         (match n,k,c with
                          | .lit n,.lit k,.lit c=>cond (Nat.ble (n+k) c) inn out
                          |n,k,c=>(n.v+k.v<=c.v->inn)/\(c.v<n.v+k.v->out)))) False
                 |_=>False)
              |_=>False)) False
     |none=>False)
   |none=>False
  |_=>False
def zdg (S:SS) (b v:Nat) (e e':TypeId) (l:List D) (i:NL):SS:=(S.write b (some (.own v e e' (l.set i.v (.int 0))))).alloc (.arr e' (zas l i.v).asList)
def zrl:V->Prop
  | .slc _ _ n _=>0<n.v
  | .dat _ d=>0<d.len
  |_=>False
def zbC (P:Program) (S:SS) (t t2:TypeId) (s x:V) (K:V->SS->Prop):Prop:=
  match s with
  | .osl b v i n=>
    (match S.hp.get b with
     |some (.own v' e e' l)=>cond (Nat.beq v v'&&Nat.ble S.ro b) (i.v<l.length/\n.v=(zas l i.v).len/\(∃r,zas l i.v= .list r)/\zrl x/\zbI P (zdg S b v e e' l i) t t2 (.slc S.nx (.lit 0) n none) x K) False
     |_=>False)
  | .slc b o n c=>
    (match S.hp.get b,c with
     |some (.own v e e' l),none=>
       (match P.underlying t,zsJ P e t2,P.info? e with
        |some (.slice e1),some e2,some inf=>
          cond (Nat.beq e1 e&&Nat.beq e e2&&zdE inf&&Nat.ble inf.bytes 4096&&Nat.blt 0 inf.bytes&&Nat.blt 0 inf.size&&Nat.ble S.ro b&&zal P e)
            (zrm P S e t2 x λk new=>0<k.v/\zfM new/\o.v=0/\n.v=l.length/\n.v+k.v<=16777216/\K (.slc S.nx (.lit 0) (n.add k) none) ((S.write b none).alloc (.own v e e' (l++new)))) False
        |_,_,_=>False)
     |some (.own _ e _ l),some _=>cond (Nat.ble S.ro b) (zg9 l/\ziQ P e/\zbI P (S.write b (some (.arr e l))) t t2 s x K) False
     |_,_=>zbI P S t t2 s x K)
  |s=>zbI P S t t2 s x K
structure zgx (P:Program) (S:SS) (t:TypeId) (len:Nat) (ps:List (Nat×V)) (K:V->SS->Prop):Prop where
  out:False
structure zhl (P:Program) (S:SS) (t t2:TypeId) (s:V) (b2 v2:Nat) (e e':TypeId) (r:List D) (K:V->SS->Prop):Prop where
  out:False
def zcS (P:Program) (S:SS) (t t2:TypeId) (s x:V) (K:V->SS->Prop):Prop:=
  match x with
  | .slc b2 o2 (.sym m2) c2=>
    (match S.hp.get b2 with
     |some (.own _ _ _ _)=>zmF P S t2 (.slc b2 o2 (.sym m2) c2) λx S=>zbC P S t t2 s x K
     |_=>zbC P S t t2 s x K)
  | .slc b2 o2 n2 _=>
    (match S.hp.get b2 with
     |some (.own v2 e e' [.list r])=>o2.v=0/\n2.v=1/\zhl P S t t2 s b2 v2 e e' r K
     |_=>zbC P S t t2 s x K)
  |x=>zbC P S t t2 s x K
def zgH (P:Program) (S:SS) (t:TypeId) (a x:V) (K:V->SS->Prop):Prop:=
  match a,x with
  | .oel b v i n,.slc b' o m c=>zmF P S t (.slc b' o m c) λx S=>zfI P S t (.oel b v i n) x K
  |a,x=>zfI P S t a x K
def ze6 (P:Program) (S:SS) (t t2:TypeId) (s x:V) (K:V->SS->Prop):Prop:=
  match P.underlying t,P.underlying t2,s,zqp x,zcs x with
  |some (.slice e),some (.int _),.val (.slice none 0 0),some (z,n),some (.i64,_)=>
    (match P.info? e,zcv P e with
     |some inf,some (.int .i64 (.ofNat 0))=>cond (zsf P e&&zca P e&&Nat.ble inf.bytes 4096) (0<z/\z<=16777216/\K (.slc S.nx (.lit 0) n none) (S.alloc (.arr e (List.replicate n.v (.int 0))))) False
     |_,_=>False)
  |_,_,_,_,_=>False
def zn6 (P:Program) (t:TypeId):Bool:=match P.underlying t with|some (.int _)=>true|_=>false
structure zlu (P:Program) (S:SS) (t:TypeId) (x:V) (K:V->SS->Prop):Prop where
  out:False
structure zo1 (P:Program) (S:SS) (t:TypeId) (d s:V) (K:V->SS->Prop):Prop where
  out:False
def zoZ (P:Program) (t:TypeId) (x:V) (K:V->Prop):Prop:=
  match x with
  | .val (.slice none 0 0)=>cond (zal P t) (K (.val (.int .i64 0))) False
  |_=>False
def zke (x:V) (K:V->SS->Prop) (S:SS):Prop:=
  match x with
  | .slc b o n _=>n.v≠0/\K (.ept b o) S
  | .val (.slice none 0 0)=>K (.val (.pointer none)) S
  |_=>False
structure zpf (P:Program) (S:SS) (t:TypeId) (p n:V) (K:V->SS->Prop):Prop where
  out:False
def zg6 (P:Program) (t:TypeId):Bool:=match P.underlying t with|some .string=>true|_=>false
def zo6 (P:Program) (t:TypeId) (x:V) (K:V->Prop):Prop:=
  match x with
  | .slc _ _ n _=>cond (zal P t) (match n with| .lit n=>K (.val (.int .i64 n))| .sym n=>K (.int .i64 n)) False
  | .osl _ _ _ n=>cond (zal P t) (match n with| .lit n=>K (.val (.int .i64 n))| .sym n=>K (.int .i64 n)) False
  | .dat _ d=>cond (zal P t) (K (.int .i64 d.len)) False
  | .val (.slice none 0 0)=>cond (zal P t) (K (.val (.int .i64 0))) False
  | .str s=>cond (zg6 P t) (K (.int .i64 s.length)) False
  | .val (.string b)=>cond (zg6 P t) (K (.val (.int .i64 b.size))) False
  |_=>False
def zeG (mx:Bool) (args:List V) (K:V->Prop):Prop:=
  match args with
  | [a,b]=>
    match zcs a,zcs b with
    |some (k,x),some (k',y)=>cond (k==k') (cond mx (K (.int k (max x y))) (K (.int k (min x y)))) False
    |_,_=>False
  | [a,b,c]=>
    match zcs a,zcs b,zcs c with
    |some (k,x),some (k',y),some (k'',z)=>cond (mx&&(k==k'&&k==k'')) (K (.int k (max (max x y) z))) False
    |_,_,_=>False
  | [a,b,c,d,e,f]=>
    match zcs a,zcs b,zcs c,zcs d,zcs e,zcs f with
    |some (k,x),some (k1,y),some (k2,z),some (k3,u),some (k4,v),some (k5,w)=>cond (!mx&&(k==k1&&(k==k2&&(k==k3&&(k==k4&&k==k5))))) (K (.int k (min (min (min (min (min x y) z) u) v) w))) False
    |_,_,_,_,_,_=>False
  |_=>False
abbrev Con:=List V->Option (Prop×V)
def V.plain:V->Bool
  | .val v=>zaG v
  | .int _ _| .prop _| .str _=>true
  |_=>false
def V.plain1:V->Bool
  | .agg cs=>cs.all V.plain
  |v=>v.plain
def V.plainR:V->Bool
  | .tup cs=>cs.all V.plain1
  |v=>v.plain1
def V.free:V->Bool
  | .dat _ _| .dpt _ _| .fnd _ _=>true
  |v=>v.plain
def V.free1:V->Bool
  | .agg cs=>cs.all V.free
  |v=>v.free
def V.freeR:V->Bool
  | .tup cs=>cs.all V.free1
  |v=>v.free1
def zs2 (P:Program) (S:SS) (t:TypeId) (v:V) (K:V->Prop):Prop:=
  match v with
  | .slc b o n c=>
    (match S.hp.get b with
     |some (.arr e l)=>cond (zav P t e) (o.v+n.v<=l.length/\K (.dat t (.list ((l.drop o.v).take n.v)))) False
     |some (.grd _ e l)=>(match c with|some c=>cond (zav P t e) (o.v+n.v<=l.length/\o.v+c.v<=l.length/\K (.dat t (.list ((l.drop o.v).take n.v)))) False|none=>False)
     |some (.own _ e _ l)=>cond (zav P t e) (o.v+n.v<=l.length/\zg9 l/\ziQ P e/\K (.dat t (.list ((l.drop o.v).take n.v)))) False
     |_=>False)
  | .osl b v i n=>(match S.hp.get b with|some (.own v' _ e' l)=>cond (Nat.beq v v'&&zav P t e') (i.v<l.length/\n.v=(zas l i.v).len/\(∃r,zas l i.v= .list r)/\K (.dat t (.list (zas l i.v).asList))) False|_=>False)
  | .val (.slice none 0 0)=>cond (zal P t&&zaD P t 1) (K (.dat t .nil)) False
  |v=>cond v.freeR (K v) False
def zd9 (P:Program) (S:SS):List TypeId->List V->(List V->Prop)->Prop
  |_,[],K=>K []
  |t::ts,v::vs,K=>zs2 P S t v λv=>zd9 P S ts vs λvs=>K (v::vs)
  | [],v::vs,K=>cond v.freeR (zd9 P S [] vs λvs=>K (v::vs)) False
structure Ann where
  hs:Nat:=1
  τ:Type
  slots:SS->Nat->τ->List (Tmp×V)
  blks:SS->Nat->τ->List (Nat×SB)
  inv:SS->Nat->τ->Prop
  meas:SS->Nat->τ->Nat
  dead:SS->List Nat:=λ_=> []
def slI (S:SS) (t:Tmp):Int:=match (S.fr.get t).bind zcs with|some (_,n)=>n|none=>0
def slS (S:SS) (t:Tmp):List UInt8:=match (S.fr.get t).bind zgv with|some p=>p|none=> []
def slD (S:SS) (t:Tmp):D:=match S.fr.get t with|some (.dat _ d)=>d|some (.dpt _ d)=>d|_=> .nil
def bkL (S:SS) (b:Nat):List D:=match S.hp.get b with|some (.arr _ l)=>l|some (.grd _ _ l)=>l|some (.own _ _ _ l)=>l|_=> []
def bkV (S:SS) (b o:Nat):V:=match S.hp.get b with|some (.box _ l)=>(match l[o]? with|some v=>v|none=> .val undef)|_=> .val undef
def bkI (S:SS) (b o:Nat):Int:=match zcs (bkV S b o) with|some (_,n)=>n|none=>0
abbrev SQ:=AEx->SS->Prop
structure Ctx where
  P:Program
  con:FuncId->Option Con
  ora:FuncId->Option Value
  bits:Nat
  ann:FuncId->Nat->Option Ann
  tab:FuncId->Option Con:=λ_=>none
  srt:FuncId->Option zrv:=λ_=>none
  srtC:FuncId->Bool:=λ_=>false
  frz:FuncId->Nat->List (Tmp×Nat×TypeId):=λ_ _=> []
  conF:TypeId->Option (D->Con):=λ_=>none
  join:FuncId->Nat->Option Ann:=λ_ _=>none
  sm:TypeId->Bool:=λ_=>false
  frzT:FuncId->Nat->List (Tmp×TypeId):=λ_ _=> []
  gb:TypeId->Bool:=λ_=>false
  ownB:TypeId->Bool:=λ_=>false
abbrev zdc:=FuncId->Code->SS->SQ->Prop
def zsC (P:Program) (S:SS):List ResultVar->(List V->Prop)->Prop
  | [],K=>K []
  | .tmp t::rs,K=>(match S.fr.get t with|some v=>zsC P S rs λvs=>K (v::vs)|none=>False)
  | .cell a t::rs,K=>(match S.fr.get a with|some a=>ze9 P S t a λv=>zsC P S rs λvs=>K (v::vs)|none=>False)
def ziN (args:List V):Nat->T V->T V:=
  List.rec (λ_ t=>t) (λv _ ih n t=>ih (Nat.succ n) (t.put n (some v))) args
def zn3 (S:SS) (b:Nat):Bool:=match S.hp.get b with|some .dfr=>true|_=>false
def ztZ:List Nat->List Nat->Bool
  | [],[]=>true
  |a::l,b::r=>Nat.beq a b&&ztZ l r
  |_,_=>false
def zjf:List Nat->SS->(SS->Prop)->Prop
  | [],S,K=>K S
  |b::l,S,K=>cond (zn3 S b&&Nat.ble S.ro b) (zjf l (S.write b none) K) False
def zeF (C:Ctx) (run:zdc) (g:FuncId) (args:List V) (S:SS) (K:V->SS->Prop):Prop:=
  match cond (Nat.testBit C.bits g) C.P.funcs[g]? none with
  |some fn=>
    match fn.body with
    |some body=>
      cond (Nat.blt fn.ntmps args.length||Nat.blt 1000000 fn.ntmps) False
        (run g body {S with fr:=ziN args 0 .leaf,sz:=fn.ntmps,fl:=S.nx,mks:= []} λe S1=>
          match e with
          | .exit _=>False
          |_=>zjf S1.mks S1 λS1=>zsC C.P S1 fn.results.toList λvs=>
            match vs with
            | [v]=>K v {S1 with fr:=S.fr,sz:=S.sz,fl:=S.fl,mks:=S.mks}
            |vs=>K (.tup vs) {S1 with fr:=S.fr,sz:=S.sz,fl:=S.fl,mks:=S.mks})
    |none=>False
  |none=>False
structure zpc (P:Program) (f:zrv) (S:SS) (args:List V) (K:V->SS->Prop):Prop where
  out:False
structure zlB (C:Ctx) (run:zdc) (S:SS) (args:List V) (K:V->SS->Prop):Prop where
  out:False
def zh3 (C:Ctx) (run:zdc) (g:FuncId) (ts:List TypeId) (args:List V) (S:SS) (K:V->SS->Prop):Prop:=
  match zbU C.P g [undef],args,C.ora g with
  |some _,[x],_=>K x S
  |some _,_,_=>False
  |none,[],some v=>cond (zaG v) (K (.val v) S) False
  |none,args,_=>
   match C.tab g with
   |some c=>(match c args with|some (p,r)=>p/\K r S|none=>False)
   |none=>
    match C.srt g with
    |some f=>zpc C.P f S args K
    |none=>cond (C.srtC g) (zlB C run S args K) (match C.con g with
    |some c=>
      zd9 C.P S ts args λas=>
        match c as with
        |some (p,r)=>cond (r.freeR&&(r.plainR||args.all V.freeR)) (p/\K r S) (ztq C.P ts args S λbs S1=>match c bs with|some (p1,r1)=>p1/\cond (r1.freeR&&bs.all V.freeR) (K r1 S1) False|none=>False)
        |none=>False
    |none=>zeF C run g args S K)
def zkf (C:Ctx) (g:FuncId) (args:List V) (S:SS) (K:V->SS->Prop) (no:Prop):Prop:=no
def zrp (C:Ctx) (t:TypeId) (ts:List TypeId) (d:D) (args:List V) (S:SS) (K:V->SS->Prop):Prop:=
  match C.conF t with
  |some c=>zd9 C.P S ts args λas=>
      match c d as with
      |some (p,r)=>cond r.plainR (p/\K r S) False
      |none=>False
  |none=>False
def zgq {α:Type} (l:List (Nat×α)):T α->T α:=List.rec (λt=>t) (λx _ ih t=>ih (t.put x.1 (some x.2))) l
def zb9:Code->Bool
  | .rangeFunc _ _ _ _=>false
  | .seq a b=>zb9 a&&zb9 b
  | .cond _ a b=>zb9 a&&zb9 b
  | .block _ b=>zb9 b
  | .loop b=>zb9 b
  | .scope b=>zb9 b
  |_=>true
def zuS (b:Nat) (l:List Nat):Bool:=l.all λx=> !Nat.beq x b
structure zlC (run:zdc) (b:Nat) (args:List V) (S:SS) (K:V->SS->Prop):Prop where
  out:False
def zgy (C:Ctx) (run:zdc) (c:Call) (S:SS) (K:V->SS->Prop):Prop:=
  zjp S c.args.toList λargs=>
    match c.callee with
    | .builtin .len=>(match args,c.argTypes.toList with| [x],t::_=>zo6 C.P t x λv=>K v S|_,_=>False)
    | .builtin .append=>(match args,c.argTypes.toList with| [s,x],t::t2::_=>cond (zn6 C.P t2) (ze6 C.P S t t2 s x K) (zcS C.P S t t2 s x K)|_,_=>False)
    | .builtin .copy=>(match args,c.argTypes.toList with| [d,x],t::_=>zo1 C.P S t d x K|_,_=>False)
    | .builtin .clear=>(match args,c.argTypes.toList with| [x],t::_=>zlu C.P S t x K|_,_=>False)
    | .builtin .unsafeSliceData=>(match args with| [x]=>zke x K S|_=>False)
    | .builtin .unsafeString=>(match args,c.argTypes.toList with| [p,n],t::_=>zpf C.P S t p n K|_,_=>False)
    | .builtin .min=>zeG false args λv=>K v S
    | .builtin .max=>zeG true args λv=>K v S
    | .value f=>zbg S f λfv=>match fv with
      | .fn g first cap=>zkf C g (first++(args++cap)) S K (zh3 C run g (cond first.isEmpty c.argTypes.toList []) (first++(args++cap)) S K)
      | .fnd t d=>zrp C t c.argTypes.toList d args S K
      | .yld b=>zlC run b args S K
      |_=>False
    | .builtin .cap=>(match args,c.argTypes.toList with| [x],t::_=>zoZ C.P t x λv=>K v S|_,_=>False)
    |_=>False
def zsu (P:Program) (e:TypeId):Bool:=match P.underlying e with|some (.struct fs)=>zfq P fs.toList 0|_=>false
def zh9 (P:Program) (S:SS) (t:TypeId) (a:V) (K:V->Prop):Prop:=
  match a with
  | .epf b i e f=>
    (match S.hp.get b,zfk P e f with
     |some (.arr e' l),some fd=>cond (Nat.beq e e'&&Nat.beq fd.type t&&zsu P e&&zjK P t) (i.v<l.length/\za4 P t ((zas l i.v).fld f) K) False
     |_,_=>False)
  |a=>ze9 P S t a K
def zfH (S:SS) (parts:List (Nat×Operand)):(List (Nat×V)->Prop)->Prop:=
  List.rec (λK=>K []) (λx _ ih K=>zbg S x.2 λv=>ih λl=>K ((x.1,v)::l)) parts
def zeH (C:Ctx) (run:zdc) (o:Op) (S:SS) (K:V->SS->Prop):Prop:=
  match o with
  | .call c=>zgy C run c S K
  | .move x| .assign x=>zbg S x λv=>K v S
  | .pick c a b=>zbg S c λc=>zbg S a λa=>zbg S b λb=>zkk c a b λv=>K v S
  | .alloc e=>zhX C.P (C.sm e) S e K
  | .box e x=>zbg S x λv=>cond (C.gb e) (zj7 C.P S e v K) (zoX S e v K)
  | .build t parts=>zfH S parts.toList λps=>zh2 C.P t ps λv=>K v S
  | .buildSlice t len parts=>zfH S parts.toList λps=>cond (C.ownB t) (zgx C.P S t len ps K) (zfD C.P (zq1 C.P t) ps S λps S=>zc3 C.P S t len ps K)
  | .load t a=>zbg S a λa=>zh9 C.P S t a λv=>K v S
  | .store t a x=>zbg S a λa=>zbg S x λx=>zgH C.P S t a x K
  | .nilCheck x=>zbg S x λx=>zee x λv=>K v S
  | .makeFunc (.func f) first cap=>zjp S first.toList λfs=>zjp S cap.toList λcs=>K (.fn f fs cs) S
  | .makeSlice t l c=>zbg S l λl=>zbg S c λc=>zdA C.P S t l c K
  | .slice t x lo hi mx=>zbg S x λx=>zqP S lo λlo=>zqP S hi λhi=>zqP S mx λmx=>zgF C.P S t x lo hi mx K
  | .fieldAddr s x f=>zbg S x λx=>zdy C.P s x f λv=>K v S
  | .field t x f=>zbg S x λx=>zh6 C.P t x f λv=>K v S
  | .indexAddr t x ix=>zlw C.P S t x ix λv=>K v S
  | .index t x ix=>zbg S x λx=>zbg S ix λix=>zh8 C.P t x ix λv=>K v S
  | .extract t ix=>zbg S t λt=>ze7 t ix λv=>K v S
  | .binOp op t x y _=>zbg S x λa=>zbg S y λb=>zoV C.P op t x y a b λv=>K v S
  | .unOp op _ x=>zbg S x λx=>zsP op x λv=>K v S
  | .convert s d x=>zbg S x λx=>zh4 C.P S s d x λv=>K v S
  |_=>False
def zb0 (S:SS) (ops:Array Oper) (o:Oper) (yes no:SS->Prop):Prop:=
  match o.guard with
  |none=>yes S
  |some (j,want)=>
    match (ops[j]?).bind (·.dst) with
    |some d=>
      (match S.fr.get d with
       |some (.val (.bool b))=>cond (b==want) (yes S) (no S)
       |some (.val (.tuple _))=>no S
       |some (.prop p)=>
         cond want ((p->yes {S with fr:=S.fr.put d (some (.val (.bool true)))})/\(¬p->no {S with fr:=S.fr.put d (some (.val (.bool false)))}))
           ((¬p->yes {S with fr:=S.fr.put d (some (.val (.bool false)))})/\(p->no {S with fr:=S.fr.put d (some (.val (.bool true)))}))
       |_=>False)
    |none=>False
def zhm (C:Ctx) (run:zdc) (ops:Array Oper):List Oper->SS->(SS->Prop)->Prop:=
  λl=>List.rec (λS K=>K S) (λo _ ih S K=>
    zb0 S ops o (λS=>zeH C run o.op S λv S1=>S1.put o.dst (some v) λS2=>ih S2 K) (λS=>S.put o.dst (some (.val undef)) λS2=>ih S2 K)) l
def zlV (t:Nat) (o:Oper):Bool:=match o.dst with|some d=>Nat.beq d t|none=>false
def zed (P:Program) (ops:Array Oper) (ts:List TypeId):List (Nat×Operand)->SS->(SS->Prop)->Prop
  | [],S,K=>K S
  |x::l,S,K=>
    match x.2 with
    | .tmp t=>
      (match S.fr.get t with
       |some (.slc b o n c)=>
         (match ts with
          |ty::_=>cond (ops.toList.any (zlV t)) (zmF P S ty (.slc b o n c) λu S1=>zed P ops ts l {S1 with fr:=S1.fr.put t (some u)} K) False
          | []=>zed P ops ts l S K)
       |_=>zed P ops ts l S K)
    |_=>zed P ops ts l S K
def ze8 (P:Program) (ops:Array Oper):List (Tmp×TypeId)->SS->(SS->Prop)->Prop
  | [],S,K=>K S
  |x::l,S,K=>
    cond (ops.toList.any (zlV x.1))
      (match S.fr.get x.1 with
       |some (.slc b o n c)=>zmF P S x.2 (.slc b o n c) λu S1=>ze8 P ops l {S1 with fr:=S1.fr.put x.1 (some u)} K
       |some (.val (.slice none 0 0))=>cond (zal P x.2&&zaD P x.2 1) (ze8 P ops l {S with fr:=S.fr.put x.1 (some (.dat x.2 .nil))} K) False
       |some (.dat _ _)=>ze8 P ops l S K
       |_=>False) False
def zia (P:Program) (ops:Array Oper) (o:Op) (S:SS) (K:SS->Prop):Prop:=
  match o with
  | .buildSlice t _ parts=>zed P ops (zq1 P t) parts.toList S K
  |_=>K S
def zly (C:Ctx) (run:zdc) (ops:Array Oper):List Oper->SS->(SS->Prop)->Prop:=
  λl=>List.rec (λS K=>K S) (λo _ ih S K=>
    zb0 S ops o (λS=>zia C.P ops o.op S λS=>zeH C run o.op {S with ro:=S.nx} λv S1=>{S1 with ro:=S.ro}.put o.dst (some v) λS2=>ih S2 K) (λS=>S.put o.dst (some (.val undef)) λS2=>ih S2 K)) l
def zgG (C:Ctx) (run:zdc) (n0:Nat) (o:Op) (S:SS) (K:V->SS->Prop):Prop:=
  match o with
  | .load t a=>zbg S a λa=>match a with| .ptr b off=>cond (Nat.blt b n0) (ze9 C.P S t (.ptr b off) λv=>K v S) False|_=>False
  |o=>zeH C run o S K
def zch (C:Ctx) (run:zdc) (ops:Array Oper) (n0:Nat) (g:Bool):List Oper->SS->(SS->Prop)->Prop:=
  λl=>List.rec (λS K=>K S) (λo _ ih S K=>
    zb0 S ops o (λS=>cond (zaP o.op) (zgG C run n0 o.op S λv S1=>S1.put o.dst (some v) λS2=>ih S2 K)
      (zeH C run o.op {S with ro:=cond g S.nx n0} λv S1=>{S1 with ro:=n0}.put o.dst (some v) λS2=>ih S2 K)) (λS=>S.put o.dst (some (.val undef)) λS2=>ih S2 K)) l
def SB.isRow:SB->Bool
  | .lp _ _ _ _ _ _ _| .dfr=>false
  |_=>true
def zb8 (S:SS) (b:Nat):Bool:=match S.hp.get b with|some k=>k.isRow|none=>false
def zp9:V->Option Nat
  | .ptr b _| .ept b _| .epf b _ _ _=>some b
  |_=>none
def zr9:V->Option Nat
  | .slc b _ _ _=>some b
  |_=>none
def zjI (f:V->Option Nat) (S:SS) (x:Operand) (K:Nat->Prop):Prop:=zbg S x λa=>match f a with|some b=>cond (zb8 S b) (K b) False|none=>False
def zh7 (S:SS) (o:Op) (K:List Nat->List Nat->Prop):Prop:=
  match o with
  | .load _ a=>zjI zp9 S a λb=>K [b] []
  | .store _ a _=>zjI zp9 S a λb=>K [] [b]
  | .convert _ _ x=>zbg S x λx=>match zcs x with|some _=>K [] []|none=>False
  | .slice _ x _ _ _=>zjI zr9 S x λb=>K [b] []
  |_=>K [] []
def zub (C:Ctx) (run:zdc) (ops:Array Oper):List Oper->SS->List Nat->List Nat->(SS->Prop)->Prop:=
  λl=>List.rec (λS ld st K=>cond ((ld.all λb=>st.all λb'=> !Nat.beq b b')&&(ld.all λb=>zb8 S b)&&(st.all λb=>zb8 S b)) (K S) False) (λo _ ih S ld st K=>
    zb0 S ops o (λS=>cond (ld.all λb=>zb8 S b) (zh7 S o.op λl1 s1=>zeH C run o.op S λv S1=>S1.put o.dst (some v) λS2=>ih S2 (l1++ld) (s1++st) K) False) (λS=>S.put o.dst (some (.val undef)) λS2=>ih S2 ld st K)) l
def zo2 (C:Ctx) (run:zdc) (ops:Array Oper) (W:Nat) (S:SS) (Q:SQ):Prop:=
  cond (zqO ops (zbb (zdv ops) (zaM ops.toList []) W) W)
    (cond (zfY ops (zaM ops.toList []) (zbb (zdv ops) (zaM ops.toList []) W) W)
      (zch C run ops S.nx true (ops.toList.take (zbb (zdv ops) (zaM ops.toList []) W)) {S with ro:=S.nx} λS1=>
        zch C run ops S.nx false ((ops.toList.take W).drop (zbb (zdv ops) (zaM ops.toList []) W)) S1 λS2=>
          zhm C run ops (ops.toList.drop W) {S2 with ro:=S.ro} λS3=>Q .normal S3) False)
    (cond (zku ops W) (cond (zfZ ops (zaM ops.toList [])) (zub C run ops ops.toList S [] [] λS1=>Q .normal S1) False) (cond (zfX ops (zaM ops.toList []) W)
      (zly C run ops (ops.toList.take W) S λS1=>zhm C run ops (ops.toList.drop W) S1 λS2=>Q .normal S2) False))
def zgE (C:Ctx) (run:zdc) (ops:Array Oper) (draw:Bool) (S:SS) (Q:SQ):Prop:=
  cond draw (zo2 C run ops (zbb (zfl ops) (zaM ops.toList []) ops.size) S Q)
    (zhm C run ops ops.toList S λS1=>Q .normal S1)
def zd7:Code->Option Nat
  | .region id _ _=>some id
  | .seq a b=>(match zd7 a with|some i=>some i|none=>zd7 b)
  | .cond _ a b=>(match zd7 a with|some i=>some i|none=>zd7 b)
  | .block _ b| .loop b| .scope b=>zd7 b
  |_=>none
def zrX:Operand->List Tmp| .tmp t=> [t]|_=> []
def zan:Code->List Tmp
  | .region _ ops _=>ops.toList.filterMap (·.dst)++ops.toList.filterMap (λo=>match o.guard with|some (j,_)=>(ops[j]?).bind (·.dst)|none=>none)
  | .seq a b=>zan a++zan b
  | .cond c a b=>zrX c++(zan a++zan b)
  | .block _ b| .loop b| .scope b=>zan b
  |_=> []
def zbG {α:Type} (l:List Nat):T α->T α:=List.rec (λt=>t) (λn _ ih t=>ih (t.put n none)) l
def zpk (k:SB) (n:Nat):Nat:=match k with| .own v _ _ _=>cond (Nat.ble n v) (Nat.succ v) n|_=>n
def zl9:List (Nat×SB)->Nat->Nat
  | [],n=>n
  |x::l,n=>zl9 l (zpk x.2 (cond (Nat.ble n x.1) (Nat.succ x.1) n))
def zcX (S:SS) (b:Code) (slots:List (Tmp×V)) (blks:List (Nat×SB)):SS:=
  {S with fr:=zgq slots (zbG (zan b) S.fr),hp:=zgq blks S.hp,nx:=zl9 blks S.nx,wr:= []}
def zuV:V->V->List (Nat×Nat)
  | .slc b _ _ _,.slc b0 _ _ _=> [(b0,b)]
  |_,_=> []
def zlk:Option NL->Option NL->Prop
  |none,none=>True
  |some a,some b=>a.v=b.v
  |_,_=>False
def zcb (v v0:V):Prop:=
  match v0 with
  | .int k0 n0=>(match zcs v with|some (k,n)=>cond (k==k0) (n=n0) False|none=>False)
  | .prop p0=>(match zd0 v with|some p=>(p↔p0)|none=>False)
  | .str s0=>(match zgv v with|some s=>s=s0|none=>False)
  | .dat t0 d0=>
    (match v with
     | .dat t d=>cond (Nat.beq t t0) (d=d0) False
     |_=>False)
  | .dpt t0 d0=>(match v with| .dpt t d=>cond (Nat.beq t t0) (d=d0) False|_=>False)
  | .fnd t0 d0=>(match v with| .fnd t d=>cond (Nat.beq t t0) (d=d0) False|_=>False)
  | .val (.slice none 0 0)=>(match v with| .val (.slice none 0 0)=>True|_=>False)
  | .val (.pointer none)=>(match v with| .val (.pointer none)=>True|_=>False)
  | .val (.int k0 n0)=>(match v with| .val (.int k n)=>cond (k==k0) (n=n0) False|_=>False)
  | .ptr b0 o0=>(match v with| .ptr b o=>cond (Nat.beq b b0&&Nat.beq o o0) True False|_=>False)
  | .slc _ o0 n0 c0=>(match v with| .slc _ o n c=>o.v=o0.v/\n.v=n0.v/\zlk c c0|_=>False)
  | .osl b0 v0 i0 n0=>(match v with| .osl b v i n=>cond (Nat.beq b b0&&Nat.beq v v0) (i.v=i0.v/\n.v=n0.v) False|_=>False)
  |_=>False
def zid (ren:Nat->Nat) (v v0:V):Prop:=
  match v0 with
  | .slc b0 o0 n0 c0=>(match v with| .slc b o n c=>cond (Nat.beq (ren b0) b) (zcb (.slc b o n c) (.slc b0 o0 n0 c0)) False|_=>False)
  |v0=>zcb v v0
def zfh (ren:Nat->Nat) (k k0:SB):Prop:=
  match k,k0 with
  | .arr e l,.arr e0 l0=>cond (Nat.beq e e0) (l=l0) False
  | .grd a e l,.grd a0 e0 l0=>cond (Nat.beq a a0&&Nat.beq e e0) (l=l0) False
  | .own _ e e' l,.own _ e0 e0' l0=>cond (Nat.beq e e0&&Nat.beq e' e0') (l=l0) False
  | .arr e l,.own _ e0 _ l0=>cond (Nat.beq e e0) (l=l0/\zfM l) False
  | .box e cs,.box e0 cs0=>cond (Nat.beq e e0) (vs ren cs cs0) False
  |_,_=>False
  where vs (ren:Nat->Nat):List V->List V->Prop
  | [],[]=>True
  |v::l,v0::l0=>zid ren v v0/\vs ren l l0
  |_,_=>False
def zdN (S:SS) (ren:Nat->Nat):List (Tmp×V)->Prop
  | []=>True
  | (t,v0)::l=>
    (match S.fr.get t with
     |some v=>(match v,v0 with| .slc b _ _ _,.slc b0 _ _ _=>cond (Nat.beq (ren b0) b) (zcb v v0) False|v,v0=>zcb v v0)
     |none=>False)/\zdN S ren l
def zt8 (S:SS):List (Tmp×V)->List (Nat×Nat)
  | []=> []
  | (t,v0)::l=>(match S.fr.get t with|some v=>zuV v v0|none=> [])++zt8 S l
def ztH:List V->List V->List (Nat×Nat)
  |v::l,v0::l0=>zuV v v0++ztH l l0
  |_,_=> []
def ztG (S:SS):List (Nat×SB)->List (Nat×Nat)
  | []=> []
  | (b0,k0)::l=>(match S.hp.get b0,k0 with|some (.box _ cs),.box _ cs0=>ztH cs cs0|_,_=> [])++ztG S l
def zjW (S:SS) (slots:List (Tmp×V)) (blks:List (Nat×SB)):List (Nat×Nat):=zt8 S slots++ztG S blks
def zaN (l:List (Nat×Nat)) (b:Nat):Nat:=match l with| []=>b| (x,y)::l=>cond (Nat.beq x b) y (zaN l b)
def zel (S:SS) (ren:Nat->Nat):List (Nat×SB)->Prop
  | []=>True
  | (b0,k0)::l=>(match S.hp.get (ren b0) with|some k=>zfh ren k k0|none=>False)/\zel S ren l
def zfL (S0:SS) (blks:List (Nat×SB)) (wr:List Nat):Bool:=wr.all λb=>Nat.ble S0.nx b|| (blks.any (λx=>Nat.beq x.1 b)|| (match S0.hp.get b with|none=>true|some _=>false))
def V.refs:V->List Nat
  | .ptr b _=> [b]
  | .ept b _=> [b]
  | .slc b _ _ _=> [b]
  | .epf b _ _ _=> [b]
  | .agg cs=>refsL cs
  | .tup cs=>refsL cs
  | .fn _ fs cs=>refsL fs++refsL cs
  | .osl b v _ _=> [b,v]
  | .oel b v _ _=> [b,v]
  | .yld b=> [b]
  |_=> []
  where refsL:List V->List Nat
  | []=> []
  |v::l=>V.refs v++refsL l
def T.toL {α:Type} (t:T α):List α:=T.rec [] (λ_ v _ hl hr=>hl++(v.toList++hr)) t
def SB.refs:SB->List Nat
  | .lp _ _ fr _ _ _ _=>V.refs.refsL fr.toL
  | .dfr=> []
  | .box _ cs=>V.refs.refsL cs
  | .arr _ _| .grd _ _ _=> []
  | .own v _ _ _=> [v]
def T.all {α:Type} (p:Nat->α->Bool) (t:T α):(Nat->Nat)->Bool:=
  T.rec (λ_=>true) (λ_ v _ hl hr f=>(match v with|some a=>p (f 0) a|none=>true)&&hl (λn=>f (2*n+1))&&hr (λn=>f (2*n+2))) t
def refOK (S0:SS) (ren:List (Nat×Nat)) (blks:List (Nat×SB)) (v:V):Bool:=
  match v with
  | .slc b _ _ _=>blks.any λy=>Nat.beq y.1 b
  |v=>v.refs.all λr=>Nat.blt r S0.nx&&Nat.beq (zaN ren r) r
def SB.refOK (S0:SS) (ren:List (Nat×Nat)) (blks:List (Nat×SB)) (k:SB):Bool:=
  match k with
  | .box _ cs=>cs.all (Go.Ev.refOK S0 ren blks)
  | .arr _ _| .grd _ _ _| .own _ _ _ _=>true
  | .lp _ _ _ _ _ _ _| .dfr=>false
def zsz (S0:SS) (blks:List (Nat×SB)):Bool:=
  blks.all λy=>match y.2 with| .own v _ _ _=>Nat.ble S0.nx v&&blks.all (λy'=>Nat.beq y'.1 y.1|| (match y'.2 with| .own v' _ _ _=> !Nat.beq v v'|_=>true))|_=>true
def zq7 (S:SS) (b:Nat):Bool:=match S.hp.get b with|none=>true|some _=>false
def zqx (S0:SS) (ren:List (Nat×Nat)) (blks:List (Nat×SB)) (slots:List (Tmp×V)) (cleared:T V):Bool:=
  ren.all (λx=>blks.any λy=>Nat.beq y.1 x.1)&&
  (ren.all (λx=>Nat.beq x.1 x.2|| (Nat.ble S0.fl x.1&&(Nat.ble S0.nx x.2||Nat.ble S0.ro x.2&&zq7 S0 x.2)&&blks.all (λy=>Nat.beq y.1 x.1|| !Nat.beq (zaN ren y.1) x.2)))&&
  (ren.all (λx=>Nat.beq (zaN ren x.1) x.2)&&
  (T.all (λ_ v=>v.refs.all λr=>Nat.blt r S0.nx&&Nat.beq (zaN ren r) r) cleared (λn=>n)&&
  (T.all (λb k=>blks.any (λy=>Nat.beq y.1 b)||k.refs.all λr=>Nat.blt r S0.nx&&Nat.beq (zaN ren r) r) S0.hp (λn=>n)&&
  (slots.all (λx=>match x.2 with| .slc _ _ _ _=>true|v=>v.refs.all λr=>Nat.blt r S0.nx&&Nat.beq (zaN ren r) r)&&
  blks.all (λy=>y.2.refOK S0 ren blks))))))
def mkM (S0 S1:SS) (ren:List (Nat×Nat)) (blks:List (Nat×SB)):Bool:=
  ztZ S1.mks S0.mks&&S0.mks.all λb=>zn3 S0 b&&Nat.beq (zaN ren b) b&& !(blks.any λy=>Nat.beq y.1 b)
def zfn (S0 S1:SS) (b:Code) (slots:List (Tmp×V)) (blks:List (Nat×SB)):Prop:=
  cond (zfL S0 blks S1.wr&&blks.all (λy=>Nat.ble S0.ro y.1)&&slots.all (λx=>(zan b).any λt=>Nat.beq t x.1)&&zqx S0 (zjW S1 slots blks) blks slots (zbG (zan b) S0.fr)&&zsz S0 blks&&mkM S0 S1 (zjW S1 slots blks) blks)
    (zdN S1 (zaN (zjW S1 slots blks)) slots/\zel S1 (zaN (zjW S1 slots blks)) blks) False
def LIM:Nat:=100000000000000
def orN:Nat->(Nat->Prop)->Prop
  |0,_=>False
  |1,p=>p 0
  |n+2,p=>orN (n+1) p\/p (n+1)
def ztd:Nat->(Nat->Prop)->Prop
  |0,_=>True
  |1,p=>p 0
  |n+2,p=>ztd (n+1) p/\p (n+1)
def ziS (l:List Nat) (t:T SB):T SB:=match l with| []=>t|b::l=>ziS l (t.put b none)
def ziR (l:List Nat) (S:SS):SS:={S with hp:=ziS l S.hp,wr:=l++S.wr}
def zqK (A:Ann) (ih:Code->SS->SQ->Prop) (b:Code) (S S0:SS) (Q:SQ):Prop:=
  (orN A.hs λi=>∃x,A.inv S i x/\zfn S0 {S with wr:= []} b (A.slots S i x) (A.blks S i x))/\
  ztd A.hs λi=>∀x,A.inv S i x->A.meas S i x<LIM/\ih b (zcX S0 b (A.slots S i x) (A.blks S i x)) λe S1=>
    match e with
    | .normal=>orN A.hs λi'=>∃y,A.inv S i' y/\A.meas S i' y<A.meas S i x/\zfn S0 {S1 with wr:=S1.wr++(A.blks S i x).map (·.1)} b (A.slots S i' y) (A.blks S i' y)
    |e=>Q e {S1 with wr:=S1.wr++((A.blks S i x).map (·.1)++S0.wr)}
def zo8 (A:Ann) (ih:Code->SS->SQ->Prop) (b:Code) (S:SS) (Q:SQ):Prop:=
  cond ((A.dead S).all λb=>Nat.ble S.ro b) (zqK A ih b S (ziR (A.dead S) S) Q) False
def zo5 (A:Ann) (ih:Code->SS->SQ->Prop) (a b:Code) (S:SS) (Q:SQ):Prop:=
  (ih a {S with wr:= []} λe S1=>
    match e with
    | .normal=>orN A.hs λi=>∃x,A.inv S i x/\zfn S S1 a (A.slots S i x) (A.blks S i x)
    |e=>Q e {S1 with wr:=S1.wr++S.wr})/\
  ztd A.hs λi=>∀x,A.inv S i x->ih b (zcX S a (A.slots S i x) (A.blks S i x)) λe S1=>Q e {S1 with wr:=S1.wr++((A.blks S i x).map (·.1)++S.wr)}
def zkb (S:SS) (c:Operand) (yes no:SS->Prop):Prop:=
  match c with
  | .tmp t=>
    (match S.fr.get t with
     |some (.val (.bool b))=>cond b (yes S) (no S)
     |some (.prop p)=>(p->yes {S with fr:=S.fr.put t (some (.val (.bool true)))})/\(¬p->no {S with fr:=S.fr.put t (some (.val (.bool false)))})
     |_=>False)
  | .const (.bool b)=>cond b (yes S) (no S)
  |_=>False
structure zlz (C:Ctx) (out:zdc) (g:FuncId) (f:Operand) (ps:Array Tmp) (as bd:Code) (S:SS) (Q:SQ):Prop where
  out:False
def zko (C:Ctx) (out:zdc) (g:FuncId) (ih:Code->SS->SQ->Prop) (c:Code) (S:SS) (Q:SQ):Prop:=
  match c with
  | .skip| .label _=>Q .normal S
  | .seq a b=>
    (match (zd7 b).bind (C.join g) with
     |none=>ih a S λe S1=>match e with| .normal=>ih b S1 Q|e=>Q e S1
     |some A=>zo5 A ih a b S Q)
  | .cond c a b=>zkb S c (λS=>ih a S Q) (λS=>ih b S Q)
  | .block id b=>ih b S λe S1=>match e with| .exit id'=>cond (Nat.beq id' id) (Q .normal S1) (Q (.exit id') S1)|e=>Q e S1
  | .loop b=>
    (match (zd7 b).bind (C.ann g) with
     |some A=>zo8 A ih b S Q
     |none=>ih b S λe S1=>match e with| .normal=>ih (.loop b) S1 Q|e=>Q e S1)
  | .exit id=>Q (.exit id) S
  | .ret=>Q .ret S
  | .scope b=>ih b S Q
  | .region id ops draw=>cond (zcW ops) False (zgE C out ops draw S λe S1=>zlv C.P (C.frz g id) S1 λS2=>ze8 C.P ops (C.frzT g id) S2 λS3=>Q e S3)
  | .rangeFunc f ps as bd=>zlz C out g f ps as bd S Q
  |_=>False
def zsO (C:Ctx) (out:zdc) (k:Nat):zdc:=λg=>Nat.rec (λ_ _ _=>False) (λ_ ih=>zko C out g ih) k
def zlA (C:Ctx) (d:Nat):zdc:=Nat.rec (λ_ _ _ _=>False) (λ_ ih=>zsO C ih 100000) d
def znO (f:V->Option (TypeId×D)):List V->Option (List TypeId×List D)
  | []=>some ([],[])
  |v::vs=>match f v,znO f vs with|some (t,d),some (ts,ds)=>some (t::ts,d::ds)|_,_=>none
def zn4 (P:Program) (e:TypeId):Bool:=match P.underlying e with|some (.func _ _ _)=>zaD P e 1|_=>false
def zvF (P:Program) (fnD:V->Option D) (e:TypeId) (cs:List V):Option D:=
  match cs with
  | [.fn g fs caps]=>cond (zn4 P e) (fnD (.fn g fs caps)) none
  |cs=>zdR P 20 e cs
def fnD (P:Program) (S:SS):Nat->V->Option D
  |_,.fnd _ d=>some d
  |n+1,.fn g [] caps=>
    (match znO (λv=>match v with
      | .ptr b 0=>(match S.hp.get b with|some (.box e cs)=>cond (zju P e) (match zvF P (fnD P S n) e cs with|some d=>some (e,d)|none=>none) none|_=>none)
      | .dpt t d=>some (t,d)
      |_=>none) caps with
     |some (ts,ds)=>some (.fn g ts ds)
     |none=>none)
  |_,_=>none
def zt9 (P:Program) (S:SS) (v r:V):Prop:=
  match r with
  | .dat t d=>
    (match v with
     | .slc b o n _=>
       (match S.hp.get b with
        |some (.arr e l)=>cond (zav P t e) (o.v+n.v<=l.length/\ .list ((l.drop o.v).take n.v)=d) False
        |some (.own _ e _ l)=>cond (zav P t e) (o.v+n.v<=l.length/\zg9 l/\ziQ P e/\ .list ((l.drop o.v).take n.v)=d) False
        |_=>False)
     | .val (.slice none 0 0)=>cond (zal P t&&zaD P t 1) (.nil=d) False
     |v=>zcb v r)
  | .fnd _ d=>(match fnD P S 8 v with|some d'=>d'=d|none=>False)
  |r=>cond r.free (zcb v r) False
def zuW (P:Program) (S:SS):List V->List V->Prop
  | [],[]=>True
  |v::vs,r::rs=>zt9 P S v r/\zuW P S vs rs
  |_,_=>False
def zua (P:Program) (S:SS) (v r:V):Prop:=
  match r with
  | .agg rs=>(match v with| .agg vs=>zuW P S vs rs|_=>False)
  |r=>zt9 P S v r
def zsD (P:Program) (S:SS):List V->List V->Prop
  | [],[]=>True
  |v::vs,r::rs=>zua P S v r/\zsD P S vs rs
  |_,_=>False
def zhR (P:Program) (S:SS) (v r:V):Prop:=
  match r with
  | .tup rs=>(match v with| .tup vs=>zsD P S vs rs|_=>False)
  |r=>zua P S v r
def zae (C:Ctx) (d:Nat) (g:FuncId) (args:List V) (r:V):Prop:=
  zeF C (zlA C d) g args {fr:= .leaf,sz:=0,hp:= .leaf,nx:=0,ro:=0,fl:=0,wr:= []} λv S=>zhR C.P S v r
end
end Go.Ev
