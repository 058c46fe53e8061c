/- Part of the proof. -/
import Derived.Test.YtdojhafbgoimeaaGreatDoorCoreG2

namespace Go.Ev
noncomputable section
inductive D where
  |int (n:Int)
  |bool (p:Prop)
  |str (s:List UInt8)
  |nil
  |list (l:List D)
  |sct (fs:List D)
  |fn (g:FuncId) (ts:List TypeId) (ds:List D)
def D.asInt:D->Int| .int n=>n|_=>0
def D.asProp:D->Prop| .bool p=>p|_=>False
def D.asStr:D->List UInt8| .str s=>s|_=> []
def D.asList:D->List D| .list l=>l|_=> []
def D.isNil:D->Prop| .nil=>True|_=>False
def zad (l:List D) (i:Nat):D:=(l[i]?).getD .nil
def D.fld (d:D) (j:Nat):D:=match d with| .sct fs=>zad fs j|_=> .nil
def D.isFn (d:D):Prop:=match d with| .fn _ _ _=>True|_=>False
def D.len (d:D):Nat:=d.asList.length
theorem znW (n:Int):(D.int n).asInt=n:=rfl
theorem zsc (l:List D):(D.list l).len=l.length:=rfl
theorem zuN:D.nil.len=0:=rfl
def D.sub (d:D) (o n:Nat):D:=match d with| .list l=> .list ((l.drop o).take n)|d=>d
inductive NL where
  |lit (n:Nat)
  |sym (n:Nat)
def NL.v:NL->Nat| .lit n=>n| .sym n=>n
def NL.add:NL->NL->NL
  | .lit a,.lit b=> .lit (a+b)
  | .lit a,.sym b=>cond (Nat.beq a 0) (.sym b) (.sym (a+b))
  |a,b=> .sym (a.v+b.v)
def NL.mulK:NL->Nat->NL
  | .lit n,s=> .lit (n*s)
  | .sym n,s=> .sym (n*s)
def NL.sub:NL->NL->NL
  | .lit a,.lit b=> .lit (a-b)
  |a,.lit b=>cond (Nat.beq b 0) a (.sym (a.v-b))
  |a,b=> .sym (a.v-b.v)
inductive V where
  |val (v:Value)
  |int (k:IntKind) (n:Int)
  |prop (p:Prop)
  |str (s:List UInt8)
  |agg (cs:List V)
  |tup (cs:List V)
  |ptr (b o:Nat)
  |ept (b:Nat) (i:NL)
  |slc (b:Nat) (o n:NL) (c:Option NL)
  |epf (b:Nat) (i:NL) (e:TypeId) (f:Nat)
  |dat (t:TypeId) (d:D)
  |dpt (t:TypeId) (d:D)
  |fn (g:FuncId) (first cap:List V)
  |fnd (t:TypeId) (d:D)
  |osl (b v:Nat) (i n:NL)
  |oel (b v:Nat) (i n:NL)
  |yld (b:Nat)
  |ownr (e:TypeId) (cp:Bool) (q:Prop) (l:List D)
inductive ztR where
  |ready
  |busy
  |ret
  |exit (id:Nat)
inductive SB where
  |box (e:TypeId) (cs:List V)
  |arr (e:TypeId) (l:List D)
  |grd (a e:TypeId) (l:List D)
  |own (v:Nat) (e e':TypeId) (l:List D)
  |lp (st:ztR) (g:FuncId) (fr:T V) (sz:Nat) (ps:Array Tmp) (as bd:Code)
  |dfr
structure SS where
  fr:T V
  sz:Nat
  hp:T SB
  nx:Nat
  ro:Nat
  fl:Nat
  wr:List Nat
  mks:List Nat:= []
def T.put {α:Type} (t:T α) (n:Nat) (a:Option α):T α:=T.set (Nat.succ n) t n a
def SS.put (S:SS) (d:Option Tmp) (v:Option V) (K:SS->Prop):Prop:=
  match d with
  |none=>K S
  |some d=>cond (Nat.blt d S.sz) (K {S with fr:=S.fr.put d v}) False
def SS.alloc (S:SS) (k:SB):SS:={S with hp:=S.hp.put S.nx (some k),nx:=Nat.succ S.nx}
def SS.write (S:SS) (b:Nat) (k:Option SB):SS:={S with hp:=S.hp.put b k,wr:=b::S.wr}
def SS.bump (S:SS):SS:={S with nx:=Nat.succ S.nx}
def zcv:V->Option (IntKind×Int)
  | .int k n=>some (k,n)
  | .val (.int k n)=>some (k,n)
  |_=>none
def zsj:V->Option (Int×NL)
  | .int _ n=>some (n,.sym n.toNat)
  | .val (.int _ n)=>some (n,.lit n.toNat)
  |_=>none
def zhp (b:Bool):Prop:=b=true
def zd6:V->Option Prop
  | .prop p=>some p
  | .val (.bool b)=>some (zhp b)
  |_=>none
def zgT:V->Option (List UInt8)
  | .str s=>some s
  | .val (.string b)=>some b.data.toList
  |_=>none
def V.cells:V->List V| .agg cs=>cs|v=> [v]
def V.one:V->Bool
  | .agg _| .tup _=>false
  | .val v=>zar v
  |_=>true
def zvC (v:Value):Option V:=
  match v with
  | .agg cs=>cond (flat v) (some (.agg (cs.toList.map .val))) none
  |v=>cond (flat v) (some (.val v)) (match v with| .tuple vs=>cond (Nat.beq vs.size 0) (some (.val v)) none|_=>none)
def zuq (S:SS):Operand->Option V
  | .tmp t=>S.fr.get t
  | .const v=>zvC v
  | .func f=>some (.fn f [] [])
  | .global _=>none
def zbj (S:SS) (x:Operand) (K:V->Prop):Prop:=match zuq S x with|some v=>K v|none=>False
def zkf (S:SS) (xs:List Operand):(List V->Prop)->Prop:=
  List.rec (λK=>K []) (λx _ ih K=>zbj S x λv=>ih λl=>K (v::l)) xs
def zsS (S:SS) (x:Option Operand) (K:Option V->Prop):Prop:=match x with|some x=>zbj S x λv=>K (some v)|none=>K none
def inR:IntKind->Int->Prop
  | .i64,n=> -9223372036854775808<=n/\n<9223372036854775808
  | .u8,n=>0<=n/\n<256
  | .u64,n=>0<=n/\n<18446744073709551616
  | .i32,n=> -2147483648<=n/\n<2147483648
  | .u32,n=>0<=n/\n<4294967296
  | .i8,n=> -128<=n/\n<128
  | .i16,n=> -32768<=n/\n<32768
  | .u16,n=>0<=n/\n<65536
def zae (a b:Int):Int:=((a.toNat&&&b.toNat:Nat):Int)
def zbI (k:IntKind) (a b:Int):Int:=a.fdiv (2^min b.toNat k.bits)
def zqS (op:BinOp) (k:IntKind) (a b:Int) (K:V->Prop):Prop:=
  match op with
  | .shr=>0<=b/\K (.int k (zbI k a b))
  |_=>False
def ztG (k:IntKind) (a b:Int) (K:V->Prop):Prop:=
  match k with
  | .u8=>K (.int .u8 (IntKind.u8.wrap (a+b)))
  |k=>inR k (a+b)/\K (.int k (a+b))
def zzn (a b:Int):Int:=IntKind.i64.wrap ((BitVec.ofInt 64 a&&&BitVec.ofInt 64 b).toNat:Nat)
def ztH (k:IntKind) (a b:Int) (K:V->Prop):Prop:=
  match k with
  | .i64=>K (.int .i64 (zzn a b))
  |k=>0<=a/\0<=b/\inR k a/\inR k b/\K (.int k (zae a b))
def zqK (op:BinOp) (k:IntKind) (a b:Int) (K:V->Prop):Prop:=
  match op with
  | .add=>ztG k a b K
  | .sub=>inR k (a-b)/\K (.int k (a-b))
  | .mul=>inR k (a*b)/\K (.int k (a*b))
  | .quo=>b≠0/\inR k (a.tdiv b)/\K (.int k (a.tdiv b))
  | .rem=>b≠0/\K (.int k (a.tmod b))
  | .and=>ztH k a b K
  | .shr=>0<=b/\K (.int k (zbI k a b))
  | .eql=>K (.prop (a=b))
  | .neq=>K (.prop (¬a=b))
  | .lss=>K (.prop (a<b))
  | .leq=>K (.prop (a<=b))
  | .gtr=>K (.prop (b<a))
  | .geq=>K (.prop (b<=a))
  |_=>False
structure sLt (a b:List UInt8):Prop where
  out:Op.bytesLess a b=true
def zqU (op:BinOp) (a b:List UInt8) (K:V->Prop):Prop:=
  match op with
  | .add=>a.length+b.length<9223372036854775808/\K (.str (a++b))
  | .eql=>K (.prop (a=b))
  | .neq=>K (.prop (¬a=b))
  | .lss=>K (.prop (sLt a b))
  | .leq=>K (.prop (sLt a b\/a=b))
  | .gtr=>K (.prop (¬(sLt a b\/a=b)))
  | .geq=>K (.prop (¬sLt a b))
  |_=>False
def zk8 (op:BinOp) (a b:Prop) (K:V->Prop):Prop:=
  match op with
  | .eql=>K (.prop (a↔b))
  | .neq=>K (.prop (¬(a↔b)))
  |_=>False
def ztJ (op:BinOp) (x:V) (K:V->Prop):Prop:=
  match op,x with
  | .eql,.dat _ d=>K (.prop d.isNil)
  | .neq,.dat _ d=>K (.prop (¬d.isNil))
  | .eql,.slc _ _ _ _=>K (.val (.bool false))
  | .neq,.slc _ _ _ _=>K (.val (.bool true))
  |_,_=>False
def zbH (P:Program) (t:TypeId):Bool:=match P.underlying t with|some .bool=>true|_=>false
def zai (P:Program) (t:TypeId):Bool:=match P.underlying t with|some (.slice _)=>true|_=>false
def zkG (P:Program) (t:TypeId):Bool:=match zaj P t with|some _=>true|none=>false
def zvu (P:Program) (t:TypeId):Bool:=match zaj P t with|some k=>Nat.blt 0 k|none=>false
def zvt (P:Program) (t:TypeId) (n:Nat):Bool:=match zaj P t with|some k=>Nat.blt 0 k&&Nat.ble k n&&Nat.beq (P.cellsOf t) k|none=>false
structure ztK (P:Program) (op:BinOp) (t:TypeId) (x y:V) (K:V->Prop):Prop where
  out:False
def zk7 (P:Program) (op:BinOp) (t:TypeId) (x y:V) (K:V->Prop):Prop:=
  match zcv x,zcv y with
  |some (k,a),some (k',b)=>cond (k==k') (zqK op k a b K) (zqS op k a b K)
  |_,_=>
    match zgT x,zgT y with
    |some a,some b=>zqU op a b K
    |_,_=>
      match zd6 x,zd6 y with
      |some a,some b=>cond (zbH P t) (zk8 op a b K) False
      |_,_=>
        match y with
        | .val (.slice none 0 0)=>cond (zai P t) (ztJ op x K) False
        |y=>ztK P op t x y K
def zqC (P:Program) (op:BinOp) (t:TypeId) (ox oy:Operand) (x y:V) (K:V->Prop):Prop:=
  match x,y with
  | .val a,.val b=>
    match zgf P op t ox oy a b {t:= .leaf,next:=0,wlow:=0} with
    |some (v,_)=>cond (zaD v&&zaD a&&zaD b) (zfg v λv=>K (.val v)) False
    |none=>False
  |x,y=>zk7 P op t x y K
def zvs (op:UnOp) (x:V) (K:V->Prop):Prop:=
  match op,x with
  | .not,.val (.bool b)=>K (.val (.bool (!b)))
  | .not,.prop p=>K (.prop (¬p))
  | .neg,x=>(match zcv x with|some (k,n)=>inR k (-n)/\K (.int k (-n))|none=>False)
  |_,_=>False
def zle (P:Program) (s d:TypeId) (x:V) (K:V->Prop):Prop:=
  match P.underlying s,P.underlying d with
  |some _,some (.int k)=>
    (match x with
     | .val (.int _ n)=>zf0 (k.wrap n) λm=>K (.val (.int k m))
     | .int _ n=>K (.int k (k.wrap n))
     |_=>False)
  |some .string,some .string=>(match zgT x with|some s=>K (.str s)|none=>False)
  |_,_=>False
structure zn2 (l:List D):Prop where
  out:∀d,d∈l->∃n:Nat,n<256/\d= .int n
def zfD (l:List D):List UInt8:=l.map λd=>UInt8.ofNat d.asInt.toNat
def zvo (s:List UInt8):List D:=s.map λb=> .int b.toNat
def zce (P:Program) (t:TypeId):Bool:=match zaj P t with|some s=>Nat.beq s 1|none=>false
def zkI (P:Program) (t:TypeId):Bool:=match P.underlying t with|some (.int .i64)=>true|_=>false
def znM (P:Program) (t:TypeId):Bool:=match P.underlying t with|some (.int .u8)=>true|_=>false
def ziD (P:Program) (S:SS) (s d:TypeId) (x:V) (K:V->Prop):Prop:=
  match x with
  | .slc b o n _=>
    (match P.underlying s,P.underlying d,S.hp.get b with
     |some (.slice e),some .string,some (.arr e' l)=>
       cond (znM P e&&znM P e'&&zce P e') (o.v+n.v<=l.length/\zn2 ((l.drop o.v).take n.v)/\K (.str (zfD ((l.drop o.v).take n.v)))) False
     |_,_,_=>False)
  | .ptr b o=>
    (match P.underlying s,P.underlying d,S.hp.get b with
     |some (.pointer t),some .unsafePointer,some (.box _ cs)=>cond (Nat.blt o cs.length&&zvu P t) (K (.ptr b o)) False
     |some .unsafePointer,some (.pointer u),some (.box e cs)=>
       cond (Nat.beq o 0&&Nat.beq e u&&zvt P u cs.length) (K (.ptr b o)) False
     |_,_,_=>False)
  |x=>zle P s d x K
def zln (c a b:V) (K:V->Prop):Prop:=
  match c with
  | .val (.bool t)=>cond t (K a) (K b)
  | .prop p=>
    (match zd6 a,zd6 b with
     |some x,some y=>K (.prop ((p/\x)\/(¬p/\y)))
     |_,_=>False)
  |_=>False
def zpy (P:Program) (t:TypeId):Bool:=match P.underlying t with|some (.int .i64)=>true|_=>false
def zay (P:Program) (t:TypeId) (n:Nat):Bool:=match zaj P t with|some s=>Nat.beq s n|none=>false
def zm8 (P:Program) (rec_:TypeId->List V->Option D):List Field->List V->Option (List D)
  | [],[]=>some []
  | [],_=>none
  |fd::fs,vs=>
    match zaj P fd.type with
    |none=>none
    |some s=>
      cond (Nat.ble s vs.length)
        (match rec_ fd.type (vs.take s),zm8 P rec_ fs (vs.drop s) with
         |some d,some ds=>some (d::ds)
         |_,_=>none) none
def zyi:V->Option D
  | .fnd _ d=>some d
  | .val .nilFunc=>some .nil
  | .fn g [] []=>some (.fn g [] [])
  |_=>none
def zdX (P:Program):Nat->TypeId->List V->Option D
  |0,_,_=>none
  |f+1,t,vs=>
    cond (zay P t vs.length)
    (match P.underlying t,vs with
    |some (.int k),[v]=>(match zcv v with|some (k',n)=>cond (k==k') (some (.int n)) none|none=>none)
    |some .bool,[v]=>(zd6 v).map .bool
    |some .string,[v]=>(zgT v).map .str
    |some (.slice _),[.val (.slice none 0 0)]=>some .nil
    |some (.slice _),[.dat t' d]=>cond (Nat.beq t t') (some d) none
    |some (.struct fs),vs=>(zm8 P (zdX P f) fs.toList vs).map .sct
    |some (.func _ _ _),[v]=>zyi v
    |_,_=>none) none
def zfi (rec_:TypeId->D->Option (List V)) (d:D):List Field->Nat->Option (List V)
  | [],_=>some []
  |fd::fs,j=>
    match rec_ fd.type (d.fld j),zfi rec_ d fs (Nat.succ j) with
    |some vs,some ws=>some (vs++ws)
    |_,_=>none
def zyh (e:TypeId):Field:={name:= "",type:=e,offset:=0,embedded:=false,tag:= "",pkgPath:= "",byteOffset:=0}
def cellsOf (P:Program):Nat->TypeId->D->Option (List V)
  |0,_,_=>none
  |f+1,t,d=>
    match P.underlying t with
    |some (.int k)=>some [.int k d.asInt]
    |some .bool=>some [.prop d.asProp]
    |some .string=>some [.str d.asStr]
    |some (.slice _)=>some [.dat t d]
    |some (.struct fs)=>zfi (cellsOf P f) d fs.toList 0
    |some (.array n e)=>zfi (cellsOf P f) d (List.replicate n (zyh e)) 0
    |some (.func _ _ _)=>some [.fnd t d]
    |_=>none
def za9 (P:Program) (t:TypeId) (d:D) (K:V->Prop):Prop:=
  match cellsOf P 20 t d,zbk P t with
  |some vs,some true=>K (.agg vs)
  |some [v],some false=>K v
  |_,_=>False
def zfK (P:Program):List Field->Nat->Bool
  | [],_=>true
  |fd::fs,o=>Nat.beq fd.offset o&&(match zaj P fd.type with|some s=>zfK P fs (o+s)|none=>false)
def zpv (P:Program) (t:TypeId):Bool:=match zbk P t with|some true=>true|_=>false
def zgg:List V->Option (List D)
  | []=>some []
  |v::vs=>match zd6 v,zgg vs with|some p,some ds=>some (.bool p::ds)|_,_=>none
def ziI (P:Program) (S:SS) (t:TypeId) (a:V) (K:V->Prop):Prop:=
  match a with
  | .ptr b o=>
    match S.hp.get b with
    |some (.box _ cs)=>
      (match zbk P t,zaj P t with
       |some false,_=>(match cs[o]? with|some v=>K v|none=>False)
       |some true,some s=>cond (Nat.ble (o+s) cs.length) (K (.agg ((cs.drop o).take s))) False
       |_,_=>False)
    |some (.grd a e l)=>cond (Nat.beq o 0&&Nat.beq a t&&zbH P e&&zay P e 1&&zpv P t&&zay P t l.length) (K (.agg (l.map λd=> .prop d.asProp))) False
    |_=>False
  | .ept b i=>
    match S.hp.get b with
    |some (.arr e l)=>cond (Nat.beq e t) (i.v<l.length/\za9 P t (zad l i.v) K) False
    |some (.grd _ e l)=>cond (Nat.beq e t) (i.v<l.length/\za9 P t (zad l i.v) K) False
    |some (.own v e _ l)=>cond (Nat.beq e t&&zai P t) (i.v<l.length/\(zad l i.v= .nil->K (.val (.slice none 0 0)))/\(∀r,zad l i.v= .list r->K (.osl b v i (.sym r.length)))/\∀n,zad l i.v= .int n->False) False
    |_=>False
  | .oel b v i n=>
    match S.hp.get b with
    |some (.own v' _ e' l)=>cond (Nat.beq v v'&&Nat.beq e' t) (i.v<l.length/\n.v<(zad l i.v).len/\za9 P t (zad (zad l i.v).asList n.v) K) False
    |_=>False
  | .dpt t' d=>cond (Nat.beq t t') (za9 P t d K) False
  |_=>False
def zax (P:Program) (t e:TypeId):Bool:=(match P.underlying t with|some (.slice e')=>Nat.beq e' e|_=>false)&&zay P t 1
structure zdl (l:List D):Prop where
  out:∀d,d∈l->d= .nil
def zxM (n:NL):Option NL->Prop
  |none=>True
  |some c=>c.v=n.v
def zmI (P:Program) (S:SS) (b:Nat) (e:TypeId) (l:List D) (i:NL) (x:V) (p:Prop) (K:V->SS->Prop):Prop:=
  match x with
  | .slc b' o n c=>
    (match S.hp.get b' with
     |some (.arr e2 l2)=>
       cond (zax P e e2&&Nat.ble S.ro b&&Nat.ble S.ro b'&& !Nat.beq b b')
         (i.v<l.length/\p/\o.v=0/\n.v=l2.length/\zxM n c/\K (.val undef) ((S.write b' none).write b (some (.own S.nx e e2 (l.set i.v (.list l2))))).bump) False
     |_=>False)
  |_=>False
def zf8 (P:Program) (S:SS) (t:TypeId) (a x:V) (K:V->SS->Prop):Prop:=
  match a with
  | .ptr b o=>
    match S.hp.get b,zaj P t with
    |some (.box be cs),some s=>
      cond (Nat.ble S.ro b&&Nat.beq x.cells.length s&&Nat.ble (o+s) cs.length&&x.cells.all V.one)
        (K (.val undef) (S.write b (some (.box be (cs.take o++x.cells++cs.drop (o+x.cells.length)))))) False
    |some (.grd a e l),some s=>
      (match zgg x.cells with
       |some ds=>cond (Nat.beq o 0&&Nat.beq a t&&zbH P e&&zay P e 1&&Nat.ble S.ro b&&Nat.beq ds.length s&&Nat.beq s l.length) (K (.val undef) (S.write b (some (.grd a e ds)))) False
       |none=>False)
    |_,_=>False
  | .ept b i=>
    match S.hp.get b with
    |some (.arr e l)=>
      cond (Nat.beq e t&&Nat.ble S.ro b)
        (match zdX P 20 t x.cells with
         |some d=>i.v<l.length/\K (.val undef) (S.write b (some (.arr e (l.set i.v d))))
         |none=>zmI P S b e l i x (zdl l) K) False
    |some (.grd a e l)=>
      cond (Nat.beq e t&&Nat.ble S.ro b)
        (match zdX P 20 t x.cells with
         |some d=>i.v<l.length/\K (.val undef) (S.write b (some (.grd a e (l.set i.v d))))
         |none=>False) False
    |some (.own v e e' l)=>
      cond (Nat.beq e t&&Nat.ble S.ro b)
        (match x with
         | .val (.slice none 0 0)=>zay P e 1=true/\i.v<l.length/\K (.val undef) (S.write b (some (.own v e e' (l.set i.v .nil))))
         |x=>zmI P S b e l i x True K) False
    |_=>False
  | .oel b v i n=>
    match S.hp.get b with
    |some (.own v' e e' l)=>
      cond (Nat.beq v v'&&Nat.beq e' t&&Nat.ble S.ro b)
        (match zdX P 20 t x.cells with
         |some d=>i.v<l.length/\n.v<(zad l i.v).len/\K (.val undef) (S.write b (some (.own v e e' (l.set i.v (.list ((zad l i.v).asList.set n.v d))))))
         |none=>False) False
    |_=>False
  |_=>False
def zqE (S:SS) (e:TypeId) (x:V) (K:V->SS->Prop):Prop:=
  cond (x.cells.all V.one) (K (.ptr S.nx 0) (S.alloc (.box e x.cells))) False
def zzo (P:Program):Nat->TypeId->Option (TypeId×Nat)
  |0,_=>none
  |f+1,t=>
    match P.underlying t with
    |some (.array n e)=>
      (match P.underlying e with
       |some (.int .i64)=>some (e,n)
       |_=>match zzo P f e with|some (e',m)=>some (e',n*m)|none=>none)
    |_=>none
def zvV:List Value->Bool
  | []=>true
  | .int .i64 (.ofNat 0)::l=>zvV l
  |_=>false
def zt4 (P:Program) (t:TypeId):Option (TypeId×Nat):=
  match P.underlying t with
  |some (.array n e)=>cond (zbH P e) (some (e,n)) none
  |_=>none
def zvU:List Value->Bool
  | []=>true
  | .bool false::l=>zvU l
  |_=>false
def ziv (P:Program) (sm:Bool) (S:SS) (e:TypeId) (K:V->SS->Prop):Prop:=
  match zct P e with
  |some z=>
    (match cond sm none (zzo P 4 e) with
     |some (t,n)=>cond (flat z&&zvV z.cells.toList&&Nat.beq z.cells.toList.length n&&zpy P t&&zay P t 1) (K (.ptr S.nx 0) (S.alloc (.grd e t (List.replicate n (.int 0))))) False
     |none=>
       (match zt4 P e with
        |some (t,n)=>cond (flat z&&zvU z.cells.toList&&Nat.beq z.cells.toList.length n&&zbH P t&&zay P t 1) (K (.ptr S.nx 0) (S.alloc (.grd e t (List.replicate n (.bool False))))) False
        |none=>cond (flat z) (K (.ptr S.nx 0) (S.alloc (.box e (z.cells.toList.map .val)))) False))
  |none=>False
def zrc (P:Program) (e:TypeId):Option D:=
  match zct P e with
  |some z=>zdX P 20 e (z.cells.toList.map .val)
  |none=>none
def zdD (P:Program) (S:SS) (t:TypeId) (l c:V) (K:V->SS->Prop):Prop:=
  match P.underlying t with
  |some (.slice e)=>
    match zsj l,zsj c,zrc P e,P.info? e with
    |some (li,l),some (ci,c),some z,some i=>
      cond (Nat.blt 0 i.size&&zcV P e) (0<=li/\li<=ci/\ci<=16777216/\i.bytes*c.v<=281474976710656/\K (.slc S.nx (.lit 0) l (some c)) (S.alloc (.arr e (List.replicate c.v z)))) False
    |_,_,_,_=>False
  |_=>False
def zkl (P:Program) (e:TypeId):Bool:=match zaj P e with|some s=>Nat.blt 0 s|none=>false
def bnd (x:Option V) (d:Int×NL):Option (Int×NL):=match x with|none=>some d|some v=>zsj v
def zt7 (n:NL):Option NL->Int->Prop
  |none,h=>h<=n.v
  |some c,h=>h<=c.v
def zv3:Option NL->NL->Option NL
  |none,_=>none
  |some c,l=>some (c.sub l)
def ziO (P:Program) (S:SS) (t:TypeId) (x:V) (lo hi mx:Option V) (K:V->Prop):Prop:=
  match P.underlying t,mx with
  |some (.slice e),none=>
    (match x with
    | .slc b o n c=>
      (match bnd lo (0,.lit 0),bnd hi (n.v,n),S.hp.get b with
       |some (l,ln),some (h,hn),some (.arr e' _)=>cond (Nat.beq e e') (0<=l/\l<=h/\zt7 n c h/\K (.slc b (o.add ln) (hn.sub ln) (zv3 c ln))) False
       |_,_,_=>False)
    | .dat t' d=>
      (match bnd lo (0,.lit 0),bnd hi (d.len,.sym d.len) with
       |some (l,ln),some (h,hn)=>cond (Nat.beq t t'&&zkl P e) (0<=l/\l<=h/\h<=d.len/\K (.dat t (d.sub ln.v (hn.sub ln).v))) False
       |_,_=>False)
    | .val (.slice none 0 0)=>
      (match bnd lo (0,.lit 0),bnd hi (0,.lit 0) with
       |some (l,_),some (h,_)=>cond (zkl P e) (0<=l/\l<=h/\h<=0/\K (.val (.slice none 0 0))) False
       |_,_=>False)
    |_=>False)
  |some .string,none=>
    (match zgT x with
     |some s=>
       (match bnd lo (0,.lit 0),bnd hi (s.length,.sym s.length) with
        |some (l,ln),some (h,hn)=>0<=l/\l<=h/\h<=s.length/\K (.str ((s.drop ln.v).take (hn.sub ln).v))
        |_,_=>False)
     |none=>False)
  |_,_=>False
def chD (P:Program) (e:TypeId) (s:Nat):Nat->List V->Option (List D)
  |0,_=>some []
  |n+1,cs=>match zdX P 20 e (cs.take s),chD P e s n (cs.drop s) with|some d,some ds=>some (d::ds)|_,_=>none
def zk9 (P:Program) (S:SS) (e:TypeId) (x:V) (K:V->SS->Prop):Prop:=
  match P.underlying e with
  |some (.array n t)=>
    (match zaj P t with
     |some s=>
       (match chD P t s n x.cells with
        |some l=>cond (x.cells.all V.one&&Nat.blt 0 s&&Nat.beq x.cells.length (n*s)) (K (.ptr S.nx 0) (S.alloc (.grd e t l))) False
        |none=>False)
     |none=>False)
  |_=>False
def zg3 (P:Program) (S:SS) (t:TypeId) (x:V) (lo hi mx:Option V) (K:V->SS->Prop):Prop:=
  match x,lo,hi,mx with
  | .ptr b 0,none,none,none=>
    (match P.underlying t,S.hp.get b with
     |some (.array n e),some (.box a cs)=>
       (match zaj P e with
        |some s=>
          (match chD P e s n cs with
           |some l=>cond (Nat.beq a t&&Nat.ble S.ro b&&Nat.blt 0 s&&Nat.blt 0 n&&Nat.ble n 16777216&&Nat.beq cs.length (n*s)) (K (.slc S.nx (.lit 0) (.lit n) (some (.lit n))) ((S.write b none).alloc (.grd a e l))) False
           |none=>False)
        |none=>False)
     |_,_=>False)
  |x,lo,hi,mx=>ziO P S t x lo hi mx λv=>K v S
def zdA (P:Program) (s:TypeId) (x:V) (f:Nat) (K:V->Prop):Prop:=
  match x,zgs P s f with
  | .ptr b o,some fd=>(match zaj P fd.type with|some 0|none=>False|some _=>K (.ptr b (o+fd.offset)))
  | .ept b i,some fd=>(match zaj P fd.type with|some 0|none=>False|some _=>K (.epf b i s f))
  | .dpt t d,some fd=>
    (match P.underlying s,zaj P fd.type with
     |some (.struct fs),some (.succ _)=>cond (Nat.beq t s&&zfK P fs.toList 0) (K (.dpt fd.type (d.fld f))) False
     |_,_=>False)
  |_,_=>False
structure zmF (P:Program) (t:TypeId) (x:V) (f:Nat) (K:V->Prop):Prop where
  out:False
def zdB (P:Program) (S:SS) (t:TypeId) (x ix:V) (K:V->Prop):Prop:=
  match zsj ix,P.underlying t with
  |some (i,n),some (.slice e)=>
    (match x with
     | .slc b o l _=>
       (match S.hp.get b with
        |some (.arr e' _)=>cond (Nat.beq e e') (0<=i/\i<l.v/\K (.ept b (o.add n))) False
        |some (.own _ e' _ _)=>cond (Nat.beq e e') (0<=i/\i<l.v/\K (.ept b (o.add n))) False
        |_=>False)
     | .dat t' d=>cond (Nat.beq t t'&&zkl P e) (0<=i/\i<d.len/\K (.dpt e (zad d.asList n.v))) False
     | .osl b v j l=>(match S.hp.get b with|some (.own v' _ e' ll)=>cond (Nat.beq v v'&&Nat.beq e e') (0<=i/\i<l.v/\j.v<ll.length/\i<(zad ll j.v).len/\K (.oel b v j n)) False|_=>False)
     |_=>False)
  |some (i,n),some (.array len e)=>
    (match x with
     | .ptr b o=>
      (match S.hp.get b,zaj P e with
       |some (.grd _ e' _),some s=>cond (zay P e' 1) (0<=i/\i<(len:Int)/\K (.ept b ((NL.lit o).add (n.mulK s)))) False
       |some (.box _ _),some s=>(match n with| .lit n=>0<=i/\i<(len:Int)/\K (.ptr b (o+n*s))| .sym _=>False)
       |_,_=>False)
     | .ept b m=>(match S.hp.get b,zaj P e with|some (.grd _ e' _),some s=>cond (zay P e' 1) (0<=i/\i<(len:Int)/\K (.ept b (m.add (n.mulK s)))) False|_,_=>False)
     |_=>False)
  |_,_=>False
def zzu (g:Nat):Option zmR:=(default:zdV).l.find? λp=>Nat.beq p.g g
def zwo (P:Program) (e:TypeId) (s:Nat):Nat->List Value->Option (List D)
  |0,_=>some []
  |n+1,cs=>match zdX P 20 e ((cs.take s).map .val),zwo P e s n (cs.drop s) with|some d,some ds=>some (d::ds)|_,_=>none
def zlj (P:Program) (t:TypeId) (g:Nat) (ix:V) (K:V->Prop):Prop:=
  match zsj ix,P.underlying t,zzu g with
  |some (i,n),some (.array len e),some x=>
    (match zaj P e with
     |some s=>
       (match zwo P e s len x.cs with
        |some l=>cond (Nat.blt 0 s&&x.cs.all zaD&&Nat.beq x.cs.length (len*s)) (0<=i/\i<(len:Int)/\K (.dpt e (zad l n.v))) False
        |none=>False)
     |none=>False)
  |_,_,_=>False
def zmH (P:Program) (S:SS) (t:TypeId) (x ix:Operand) (K:V->Prop):Prop:=
  match x with
  | .global g=>zbj S ix λix=>zlj P t g ix K
  |x=>zbj S x λx=>zbj S ix λix=>zdB P S t x ix K
def zap (s:List UInt8) (i:Nat):Int:=((s[i]?).getD 0).toNat
structure zqQ (P:Program) (t:TypeId) (cs:List V) (ix:V) (K:V->Prop):Prop where
  out:False
def ziH (P:Program) (t:TypeId) (x ix:V) (K:V->Prop):Prop:=
  match x with
  | .agg cs=>zqQ P t cs ix K
  |x=>
  match zsj ix,zgT x,P.underlying t with
  |some (i,n),some s,some .string=>0<=i/\i<s.length/\K (.int .u8 (zap s n.v))
  |_,_,_=>False
def zfq (x:V) (ix:Nat) (K:V->Prop):Prop:=
  match x with| .tup vs=>(match vs[ix]? with|some v=>K v|none=>False)|_=>False
def zeq (x:V) (K:V->Prop):Prop:=
  match x with
  | .ptr _ _| .ept _ _| .dpt _ _| .fn _ _ _=>K x
  | .fnd t d=>d.isFn/\K (.fnd t d)
  |_=>False
def zm4 (places:List (Nat×Nat)):List (Nat×V)->List V->Option (List V)
  | [],cs=>some cs
  | (i,v)::ps,cs=>
    match places[i]? with
    |some (o,s)=>cond (Nat.beq v.cells.length s&&Nat.ble (o+s) cs.length) (zm4 places ps (cs.take o++v.cells++cs.drop (o+v.cells.length))) none
    |none=>none
def zeS (P:Program):List Field->Option (List (Nat×Nat))
  | []=>some []
  |fd::fs=>match zaj P fd.type,zeS P fs with|some s,some ps=>some ((fd.offset,s)::ps)|_,_=>none
def ziA (P:Program) (t:TypeId) (parts:List (Nat×V)) (K:V->Prop):Prop:=
  match P.underlying t,zct P t with
  |some (.struct fs),some z=>
    (match zeS P fs.toList with
     |some places=>cond (flat z) (match zm4 places parts (z.cells.toList.map .val) with|some cs=>K (.agg cs)|none=>False) False
     |none=>False)
  |some (.array n e),some z=>
    (match zaj P e with
     |some s=>cond (flat z) (match zm4 ((List.range n).map λi=>(i*s,s)) parts (z.cells.toList.map .val) with|some cs=>K (.agg cs)|none=>False) False
     |none=>False)
  |_,_=>False
def zs1 (P:Program):Nat->TypeId->List TypeId
  |0,_=> []
  |f+1,t=>
    match P.underlying t with
    |some (.struct fs)=>(fs.toList.map λfd=>zs1 P f fd.type).flatten
    |some (.array _ _)=> []
    |_=> [t]
def zs7 (P:Program) (t:TypeId):List TypeId:=match P.underlying t with|some (.slice e)=>zs1 P 20 e|_=> []
def zjE (P:Program) (e:TypeId):Prop:=zai P e=true/\zay P e 1=true
structure zfI (l:List D):Prop where
  out:∀n,D.int n∉l
def zl1 (P:Program) (S:SS) (t:TypeId) (v:V) (K:V->SS->Prop):Prop:=
  match v with
  | .slc b o n c=>
    (match S.hp.get b with
     |some (.arr e l)=>cond (zax P t e&&Nat.ble S.ro b) (o.v+n.v<=l.length/\K (.dat t (.list ((l.drop o.v).take n.v))) (S.write b none)) False
     |some (.grd _ e l)=>(match c with|some c=>cond (zax P t e&&Nat.ble S.ro b) (o.v+n.v<=l.length/\o.v+c.v<=l.length/\K (.dat t (.list ((l.drop o.v).take n.v))) (S.write b none)) False|none=>False)
     |some (.own _ e _ l)=>cond (zax P t e&&Nat.ble S.ro b) (o.v+n.v<=l.length/\zfI l/\zjE P e/\K (.dat t (.list ((l.drop o.v).take n.v))) (S.write b none)) False
     |_=>False)
  |v=>K v S
def zwl (P:Program):List TypeId->List V->SS->(List V->SS->Prop)->Prop
  |_,[],S,K=>K [] S
  | [],v::vs,S,K=>K (v::vs) S
  |t::ts,v::vs,S,K=>zl1 P S t v λv S=>zwl P ts vs S λvs S=>K (v::vs) S
def zxp (P:Program) (S:SS) (ts:List TypeId) (v:V) (K:V->SS->Prop):Prop:=
  match v with
  | .agg cs=>zwl P ts cs S λcs S=>K (.agg cs) S
  | .slc b o n c=>(match ts with|t::_=>zl1 P S t (.slc b o n c) K| []=>K (.slc b o n c) S)
  |v=>K v S
def zf1 (P:Program) (ts:List TypeId):List (Nat×V)->SS->(List (Nat×V)->SS->Prop)->Prop
  | [],S,K=>K [] S
  |x::ps,S,K=>zxp P S ts x.2 λv S=>zf1 P ts ps S λps S=>K ((x.1,v)::ps) S
def zmG (P:Program):List (Tmp×Nat×TypeId)->SS->(SS->Prop)->Prop
  | [],S,K=>K S
  |x::l,S,K=>
    match S.fr.get x.1 with
    |some (.ptr b 0)=>
      (match S.hp.get b with
       |some (.box _ cs)=>
         (match cs[x.2.1]? with
          |some v=>cond (Nat.ble S.ro b) (zl1 P S x.2.2 v λu S1=>match S1.hp.get b with|some (.box be cs1)=>zmG P l (S1.write b (some (.box be (cs1.set x.2.1 u)))) K|_=>False) False
          |none=>False)
       |_=>False)
    |_=>False
def zjl (P:Program) (e:TypeId):List (Nat×V)->Nat->Option (List D)
  | [],_=>some []
  | (i,v)::ps,j=>
    cond (Nat.beq i j) (match zdX P 20 e v.cells,zjl P e ps (Nat.succ j) with|some d,some ds=>some (d::ds)|_,_=>none) none
def zc7 (P:Program) (S:SS) (t:TypeId) (len:Nat) (parts:List (Nat×V)) (K:V->SS->Prop):Prop:=
  match P.underlying t with
  |some (.slice e)=>
    (match zjl P e parts 0,zaj P e,zrc P e with
     |some ds,some (.succ s),some _=>
       cond (Nat.beq ds.length len&&Nat.ble len 16777216&&Nat.ble (len*Nat.succ s) 16777216&&zcV P e) (K (.slc S.nx (.lit 0) (.lit len) (some (.lit len))) (S.alloc (.arr e ds))) False
     |_,_,_=>False)
  |_=>False
def zvm (P:Program) (e t2:TypeId):Option TypeId:=match P.underlying t2 with|some (.slice e2)=>some e2|some .string=>some e|_=>none
def ztF (P:Program) (S:SS) (e:TypeId) (ts:TypeId) (x:V) (K:NL->List D->Prop):Prop:=
  match x with
  | .str s=>cond (znM P e&&zce P e) (K (.sym s.length) (zvo s)) False
  | .val (.string s)=>cond (znM P e&&zce P e) (K (.lit s.data.toList.length) (zvo s.data.toList)) False
  | .val (.slice none 0 0)=>K (.lit 0) []
  | .slc b o n _=>(match S.hp.get b with|some (.arr e' l)=>cond (Nat.beq e e') (o.v+n.v<=l.length/\K n ((l.drop o.v).take n.v)) False|_=>False)
  | .dat t d=>cond (Nat.beq t ts) (K (.sym d.len) d.asList) False
  |_=>False
def zn9 (n:NL) (A B:Prop):Prop:=
  match n with
  | .lit n=>cond (Nat.beq n 0) A B
  | .sym n=>(n=0->A)/\(0<n->B)
def zwt:V->Bool| .str _=>true|_=>false
def zob (pos:Bool) (n:NL) (A B:Prop):Prop:=cond pos (0<n.v/\B) (zn9 n A B)
def zdF (inf:TypeInfo):Bool:=match inf.zero with|some z=>Nat.beq z.cells.size inf.size|none=>false
def zl8:V->Bool
  | .val (.slice none 0 0)| .slc _ _ _ _| .dat _ _=>true
  |_=>false
def leA (b n:Nat) (K:Prop):Prop:=cond (Nat.ble b 16) (n<=8796093022208/\K) (n<=16777216/\K)
def zbJ (P:Program) (S:SS) (t t2:TypeId) (s x:V) (K:V->SS->Prop):Prop:=
  match P.underlying t with
  |some (.slice e)=>
   match zvm P e t2 with
   |some e2=>
    (match P.info? e with
     |some inf=>
       cond (Nat.beq e e2&&zdF inf&&Nat.ble inf.bytes 4096&&Nat.blt 0 inf.bytes&&Nat.blt 0 inf.size)
         (ztF P S e t2 x λk new=>
           zob (zwt x) k (cond (zl8 s) (K s S) False)
             (match s with
              | .val (.slice none 0 0)=>leA inf.bytes k.v (K (.slc S.nx (.lit 0) k none) (S.alloc (.arr e new)))
              | .slc b o n c=>
                (match S.hp.get b with
                 |some (.arr e' l)=>
                   cond (Nat.beq e e')
                     (let out:Prop:=K (.slc S.nx (.lit 0) (n.add k) none) (S.alloc (.arr e ((l.drop o.v).take n.v++new)))
                      o.v+n.v<=l.length/\leA inf.bytes (n.v+k.v)
                      (match c with
                       |none=>cond (Nat.ble S.ro b) (K (.slc S.nx (.lit 0) (n.add k) none) ((S.write b none).alloc (.arr e ((l.drop o.v).take n.v++new)))) False
                       |some c=>
                         let inn:Prop:=o.v+n.v+k.v<=l.length/\cond (Nat.ble S.ro b) (K (.slc b o (n.add k) (some c)) (S.write b (some (.arr e (l.take (o.v+n.v)++new++l.drop (o.v+n.v+k.v)))))) False
                         (match n,k,c with
                          | .lit n,.lit k,.lit c=>cond (Nat.ble (n+k) c) inn out
                          |n,k,c=>(n.v+k.v<=c.v->inn)/\(c.v<n.v+k.v->out)))) False
                 |_=>False)
              |_=>False)) False
     |none=>False)
   |none=>False
  |_=>False
def zde (S:SS) (b v:Nat) (e e':TypeId) (l:List D) (i:NL):SS:=(S.write b (some (.own v e e' (l.set i.v (.int 0))))).alloc (.arr e' (zad l i.v).asList)
def ztE:V->Prop
  | .slc _ _ n _=>0<n.v
  | .dat _ d=>0<d.len
  |_=>False
def zbA (P:Program) (S:SS) (t t2:TypeId) (s x:V) (K:V->SS->Prop):Prop:=
  match s with
  | .osl b v i n=>
    (match S.hp.get b with
     |some (.own v' e e' l)=>cond (Nat.beq v v'&&Nat.ble S.ro b) (i.v<l.length/\n.v=(zad l i.v).len/\(∃r,zad l i.v= .list r)/\ztE x/\zbJ P (zde S b v e e' l i) t t2 (.slc S.nx (.lit 0) n none) x K) False
     |_=>False)
  | .slc b o n c=>
    (match S.hp.get b,c with
     |some (.own v e e' l),none=>
       (match P.underlying t,zvm P e t2,P.info? e with
        |some (.slice e1),some e2,some inf=>
          cond (Nat.beq e1 e&&Nat.beq e e2&&zdF inf&&Nat.ble inf.bytes 4096&&Nat.blt 0 inf.bytes&&Nat.blt 0 inf.size&&Nat.ble S.ro b&&zai P e)
            (ztF P S e t2 x λk new=>0<k.v/\zdl new/\o.v=0/\n.v=l.length/\n.v+k.v<=16777216/\K (.slc S.nx (.lit 0) (n.add k) none) ((S.write b none).alloc (.own v e e' (l++new)))) False
        |_,_,_=>False)
     |some (.own _ e _ l),some _=>cond (Nat.ble S.ro b) (zfI l/\zjE P e/\zbJ P (S.write b (some (.arr e l))) t t2 s x K) False
     |_,_=>zbJ P S t t2 s x K)
  |s=>zbJ P S t t2 s x K
structure zgW (P:Program) (S:SS) (t:TypeId) (len:Nat) (ps:List (Nat×V)) (K:V->SS->Prop):Prop where
  out:False
structure zhE (P:Program) (S:SS) (t t2:TypeId) (s:V) (b2 v2:Nat) (e e':TypeId) (r:List D) (K:V->SS->Prop):Prop where
  out:False
def zcT (P:Program) (S:SS) (t t2:TypeId) (s x:V) (K:V->SS->Prop):Prop:=
  match x with
  | .slc b2 o2 (.sym m2) c2=>
    (match S.hp.get b2 with
     |some (.own _ _ _ _)=>zl1 P S t2 (.slc b2 o2 (.sym m2) c2) λx S=>zbA P S t t2 s x K
     |_=>zbA P S t t2 s x K)
  | .slc b2 o2 n2 _=>
    (match S.hp.get b2 with
     |some (.own v2 e e' [.list r])=>o2.v=0/\n2.v=1/\zhE P S t t2 s b2 v2 e e' r K
     |_=>zbA P S t t2 s x K)
  |x=>zbA P S t t2 s x K
def zg4 (P:Program) (S:SS) (t:TypeId) (a x:V) (K:V->SS->Prop):Prop:=
  match a,x with
  | .oel b v i n,.slc b' o m c=>zl1 P S t (.slc b' o m c) λx S=>zf8 P S t (.oel b v i n) x K
  |a,x=>zf8 P S t a x K
def zfp (P:Program) (S:SS) (t t2:TypeId) (s x:V) (K:V->SS->Prop):Prop:=
  match P.underlying t,P.underlying t2,s,zsj x,zcv x with
  |some (.slice e),some (.int _),.val (.slice none 0 0),some (z,n),some (.i64,_)=>
    (match P.info? e,zct P e with
     |some inf,some (.int .i64 (.ofNat 0))=>cond (zkI P e&&zce P e&&Nat.ble inf.bytes 4096) (0<z/\z<=16777216/\K (.slc S.nx (.lit 0) n none) (S.alloc (.arr e (List.replicate n.v (.int 0))))) False
     |_,_=>False)
  |_,_,_,_,_=>False
def zpz (P:Program) (t:TypeId):Bool:=match P.underlying t with|some (.int _)=>true|_=>false
def ziC (P:Program) (S:SS) (t:TypeId) (x:V) (K:V->SS->Prop):Prop:=
  match P.underlying t,x with
  |some (.slice e),.slc b o n _=>
    (match S.hp.get b,zrc P e with
     |some (.arr e' l),some d=>
       cond (Nat.beq e e'&&zcV P e&&Nat.ble S.ro b)
         (n.v<=16777216/\o.v+n.v<=l.length/\(n.v=0->K (.tup []) S)/\(0<n.v->K (.tup []) (S.write b (some (.arr e (l.take o.v++List.replicate n.v d++l.drop (o.v+n.v))))))) False
     |_,_=>False)
  |_,_=>False
structure zqI (P:Program) (S:SS) (t:TypeId) (d s:V) (K:V->SS->Prop):Prop where
  out:False
def zqG (P:Program) (t:TypeId) (x:V) (K:V->Prop):Prop:=
  match x with
  | .val (.slice none 0 0)=>cond (zai P t) (K (.val (.int .i64 0))) False
  |_=>False
def zlg (x:V) (K:V->SS->Prop) (S:SS):Prop:=
  match x with
  | .slc b o n _=>n.v≠0/\K (.ept b o) S
  | .val (.slice none 0 0)=>K (.val (.pointer none)) S
  |_=>False
structure zqW (P:Program) (S:SS) (t:TypeId) (p n:V) (K:V->SS->Prop):Prop where
  out:False
def zhq (P:Program) (t:TypeId):Bool:=match P.underlying t with|some .string=>true|_=>false
def zqN (P:Program) (t:TypeId) (x:V) (K:V->Prop):Prop:=
  match x with
  | .slc _ _ n _=>cond (zai P t) (match n with| .lit n=>K (.val (.int .i64 n))| .sym n=>K (.int .i64 n)) False
  | .osl _ _ _ n=>cond (zai P t) (match n with| .lit n=>K (.val (.int .i64 n))| .sym n=>K (.int .i64 n)) False
  | .dat _ d=>cond (zai P t) (K (.int .i64 d.len)) False
  | .val (.slice none 0 0)=>cond (zai P t) (K (.val (.int .i64 0))) False
  | .str s=>cond (zhq P t) (K (.int .i64 s.length)) False
  | .val (.string b)=>cond (zhq P t) (K (.val (.int .i64 b.size))) False
  |_=>False
def zeY (mx:Bool) (args:List V) (K:V->Prop):Prop:=
  match args with
  | [a,b]=>
    match zcv a,zcv b with
    |some (k,x),some (k',y)=>cond (k==k') (cond mx (K (.int k (max x y))) (K (.int k (min x y)))) False
    |_,_=>False
  | [a,b,c]=>
    match zcv a,zcv b,zcv c with
    |some (k,x),some (k',y),some (k'',z)=>cond (mx&&(k==k'&&k==k'')) (K (.int k (max (max x y) z))) False
    |_,_,_=>False
  | [a,b,c,d,e,f]=>
    match zcv a,zcv b,zcv c,zcv d,zcv e,zcv f with
    |some (k,x),some (k1,y),some (k2,z),some (k3,u),some (k4,v),some (k5,w)=>cond (!mx&&(k==k1&&(k==k2&&(k==k3&&(k==k4&&k==k5))))) (K (.int k (min (min (min (min (min x y) z) u) v) w))) False
    |_,_,_,_,_,_=>False
  |_=>False
abbrev Con:=List V->Option (Prop×V)
def V.plain:V->Bool
  | .val v=>zaD v
  | .int _ _| .prop _| .str _=>true
  |_=>false
def V.plain1:V->Bool
  | .agg cs=>cs.all V.plain
  |v=>v.plain
def V.plainR:V->Bool
  | .tup cs=>cs.all V.plain1
  |v=>v.plain1
def V.free:V->Bool
  | .dat _ _| .dpt _ _| .fnd _ _=>true
  |v=>v.plain
def V.free1:V->Bool
  | .agg cs=>cs.all V.free
  |v=>v.free
def V.freeR:V->Bool
  | .tup cs=>cs.all V.free1
  |v=>v.free1
def zvM (P:Program) (S:SS) (t:TypeId) (v:V) (K:V->Prop):Prop:=
  match v with
  | .slc b o n c=>
    (match S.hp.get b with
     |some (.arr e l)=>cond (zax P t e) (o.v+n.v<=l.length/\K (.dat t (.list ((l.drop o.v).take n.v)))) False
     |some (.grd _ e l)=>(match c with|some c=>cond (zax P t e) (o.v+n.v<=l.length/\o.v+c.v<=l.length/\K (.dat t (.list ((l.drop o.v).take n.v)))) False|none=>False)
     |some (.own _ e _ l)=>cond (zax P t e) (o.v+n.v<=l.length/\zfI l/\zjE P e/\K (.dat t (.list ((l.drop o.v).take n.v)))) False
     |_=>False)
  | .osl b v i n=>(match S.hp.get b with|some (.own v' _ e' l)=>cond (Nat.beq v v'&&zax P t e') (i.v<l.length/\n.v=(zad l i.v).len/\(∃r,zad l i.v= .list r)/\K (.dat t (.list (zad l i.v).asList))) False|_=>False)
  | .val (.slice none 0 0)=>cond (zai P t&&zay P t 1) (K (.dat t .nil)) False
  |v=>cond v.freeR (K v) False
def zei (P:Program) (S:SS):List TypeId->List V->(List V->Prop)->Prop
  |_,[],K=>K []
  |t::ts,v::vs,K=>zvM P S t v λv=>zei P S ts vs λvs=>K (v::vs)
  | [],v::vs,K=>cond v.freeR (zei P S [] vs λvs=>K (v::vs)) False
structure Ann where
  hs:Nat:=1
  τ:Type
  slots:SS->Nat->τ->List (Tmp×V)
  blks:SS->Nat->τ->List (Nat×SB)
  inv:SS->Nat->τ->Prop
  meas:SS->Nat->τ->Nat
  dead:SS->List Nat:=λ_=> []
def slI (S:SS) (t:Tmp):Int:=match (S.fr.get t).bind zcv with|some (_,n)=>n|none=>0
def slS (S:SS) (t:Tmp):List UInt8:=match (S.fr.get t).bind zgT with|some p=>p|none=> []
def slD (S:SS) (t:Tmp):D:=match S.fr.get t with|some (.dat _ d)=>d|some (.dpt _ d)=>d|_=> .nil
def bkL (S:SS) (b:Nat):List D:=match S.hp.get b with|some (.arr _ l)=>l|some (.grd _ _ l)=>l|some (.own _ _ _ l)=>l|_=> []
def bkV (S:SS) (b o:Nat):V:=match S.hp.get b with|some (.box _ l)=>(match l[o]? with|some v=>v|none=> .val undef)|_=> .val undef
def bkI (S:SS) (b o:Nat):Int:=match zcv (bkV S b o) with|some (_,n)=>n|none=>0
abbrev SQ:=AEx->SS->Prop
structure Ctx where
  P:Program
  con:FuncId->Option Con
  ora:FuncId->Option Value
  bits:Nat
  ann:FuncId->Nat->Option Ann
  tab:FuncId->Option Con:=λ_=>none
  srt:FuncId->Option ztS:=λ_=>none
  srtC:FuncId->Bool:=λ_=>false
  frz:FuncId->Nat->List (Tmp×Nat×TypeId):=λ_ _=> []
  conF:TypeId->Option (D->Con):=λ_=>none
  join:FuncId->Nat->Option Ann:=λ_ _=>none
  sm:TypeId->Bool:=λ_=>false
  frzT:FuncId->Nat->List (Tmp×TypeId):=λ_ _=> []
  gb:TypeId->Bool:=λ_=>false
  frzJ:FuncId->Nat->List (Tmp×TypeId)×List (Tmp×Nat×TypeId):=λ_ _=>([],[])
  ownB:TypeId->Bool:=λ_=>false
abbrev zdW:=FuncId->Code->SS->SQ->Prop
def zvb (P:Program) (S:SS):List ResultVar->(List V->Prop)->Prop
  | [],K=>K []
  | .tmp t::rs,K=>(match S.fr.get t with|some v=>zvb P S rs λvs=>K (v::vs)|none=>False)
  | .cell a t::rs,K=>(match S.fr.get a with|some a=>ziI P S t a λv=>zvb P S rs λvs=>K (v::vs)|none=>False)
def zjx (args:List V):Nat->T V->T V:=
  List.rec (λ_ t=>t) (λv _ ih n t=>ih (Nat.succ n) (t.put n (some v))) args
def zpw (S:SS) (b:Nat):Bool:=match S.hp.get b with|some .dfr=>true|_=>false
def zxj:List Nat->List Nat->Bool
  | [],[]=>true
  |a::l,b::r=>Nat.beq a b&&zxj l r
  |_,_=>false
def zj4:List Nat->SS->(SS->Prop)->Prop
  | [],S,K=>K S
  |b::l,S,K=>cond (zpw S b&&Nat.ble S.ro b) (zj4 l (S.write b none) K) False
def zdC (C:Ctx) (run:zdW) (g:FuncId) (args:List V) (S:SS) (K:V->SS->Prop):Prop:=
  match cond (Nat.testBit C.bits g) C.P.funcs[g]? none with
  |some fn=>
    match fn.body with
    |some body=>
      cond (Nat.blt fn.ntmps args.length||Nat.blt 1000000 fn.ntmps) False
        (run g body {S with fr:=zjx args 0 .leaf,sz:=fn.ntmps,fl:=S.nx,mks:= []} λe S1=>
          match e with
          | .exit _=>False
          |_=>zj4 S1.mks S1 λS1=>zvb C.P S1 fn.results.toList λvs=>
            match vs with
            | [v]=>K v {S1 with fr:=S.fr,sz:=S.sz,fl:=S.fl,mks:=S.mks}
            |vs=>K (.tup vs) {S1 with fr:=S.fr,sz:=S.sz,fl:=S.fl,mks:=S.mks})
    |none=>False
  |none=>False
structure zqT (P:Program) (f:ztS) (S:SS) (args:List V) (K:V->SS->Prop):Prop where
  out:False
structure zmL (C:Ctx) (run:zdW) (S:SS) (args:List V) (K:V->SS->Prop):Prop where
  out:False
def ziB (C:Ctx) (run:zdW) (g:FuncId) (ts:List TypeId) (args:List V) (S:SS) (K:V->SS->Prop):Prop:=
  match zbV C.P g [undef],args,C.ora g with
  |some _,[x],_=>K x S
  |some _,_,_=>False
  |none,[],some v=>cond (zaD v) (K (.val v) S) False
  |none,args,_=>
   match C.tab g with
   |some c=>(match c args with|some (p,r)=>p/\K r S|none=>False)
   |none=>
    match C.srt g with
    |some f=>zqT C.P f S args K
    |none=>cond (C.srtC g) (zmL C run S args K) (match C.con g with
    |some c=>
      zei C.P S ts args λas=>
        match c as with
        |some (p,.ownr e cp q l)=>cond (args.all V.freeR||zkI C.P e)
            (p/\(q->K (.slc S.nx (.lit 0) (.sym l.length) (cond cp (some (.sym l.length)) none)) (S.alloc (.arr e l)))/\(¬q->K (.val (.slice none 0 0)) S)) False
        |some (p,r)=>cond (r.freeR&&(r.plainR||args.all V.freeR)) (p/\K r S) (zwl C.P ts args S λbs S1=>match c bs with|some (p1,r1)=>p1/\cond (r1.freeR&&bs.all V.freeR) (K r1 S1) False|none=>False)
        |none=>False
    |none=>zdC C run g args S K)
def zlh (C:Ctx) (g:FuncId) (args:List V) (S:SS) (K:V->SS->Prop) (no:Prop):Prop:=no
def ztI (C:Ctx) (t:TypeId) (ts:List TypeId) (d:D) (args:List V) (S:SS) (K:V->SS->Prop):Prop:=
  match C.conF t with
  |some c=>zei C.P S ts args λas=>
      match c d as with
      |some (p,r)=>cond r.plainR (p/\K r S) False
      |none=>False
  |none=>False
def zd7 {α:Type} (l:List (Nat×α)):T α->T α:=List.rec (λt=>t) (λx _ ih t=>ih (t.put x.1 (some x.2))) l
def zbn:Code->Bool
  | .rangeFunc _ _ _ _=>false
  | .seq a b=>zbn a&&zbn b
  | .cond _ a b=>zbn a&&zbn b
  | .block _ b=>zbn b
  | .loop b=>zbn b
  | .scope b=>zbn b
  |_=>true
def zpT (b:Nat) (l:List Nat):Bool:=l.all λx=> !Nat.beq x b
def zrp (S S2:SS) (b:Nat) (k:SB):SS:={S2 with fr:=S.fr,sz:=S.sz,fl:=S.fl,mks:=S.mks,hp:=S2.hp.put b (some k)}
def ziP (run:zdW) (b:Nat) (args:List V) (S:SS) (K:V->SS->Prop):Prop:=
  match S.hp.get b with
  |some (.lp .ready g fr sz ps as bd)=>
    cond (Nat.beq args.length ps.toList.length&&Nat.ble S.ro b&&Nat.blt b S.nx&&ps.toList.all (λd=>Nat.blt d sz)&&zbn as&&zbn bd)
      (run g as {S with fr:=zd7 (ps.toList.zip args) fr,sz:=sz,fl:=S.nx,mks:= []} λe S1=>
        match e with
        | .normal=>cond (zpT b S1.wr)
            (run g bd {S1 with hp:=S1.hp.put b (some (.lp .busy g fr sz ps as bd))} λe2 S2=>cond (zpT b S2.wr)
              (match e2 with
               | .normal=>K (.val (.bool true)) (zrp S S2 b (.lp .ready g fr sz ps as bd))
               | .ret=>K (.val (.bool false)) {zrp S S2 b (.lp .ret g fr sz ps as bd) with wr:=b::S2.wr}
               | .exit id=>K (.val (.bool false)) {zrp S S2 b (.lp (.exit id) g fr sz ps as bd) with wr:=b::S2.wr}) False) False
        |_=>False) False
  |_=>False
def zgX (C:Ctx) (run:zdW) (c:Call) (S:SS) (K:V->SS->Prop):Prop:=
  zkf S c.args.toList λargs=>
    match c.callee with
    | .builtin .len=>(match args,c.argTypes.toList with| [x],t::_=>zqN C.P t x λv=>K v S|_,_=>False)
    | .builtin .append=>(match args,c.argTypes.toList with| [s,x],t::t2::_=>cond (zpz C.P t2) (zfp C.P S t t2 s x K) (zcT C.P S t t2 s x K)|_,_=>False)
    | .builtin .copy=>(match args,c.argTypes.toList with| [d,x],t::_=>zqI C.P S t d x K|_,_=>False)
    | .builtin .clear=>(match args,c.argTypes.toList with| [x],t::_=>ziC C.P S t x K|_,_=>False)
    | .builtin .unsafeSliceData=>(match args with| [x]=>zlg x K S|_=>False)
    | .builtin .unsafeString=>(match args,c.argTypes.toList with| [p,n],t::_=>zqW C.P S t p n K|_,_=>False)
    | .builtin .min=>zeY false args λv=>K v S
    | .builtin .max=>zeY true args λv=>K v S
    | .value f=>zbj S f λfv=>match fv with
      | .fn g first cap=>zlh C g (first++(args++cap)) S K (ziB C run g (cond first.isEmpty c.argTypes.toList []) (first++(args++cap)) S K)
      | .fnd t d=>ztI C t c.argTypes.toList d args S K
      | .yld b=>ziP run b args S K
      |_=>False
    | .builtin .cap=>(match args,c.argTypes.toList with| [x],t::_=>zqG C.P t x λv=>K v S|_,_=>False)
    |_=>False
def zu1 (P:Program) (e:TypeId):Bool:=match P.underlying e with|some (.struct fs)=>zfK P fs.toList 0|_=>false
def ziJ (P:Program) (S:SS) (t:TypeId) (a:V) (K:V->Prop):Prop:=
  match a with
  | .epf b i e f=>
    (match S.hp.get b,zgs P e f with
     |some (.arr e' l),some fd=>cond (Nat.beq e e'&&Nat.beq fd.type t&&zu1 P e&&zkG P t) (i.v<l.length/\za9 P t ((zad l i.v).fld f) K) False
     |_,_=>False)
  |a=>ziI P S t a K
def zf7 (S:SS) (parts:List (Nat×Operand)):(List (Nat×V)->Prop)->Prop:=
  List.rec (λK=>K []) (λx _ ih K=>zbj S x.2 λv=>ih λl=>K ((x.1,v)::l)) parts
def ziK (C:Ctx) (run:zdW) (o:Op) (S:SS) (K:V->SS->Prop):Prop:=
  match o with
  | .call c=>zgX C run c S K
  | .move x| .assign x=>zbj S x λv=>K v S
  | .pick c a b=>zbj S c λc=>zbj S a λa=>zbj S b λb=>zln c a b λv=>K v S
  | .alloc e=>ziv C.P (C.sm e) S e K
  | .box e x=>zbj S x λv=>cond (C.gb e) (zk9 C.P S e v K) (zqE S e v K)
  | .build t parts=>zf7 S parts.toList λps=>ziA C.P t ps λv=>K v S
  | .buildSlice t len parts=>zf7 S parts.toList λps=>cond (C.ownB t) (zgW C.P S t len ps K) (zf1 C.P (zs7 C.P t) ps S λps S=>zc7 C.P S t len ps K)
  | .load t a=>zbj S a λa=>ziJ C.P S t a λv=>K v S
  | .store t a x=>zbj S a λa=>zbj S x λx=>zg4 C.P S t a x K
  | .nilCheck x=>zbj S x λx=>zeq x λv=>K v S
  | .makeFunc (.func f) first cap=>zkf S first.toList λfs=>zkf S cap.toList λcs=>K (.fn f fs cs) S
  | .makeSlice t l c=>zbj S l λl=>zbj S c λc=>zdD C.P S t l c K
  | .slice t x lo hi mx=>zbj S x λx=>zsS S lo λlo=>zsS S hi λhi=>zsS S mx λmx=>zg3 C.P S t x lo hi mx K
  | .fieldAddr s x f=>zbj S x λx=>zdA C.P s x f λv=>K v S
  | .field t x f=>zbj S x λx=>zmF C.P t x f λv=>K v S
  | .indexAddr t x ix=>zmH C.P S t x ix λv=>K v S
  | .index t x ix=>zbj S x λx=>zbj S ix λix=>ziH C.P t x ix λv=>K v S
  | .extract t ix=>zbj S t λt=>zfq t ix λv=>K v S
  | .binOp op t x y _=>zbj S x λa=>zbj S y λb=>zqC C.P op t x y a b λv=>K v S
  | .unOp op _ x=>zbj S x λx=>zvs op x λv=>K v S
  | .convert s d x=>zbj S x λx=>ziD C.P S s d x λv=>K v S
  |_=>False
def zcD (S:SS) (ops:Array Oper) (o:Oper) (yes no:SS->Prop):Prop:=
  match o.guard with
  |none=>yes S
  |some (j,want)=>
    match (ops[j]?).bind (·.dst) with
    |some d=>
      (match S.fr.get d with
       |some (.val (.bool b))=>cond (b==want) (yes S) (no S)
       |some (.val (.tuple _))=>no S
       |some (.prop p)=>
         cond want ((p->yes {S with fr:=S.fr.put d (some (.val (.bool true)))})/\(¬p->no {S with fr:=S.fr.put d (some (.val (.bool false)))}))
           ((¬p->yes {S with fr:=S.fr.put d (some (.val (.bool false)))})/\(p->no {S with fr:=S.fr.put d (some (.val (.bool true)))}))
       |_=>False)
    |none=>False
def zj6 (C:Ctx) (run:zdW) (ops:Array Oper):List Oper->SS->(SS->Prop)->Prop:=
  λl=>List.rec (λS K=>K S) (λo _ ih S K=>
    zcD S ops o (λS=>ziK C run o.op S λv S1=>S1.put o.dst (some v) λS2=>ih S2 K) (λS=>S.put o.dst (some (.val undef)) λS2=>ih S2 K)) l
def zm1 (t:Nat) (o:Oper):Bool:=match o.dst with|some d=>Nat.beq d t|none=>false
def zep (P:Program) (ops:Array Oper) (ts:List TypeId):List (Nat×Operand)->SS->(SS->Prop)->Prop
  | [],S,K=>K S
  |x::l,S,K=>
    match x.2 with
    | .tmp t=>
      (match S.fr.get t with
       |some (.slc b o n c)=>
         (match ts with
          |ty::_=>cond (ops.toList.any (zm1 t)) (zl1 P S ty (.slc b o n c) λu S1=>zep P ops ts l {S1 with fr:=S1.fr.put t (some u)} K) False
          | []=>zep P ops ts l S K)
       |_=>zep P ops ts l S K)
    |_=>zep P ops ts l S K
def zfr (P:Program) (ops:Array Oper):List (Tmp×TypeId)->SS->(SS->Prop)->Prop
  | [],S,K=>K S
  |x::l,S,K=>
    cond (ops.toList.any (zm1 x.1))
      (match S.fr.get x.1 with
       |some (.slc b o n c)=>zl1 P S x.2 (.slc b o n c) λu S1=>zfr P ops l {S1 with fr:=S1.fr.put x.1 (some u)} K
       |some (.val (.slice none 0 0))=>cond (zai P x.2&&zay P x.2 1) (zfr P ops l {S with fr:=S.fr.put x.1 (some (.dat x.2 .nil))} K) False
       |some (.dat _ _)=>zfr P ops l S K
       |_=>False) False
def ziM (P:Program) (ops:Array Oper) (o:Op) (S:SS) (K:SS->Prop):Prop:=
  match o with
  | .buildSlice t _ parts=>zep P ops (zs7 P t) parts.toList S K
  |_=>K S
def zmJ (C:Ctx) (run:zdW) (ops:Array Oper):List Oper->SS->(SS->Prop)->Prop:=
  λl=>List.rec (λS K=>K S) (λo _ ih S K=>
    zcD S ops o (λS=>ziM C.P ops o.op S λS=>ziK C run o.op {S with ro:=S.nx} λv S1=>{S1 with ro:=S.ro}.put o.dst (some v) λS2=>ih S2 K) (λS=>S.put o.dst (some (.val undef)) λS2=>ih S2 K)) l
def SB.isRow:SB->Bool
  | .lp _ _ _ _ _ _ _| .dfr=>false
  |_=>true
def zcd (S:SS) (b:Nat):Bool:=match S.hp.get b with|some k=>k.isRow|none=>false
def zr0:V->Option Nat
  | .ptr b _| .ept b _| .epf b _ _ _=>some b
  |_=>none
def zut:V->Option Nat
  | .slc b _ _ _=>some b
  |_=>none
def zkA (f:V->Option Nat) (S:SS) (x:Operand) (K:Nat->Prop):Prop:=zbj S x λa=>match f a with|some b=>cond (zcd S b) (K b) False|none=>False
def ziF (S:SS) (o:Op) (K:List Nat->List Nat->Prop):Prop:=
  match o with
  | .load _ a=>zkA zr0 S a λb=>K [b] []
  | .store _ a _=>zkA zr0 S a λb=>K [] [b]
  | .convert _ _ x=>zbj S x λx=>match zcv x with|some _=>K [] []|none=>False
  | .slice _ x _ _ _=>zkA zut S x λb=>K [b] []
  |_=>K [] []
def zxD (C:Ctx) (run:zdW) (ops:Array Oper):List Oper->SS->List Nat->List Nat->(SS->Prop)->Prop:=
  λl=>List.rec (λS ld st K=>cond ((ld.all λb=>st.all λb'=> !Nat.beq b b')&&(ld.all λb=>zcd S b)&&(st.all λb=>zcd S b)) (K S) False) (λo _ ih S ld st K=>
    zcD S ops o (λS=>cond (ld.all λb=>zcd S b) (ziF S o.op λl1 s1=>ziK C run o.op S λv S1=>S1.put o.dst (some v) λS2=>ih S2 (l1++ld) (s1++st) K) False) (λS=>S.put o.dst (some (.val undef)) λS2=>ih S2 ld st K)) l
def zqJ (C:Ctx) (run:zdW) (ops:Array Oper) (W:Nat) (S:SS) (Q:SQ):Prop:=
  cond (zsR ops (zbK (zfL ops) (zaX ops.toList []) W) W)
    False
    (cond (zly ops W) (cond (zgo ops (zaX ops.toList [])) (zxD C run ops ops.toList S [] [] λS1=>Q .normal S1) False) (cond (zgn ops (zaX ops.toList []) W)
      (zmJ C run ops (ops.toList.take W) S λS1=>zj6 C run ops (ops.toList.drop W) S1 λS2=>Q .normal S2) False))
def zg2 (C:Ctx) (run:zdW) (ops:Array Oper) (draw:Bool) (S:SS) (Q:SQ):Prop:=
  cond draw (zqJ C run ops (zbK (zfE ops) (zaX ops.toList []) ops.size) S Q)
    (zj6 C run ops ops.toList S λS1=>Q .normal S1)
def zdn:Code->Option Nat
  | .region id _ _=>some id
  | .seq a b=>(match zdn a with|some i=>some i|none=>zdn b)
  | .cond _ a b=>(match zdn a with|some i=>some i|none=>zdn b)
  | .block _ b| .loop b| .scope b=>zdn b
  |_=>none
def zuh:Operand->List Tmp| .tmp t=> [t]|_=> []
def zal:Code->List Tmp
  | .region _ ops _=>ops.toList.filterMap (·.dst)++ops.toList.filterMap (λo=>match o.guard with|some (j,_)=>(ops[j]?).bind (·.dst)|none=>none)
  | .seq a b=>zal a++zal b
  | .cond c a b=>zuh c++(zal a++zal b)
  | .block _ b| .loop b| .scope b=>zal b
  |_=> []
def zbF {α:Type} (l:List Nat):T α->T α:=List.rec (λt=>t) (λn _ ih t=>ih (t.put n none)) l
def zq6 (k:SB) (n:Nat):Nat:=match k with| .own v _ _ _=>cond (Nat.ble n v) (Nat.succ v) n|_=>n
def zni:List (Nat×SB)->Nat->Nat
  | [],n=>n
  |x::l,n=>zni l (zq6 x.2 (cond (Nat.ble n x.1) (Nat.succ x.1) n))
def zc0 (S:SS) (b:Code) (slots:List (Tmp×V)) (blks:List (Nat×SB)):SS:=
  {S with fr:=zd7 slots (zbF (zal b) S.fr),hp:=zd7 blks S.hp,nx:=zni blks S.nx,wr:= []}
def zyA:V->V->List (Nat×Nat)
  | .slc b _ _ _,.slc b0 _ _ _=> [(b0,b)]
  |_,_=> []
def zmu:Option NL->Option NL->Prop
  |none,none=>True
  |some a,some b=>a.v=b.v
  |_,_=>False
def zcf (v v0:V):Prop:=
  match v0 with
  | .int k0 n0=>(match zcv v with|some (k,n)=>cond (k==k0) (n=n0) False|none=>False)
  | .prop p0=>(match zd6 v with|some p=>(p↔p0)|none=>False)
  | .str s0=>(match zgT v with|some s=>s=s0|none=>False)
  | .dat t0 d0=>
    (match v with
     | .dat t d=>cond (Nat.beq t t0) (d=d0) False
     |_=>False)
  | .dpt t0 d0=>(match v with| .dpt t d=>cond (Nat.beq t t0) (d=d0) False|_=>False)
  | .fnd t0 d0=>(match v with| .fnd t d=>cond (Nat.beq t t0) (d=d0) False|_=>False)
  | .val (.slice none 0 0)=>(match v with| .val (.slice none 0 0)=>True|_=>False)
  | .val (.pointer none)=>(match v with| .val (.pointer none)=>True|_=>False)
  | .val (.int k0 n0)=>(match v with| .val (.int k n)=>cond (k==k0) (n=n0) False|_=>False)
  | .ptr b0 o0=>(match v with| .ptr b o=>cond (Nat.beq b b0&&Nat.beq o o0) True False|_=>False)
  | .slc _ o0 n0 c0=>(match v with| .slc _ o n c=>o.v=o0.v/\n.v=n0.v/\zmu c c0|_=>False)
  | .osl b0 v0 i0 n0=>(match v with| .osl b v i n=>cond (Nat.beq b b0&&Nat.beq v v0) (i.v=i0.v/\n.v=n0.v) False|_=>False)
  |_=>False
def ziR (ren:Nat->Nat) (v v0:V):Prop:=
  match v0 with
  | .slc b0 o0 n0 c0=>(match v with| .slc b o n c=>cond (Nat.beq (ren b0) b) (zcf (.slc b o n c) (.slc b0 o0 n0 c0)) False|_=>False)
  |v0=>zcf v v0
def zfA (ren:Nat->Nat) (k k0:SB):Prop:=
  match k,k0 with
  | .arr e l,.arr e0 l0=>cond (Nat.beq e e0) (l=l0) False
  | .grd a e l,.grd a0 e0 l0=>cond (Nat.beq a a0&&Nat.beq e e0) (l=l0) False
  | .own _ e e' l,.own _ e0 e0' l0=>cond (Nat.beq e e0&&Nat.beq e' e0') (l=l0) False
  | .arr e l,.own _ e0 _ l0=>cond (Nat.beq e e0) (l=l0/\zdl l) False
  | .box e cs,.box e0 cs0=>cond (Nat.beq e e0) (vs ren cs cs0) False
  |_,_=>False
  where vs (ren:Nat->Nat):List V->List V->Prop
  | [],[]=>True
  |v::l,v0::l0=>ziR ren v v0/\vs ren l l0
  |_,_=>False
def zdQ (S:SS) (ren:Nat->Nat):List (Tmp×V)->Prop
  | []=>True
  | (t,v0)::l=>
    (match S.fr.get t with
     |some v=>(match v,v0 with| .slc b _ _ _,.slc b0 _ _ _=>cond (Nat.beq (ren b0) b) (zcf v v0) False|v,v0=>zcf v v0)
     |none=>False)/\zdQ S ren l
def zxy (S:SS):List (Tmp×V)->List (Nat×Nat)
  | []=> []
  | (t,v0)::l=>(match S.fr.get t with|some v=>zyA v v0|none=> [])++zxy S l
def zwP:List V->List V->List (Nat×Nat)
  |v::l,v0::l0=>zyA v v0++zwP l l0
  |_,_=> []
def zwO (S:SS):List (Nat×SB)->List (Nat×Nat)
  | []=> []
  | (b0,k0)::l=>(match S.hp.get b0,k0 with|some (.box _ cs),.box _ cs0=>zwP cs cs0|_,_=> [])++zwO S l
def zkX (S:SS) (slots:List (Tmp×V)) (blks:List (Nat×SB)):List (Nat×Nat):=zxy S slots++zwO S blks
def zaQ (l:List (Nat×Nat)) (b:Nat):Nat:=match l with| []=>b| (x,y)::l=>cond (Nat.beq x b) y (zaQ l b)
def zey (S:SS) (ren:Nat->Nat):List (Nat×SB)->Prop
  | []=>True
  | (b0,k0)::l=>(match S.hp.get (ren b0) with|some k=>zfA ren k k0|none=>False)/\zey S ren l
def zgc (S0:SS) (blks:List (Nat×SB)) (wr:List Nat):Bool:=wr.all λb=>Nat.ble S0.nx b|| (blks.any (λx=>Nat.beq x.1 b)|| (match S0.hp.get b with|none=>true|some _=>false))
def V.refs:V->List Nat
  | .ptr b _=> [b]
  | .ept b _=> [b]
  | .slc b _ _ _=> [b]
  | .epf b _ _ _=> [b]
  | .agg cs=>refsL cs
  | .tup cs=>refsL cs
  | .fn _ fs cs=>refsL fs++refsL cs
  | .osl b v _ _=> [b,v]
  | .oel b v _ _=> [b,v]
  | .yld b=> [b]
  |_=> []
  where refsL:List V->List Nat
  | []=> []
  |v::l=>V.refs v++refsL l
def T.toL {α:Type} (t:T α):List α:=T.rec [] (λ_ v _ hl hr=>hl++(v.toList++hr)) t
def SB.refs:SB->List Nat
  | .lp _ _ fr _ _ _ _=>V.refs.refsL fr.toL
  | .dfr=> []
  | .box _ cs=>V.refs.refsL cs
  | .arr _ _| .grd _ _ _=> []
  | .own v _ _ _=> [v]
def T.all {α:Type} (p:Nat->α->Bool) (t:T α):(Nat->Nat)->Bool:=
  T.rec (λ_=>true) (λ_ v _ hl hr f=>(match v with|some a=>p (f 0) a|none=>true)&&hl (λn=>f (2*n+1))&&hr (λn=>f (2*n+2))) t
def refOK (S0:SS) (ren:List (Nat×Nat)) (blks:List (Nat×SB)) (v:V):Bool:=
  match v with
  | .slc b _ _ _=>blks.any λy=>Nat.beq y.1 b
  |v=>v.refs.all λr=>Nat.blt r S0.nx&&Nat.beq (zaQ ren r) r
def SB.refOK (S0:SS) (ren:List (Nat×Nat)) (blks:List (Nat×SB)) (k:SB):Bool:=
  match k with
  | .box _ cs=>cs.all (Go.Ev.refOK S0 ren blks)
  | .arr _ _| .grd _ _ _| .own _ _ _ _=>true
  | .lp _ _ _ _ _ _ _| .dfr=>false
def zu6 (S0:SS) (blks:List (Nat×SB)):Bool:=
  blks.all λy=>match y.2 with| .own v _ _ _=>Nat.ble S0.nx v&&blks.all (λy'=>Nat.beq y'.1 y.1|| (match y'.2 with| .own v' _ _ _=> !Nat.beq v v'|_=>true))|_=>true
def ztl (S:SS) (b:Nat):Bool:=match S.hp.get b with|none=>true|some _=>false
def zsr (S0:SS) (ren:List (Nat×Nat)) (blks:List (Nat×SB)) (slots:List (Tmp×V)) (cleared:T V):Bool:=
  ren.all (λx=>blks.any λy=>Nat.beq y.1 x.1)&&
  (ren.all (λx=>Nat.beq x.1 x.2|| (Nat.ble S0.fl x.1&&(Nat.ble S0.nx x.2||Nat.ble S0.ro x.2&&ztl S0 x.2)&&blks.all (λy=>Nat.beq y.1 x.1|| !Nat.beq (zaQ ren y.1) x.2)))&&
  (ren.all (λx=>Nat.beq (zaQ ren x.1) x.2)&&
  (T.all (λ_ v=>v.refs.all λr=>Nat.blt r S0.nx&&Nat.beq (zaQ ren r) r) cleared (λn=>n)&&
  (T.all (λb k=>blks.any (λy=>Nat.beq y.1 b)||k.refs.all λr=>Nat.blt r S0.nx&&Nat.beq (zaQ ren r) r) S0.hp (λn=>n)&&
  (slots.all (λx=>match x.2 with| .slc _ _ _ _=>true|v=>v.refs.all λr=>Nat.blt r S0.nx&&Nat.beq (zaQ ren r) r)&&
  blks.all (λy=>y.2.refOK S0 ren blks))))))
def mkM (S0 S1:SS) (ren:List (Nat×Nat)) (blks:List (Nat×SB)):Bool:=
  zxj S1.mks S0.mks&&S0.mks.all λb=>zpw S0 b&&Nat.beq (zaQ ren b) b&& !(blks.any λy=>Nat.beq y.1 b)
def zfH (S0 S1:SS) (b:Code) (slots:List (Tmp×V)) (blks:List (Nat×SB)):Prop:=
  cond (zgc S0 blks S1.wr&&blks.all (λy=>Nat.ble S0.ro y.1)&&slots.all (λx=>(zal b).any λt=>Nat.beq t x.1)&&zsr S0 (zkX S1 slots blks) blks slots (zbF (zal b) S0.fr)&&zu6 S0 blks&&mkM S0 S1 (zkX S1 slots blks) blks)
    (zdQ S1 (zaQ (zkX S1 slots blks)) slots/\zey S1 (zaQ (zkX S1 slots blks)) blks) False
def LIM:Nat:=100000000000000
def orN:Nat->(Nat->Prop)->Prop
  |0,_=>False
  |1,p=>p 0
  |n+2,p=>orN (n+1) p\/p (n+1)
def zvW:Nat->(Nat->Prop)->Prop
  |0,_=>True
  |1,p=>p 0
  |n+2,p=>zvW (n+1) p/\p (n+1)
def zjG (l:List Nat) (t:T SB):T SB:=match l with| []=>t|b::l=>zjG l (t.put b none)
def zjF (l:List Nat) (S:SS):SS:={S with hp:=zjG l S.hp,wr:=l++S.wr}
def zsK (A:Ann) (ih:Code->SS->SQ->Prop) (b:Code) (S S0:SS) (Q:SQ):Prop:=
  (orN A.hs λi=>∃x,A.inv S i x/\zfH S0 {S with wr:= []} b (A.slots S i x) (A.blks S i x))/\
  zvW A.hs λi=>∀x,A.inv S i x->A.meas S i x<LIM/\ih b (zc0 S0 b (A.slots S i x) (A.blks S i x)) λe S1=>
    match e with
    | .normal=>orN A.hs λi'=>∃y,A.inv S i' y/\A.meas S i' y<A.meas S i x/\zfH S0 {S1 with wr:=S1.wr++(A.blks S i x).map (·.1)} b (A.slots S i' y) (A.blks S i' y)
    |e=>Q e {S1 with wr:=S1.wr++((A.blks S i x).map (·.1)++S0.wr)}
def zqP (A:Ann) (ih:Code->SS->SQ->Prop) (b:Code) (S:SS) (Q:SQ):Prop:=
  cond ((A.dead S).all λb=>Nat.ble S.ro b) (zsK A ih b S (zjF (A.dead S) S) Q) False
def zfs (P:Program) (ws:List Tmp):List (Tmp×TypeId)->SS->(SS->Prop)->Prop
  | [],S,K=>K S
  |x::l,S,K=>
    cond (ws.any (Nat.beq x.1))
      (match S.fr.get x.1 with
       |some (.slc b o n c)=>zl1 P S x.2 (.slc b o n c) λu S1=>zfs P ws l {S1 with fr:=S1.fr.put x.1 (some u)} K
       |some (.val (.slice none 0 0))=>cond (zai P x.2&&zay P x.2 1) (zfs P ws l {S with fr:=S.fr.put x.1 (some (.dat x.2 .nil))} K) False
       |some (.dat _ _)=>zfs P ws l S K
       |_=>False) False
def zuv (P:Program) (S:SS) (t:TypeId) (v:V) (K:V->SS->Prop):Prop:=
  match v with
  | .val (.slice none 0 0)=>cond (zai P t&&zay P t 1) (K (.dat t .nil) S) False
  |v=>zl1 P S t v K
def ziG (P:Program):List (Tmp×Nat×TypeId)->SS->(SS->Prop)->Prop
  | [],S,K=>K S
  |x::l,S,K=>
    match S.fr.get x.1 with
    |some (.ptr b 0)=>
      (match S.hp.get b with
       |some (.box _ cs)=>
         (match cs[x.2.1]? with
          |some v=>cond (Nat.ble S.ro b) (zuv P S x.2.2 v λu S1=>match S1.hp.get b with|some (.box be cs1)=>ziG P l (S1.write b (some (.box be (cs1.set x.2.1 u)))) K|_=>False) False
          |none=>False)
       |_=>False)
    |_=>False
def zqM (P:Program) (z:List (Tmp×TypeId)×List (Tmp×Nat×TypeId)) (A:Ann) (ih:Code->SS->SQ->Prop) (a b:Code) (S:SS) (Q:SQ):Prop:=
  (ih a {S with wr:= []} λe S1=>
    match e with
    | .normal=>zfs P (zal a) z.1 S1 λS1=>ziG P z.2 S1 λS1=>orN A.hs λi=>∃x,A.inv S i x/\zfH S S1 a (A.slots S i x) (A.blks S i x)
    |e=>Q e {S1 with wr:=S1.wr++S.wr})/\
  zvW A.hs λi=>∀x,A.inv S i x->ih b (zc0 S a (A.slots S i x) (A.blks S i x)) λe S1=>Q e {S1 with wr:=S1.wr++((A.blks S i x).map (·.1)++S.wr)}
def zld (S:SS) (c:Operand) (yes no:SS->Prop):Prop:=
  match c with
  | .tmp t=>
    (match S.fr.get t with
     |some (.val (.bool b))=>cond b (yes S) (no S)
     |some (.prop p)=>(p->yes {S with fr:=S.fr.put t (some (.val (.bool true)))})/\(¬p->no {S with fr:=S.fr.put t (some (.val (.bool false)))})
     |_=>False)
  | .const (.bool b)=>cond b (yes S) (no S)
  |_=>False
def ziN (C:Ctx) (out:zdW) (g:FuncId) (f:Operand) (ps:Array Tmp) (as bd:Code) (S:SS) (Q:SQ):Prop:=
  zbj S f λfv=>
    match fv with
    | .fn gf first cap=>
      zdC C out gf (first++ .yld (Nat.succ S.nx)::cap) ((S.alloc .dfr).alloc (.lp .ready g S.fr S.sz ps as bd)) λ_ S3=>
        cond (Nat.ble S3.ro (Nat.succ S.nx)) (match S3.hp.get (Nat.succ S.nx) with
           |some (.lp .ready _ _ _ _ _ _)=>Q .normal {S3.write (Nat.succ S.nx) none with mks:=S.nx::S3.mks}
           |some (.lp .ret _ _ _ _ _ _)=>Q .ret {S3.write (Nat.succ S.nx) none with mks:=S.nx::S3.mks}
           |some (.lp (.exit id) _ _ _ _ _ _)=>Q (.exit id) {S3.write (Nat.succ S.nx) none with mks:=S.nx::S3.mks}
           |_=>False) False
    |_=>False
def zlr (C:Ctx) (out:zdW) (g:FuncId) (ih:Code->SS->SQ->Prop) (c:Code) (S:SS) (Q:SQ):Prop:=
  match c with
  | .skip| .label _=>Q .normal S
  | .seq a b=>
    (match (zdn b).bind (C.join g) with
     |none=>ih a S λe S1=>match e with| .normal=>ih b S1 Q|e=>Q e S1
     |some A=>zqM C.P (match zdn b with|some id=>C.frzJ g id|none=>([],[])) A ih a b S Q)
  | .cond c a b=>zld S c (λS=>ih a S Q) (λS=>ih b S Q)
  | .block id b=>ih b S λe S1=>match e with| .exit id'=>cond (Nat.beq id' id) (Q .normal S1) (Q (.exit id') S1)|e=>Q e S1
  | .loop b=>
    (match (zdn b).bind (C.ann g) with
     |some A=>zqP A ih b S Q
     |none=>ih b S λe S1=>match e with| .normal=>ih (.loop b) S1 Q|e=>Q e S1)
  | .exit id=>Q (.exit id) S
  | .ret=>Q .ret S
  | .scope b=>ih b S Q
  | .region id ops draw=>cond (zcZ ops) False (zg2 C out ops draw S λe S1=>zmG C.P (C.frz g id) S1 λS2=>zfr C.P ops (C.frzT g id) S2 λS3=>Q e S3)
  | .rangeFunc f ps as bd=>ziN C out g f ps as bd S Q
  |_=>False
def zvr (C:Ctx) (out:zdW) (k:Nat):zdW:=λg=>Nat.rec (λ_ _ _=>False) (λ_ ih=>zlr C out g ih) k
def zmK (C:Ctx) (d:Nat):zdW:=Nat.rec (λ_ _ _ _=>False) (λ_ ih=>zvr C ih 100000) d
def zoV (f:V->Option (TypeId×D)):List V->Option (List TypeId×List D)
  | []=>some ([],[])
  |v::vs=>match f v,zoV f vs with|some (t,d),some (ts,ds)=>some (t::ts,d::ds)|_,_=>none
def zpx (P:Program) (e:TypeId):Bool:=match P.underlying e with|some (.func _ _ _)=>zay P e 1|_=>false
def zzr (P:Program) (fnD:V->Option D) (e:TypeId) (cs:List V):Option D:=
  match cs with
  | [.fn g fs caps]=>cond (zpx P e) (fnD (.fn g fs caps)) none
  |cs=>zdX P 20 e cs
def fnD (P:Program) (S:SS):Nat->V->Option D
  |_,.fnd _ d=>some d
  |n+1,.fn g [] caps=>
    (match zoV (λv=>match v with
      | .ptr b 0=>(match S.hp.get b with|some (.box e cs)=>cond (zkl P e) (match zzr P (fnD P S n) e cs with|some d=>some (e,d)|none=>none) none|_=>none)
      | .dpt t d=>some (t,d)
      |_=>none) caps with
     |some (ts,ds)=>some (.fn g ts ds)
     |none=>none)
  |_,_=>none
def zxz (P:Program) (S:SS) (v r:V):Prop:=
  match r with
  | .dat t d=>
    (match v with
     | .slc b o n _=>
       (match S.hp.get b with
        |some (.arr e l)=>cond (zax P t e) (o.v+n.v<=l.length/\ .list ((l.drop o.v).take n.v)=d) False
        |some (.own _ e _ l)=>cond (zax P t e) (o.v+n.v<=l.length/\zfI l/\zjE P e/\ .list ((l.drop o.v).take n.v)=d) False
        |_=>False)
     | .val (.slice none 0 0)=>cond (zai P t&&zay P t 1) (.nil=d) False
     |v=>zcf v r)
  | .fnd _ d=>(match fnD P S 8 v with|some d'=>d'=d|none=>False)
  |r=>cond r.free (zcf v r) False
def zyC (P:Program) (S:SS):List V->List V->Prop
  | [],[]=>True
  |v::vs,r::rs=>zxz P S v r/\zyC P S vs rs
  |_,_=>False
def zxA (P:Program) (S:SS) (v r:V):Prop:=
  match r with
  | .agg rs=>(match v with| .agg vs=>zyC P S vs rs|_=>False)
  |r=>zxz P S v r
def zvd (P:Program) (S:SS):List V->List V->Prop
  | [],[]=>True
  |v::vs,r::rs=>zxA P S v r/\zvd P S vs rs
  |_,_=>False
def zyB (S:SS) (v:V) (e:TypeId) (cp:Bool) (q:Prop) (l:List D):Prop:=
  match v with
  | .val (.slice none 0 0)=>¬q
  | .slc b o n none=>(match S.hp.get b with|some (.arr e' l')=>cond (Nat.beq e e'&& !cp) (q/\o.v=0/\n.v=l.length/\l'=l) False|_=>False)
  | .slc b o n (some c)=>(match S.hp.get b with|some (.arr e' l')=>cond (Nat.beq e e'&&cp) (q/\o.v=0/\n.v=l.length/\c.v=l.length/\l'=l) False|_=>False)
  |_=>False
def zik (P:Program) (S:SS) (v r:V):Prop:=
  match r with
  | .ownr e cp q l=>zyB S v e cp q l
  | .tup rs=>(match v with| .tup vs=>zvd P S vs rs|_=>False)
  |r=>zxA P S v r
def zag (C:Ctx) (d:Nat) (g:FuncId) (args:List V) (r:V):Prop:=
  zdC C (zmK C d) g args {fr:= .leaf,sz:=0,hp:= .leaf,nx:=0,ro:=0,fl:=0,wr:= []} λv S=>zik C.P S v r
end
end Go.Ev
