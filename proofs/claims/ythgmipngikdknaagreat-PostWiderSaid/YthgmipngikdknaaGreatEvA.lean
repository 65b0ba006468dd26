import Derived.RangeFuncIn
import Derived.KernelRfl
import Derived.Below
import Derived.Tactics
import Derived.Deep.MidRow
import Derived.Orders
import Derived.Laws.BytesString
import Derived.Laws.Slices
import Derived.IntWalk
import Derived.Laws.IdiomStrings
import Derived.Laws.IdiomCopy
/- An evaluator of closed calls, by continuation: the state, the tree, the single operations. -/
namespace Go.Ev

/-! ## A tree keyed by numbers -/
inductive T (α:Type) where
 | leaf
 | node (l:T α) (v:Option α) (r:T α)

def T.get {α:Type}:T α → Nat → Option α
 | .leaf,_=>none
 | .node l v r,k =>
  match k with
  | 0=>v
  | Nat.succ k=>bif Nat.beq (Nat.mod k 2) 0 then l.get (Nat.div k 2) else r.get (Nat.div k 2)

def T.setK {α β:Type}:Nat → T α → Nat → α → (T α → β) → β
 | 0,t,_,_,K=>K t
 | Nat.succ f,t,k,v,K =>
  match k with
  | 0 =>
   match t with
   | .leaf=>K (.node .leaf (some v) .leaf)
   | .node l _ r=>K (.node l (some v) r)
  | Nat.succ k =>
   match t with
   | .leaf =>
    bif Nat.beq (Nat.mod k 2) 0 then T.setK f .leaf (Nat.div k 2) v fun l=>K (.node l none .leaf)
    else T.setK f .leaf (Nat.div k 2) v fun r=>K (.node .leaf none r)
   | .node l x r =>
    bif Nat.beq (Nat.mod k 2) 0 then T.setK f l (Nat.div k 2) v fun l=>K (.node l x r)
    else T.setK f r (Nat.div k 2) v fun r=>K (.node l x r)

/-! ## The abstract heap -/
inductive AObj where
 | cells (c:List Value) (fam:Nat) (ro:Bool)
 | map (es:List MapEntry) (clock:Nat)
 | loop (state:LoopState) (pending:Option Code) (t:T Value) (n:Nat) (params:Array Tmp) (assign body:Code) (defers:Nat)
 | deferred (live:Bool)
 | gone
 | tab (c:List Value)
 | iter (mm:Option Nat) (since:Nat) (seen:List Nat) (last:Nat)

structure AHeap where
 bl:T AObj
 nx:Nat
 fams:T (List Nat)

/-! ## Forcing: terms that the kernel has reckoned -/
def jJ {β:Type} (n:Nat) (K:Nat → β):β:=
 match n with
 | 0=>K 0
 | Nat.succ n=>K (Nat.succ n)

def fInt {β:Type} (i:Int) (K:Int → β):β:=
 match i with
 | .ofNat n=>jJ n fun n=>K (.ofNat n)
 | .negSucc n=>jJ n fun n=>K (.negSucc n)

def fBool {β:Type} (b:Bool) (K:Bool → β):β:=
 match b with
 | true=>K true
 | false=>K false

def fBytes {β:Type}:List UInt8 → (List UInt8 → β) → β
 | [],K=>K []
 | b :: l,K=>fBytes l fun l=>K (b :: l)

def fAddr {β:Type} (a:Addr) (K:Addr → β):β:=
 match a with
 | ⟨b,o,none⟩=>jJ b fun b=>jJ o fun o=>K ⟨b,o,none⟩
 | ⟨b,o,some s⟩=>K ⟨b,o,some s⟩

mutual
def fV {β:Type}:Value → (Value → β) → β
 | .int k n,K=>fInt n fun n=>K (.int k n)
 | .bool b,K=>fBool b fun b=>K (.bool b)
 | .pointer (some a),K=>fAddr a fun a=>K (.pointer (some a))
 | .slice (some a) n c,K=>fAddr a fun a=>jJ n fun n=>jJ c fun c=>K (.slice (some a) n c)
 | .string ⟨⟨l⟩⟩,K=>fBytes l fun l=>K (.string ⟨⟨l⟩⟩)
 | .agg cs,K=>fA cs fun cs=>K (.agg cs)
 | .tuple cs,K=>fA cs fun cs=>K (.tuple cs)
 | .func f a b,K=>fA a fun a=>fA b fun b=>K (.func f a b)
 | .iface t v,K=>fV v fun v=>K (.iface t v)
 | v,K=>K v
def fA {β:Type}:Array Value → (Array Value → β) → β
 | ⟨l⟩,K=>fL l fun l=>K ⟨l⟩
def fL {β:Type}:List Value → (List Value → β) → β
 | [],K=>K []
 | v :: l,K=>fV v fun v=>fL l fun l=>K (v :: l)
end

/-- Has a list more elements than these? -/
def longL {α:Type}:Nat → List α → Bool
 | _,[]=>false
 | 0,_ :: _=>true
 | Nat.succ n,_ :: l=>longL n l

/-- Forcing: the commonest makes of values first; great arrays are left as they are. -/
def fV1 {β:Type} (v:Value) (K:Value → β):β:=
 match v with
 | .int k n=>fInt n fun n=>K (.int k n)
 | .bool b=>fBool b fun b=>K (.bool b)
 | .pointer (some a)=>fAddr a fun a=>K (.pointer (some a))
 | .agg ⟨l⟩=>bif longL 64 l then K (.agg ⟨l⟩) else fL l fun l=>K (.agg ⟨l⟩)
 | v=>fV v K

/-! ## Values without addresses; equal values -/
/-- Is each of these values one that a cell holds? -/
def oneB:Value → Bool
 | .agg _ | .tuple _=>false
 | _=>true
def oneL:List Value → Bool
 | []=>true
 | v :: l=>oneB v && oneL l
def oneA:Array Value → Bool
 | ⟨l⟩=>oneL l

mutual
def plainB:Value → Bool
 | .bool _ | .int _ _ | .float _ _ | .string _ | .pointer none | .map none | .chan none | .nilFunc | .nilIface=>true
 | .slice none 0 0=>true
 | .iface _ v=>plainB v
 | .agg cs=>plainA cs && oneA cs
 | .tuple cs=>plainA cs
 | .func (.func _) a b=>plainA a && plainA b
 | _=>false
def plainA:Array Value → Bool
 | ⟨l⟩=>plainL l
def plainL:List Value → Bool
 | []=>true
 | v :: l=>plainB v && plainL l
end

def beqI:Int → Int → Bool
 | .ofNat a,.ofNat b=>Nat.beq a b
 | .negSucc a,.negSucc b=>Nat.beq a b
 | _,_=>false

def beqBytes:List UInt8 → List UInt8 → Bool
 | [],[]=>true
 | a :: l,b :: r=>Nat.beq a.toNat b.toNat && beqBytes l r
 | _,_=>false

def beqKind:IntKind → IntKind → Bool
 | .i8,.i8 | .i16,.i16 | .i32,.i32 | .i64,.i64 | .u8,.u8 | .u16,.u16 | .u32,.u32 | .u64,.u64=>true
 | _,_=>false

def beqB:Bool → Bool → Bool
 | true,true|false,false=>true
 | _,_=>false

mutual
def veq:Value → Value → Bool
 | .bool a,.bool b=>beqB a b
 | .int k a,.int j b=>beqKind k j && beqI a b
 | .string ⟨⟨a⟩⟩,.string ⟨⟨b⟩⟩=>beqBytes a b
 | .pointer none,.pointer none=>true
 | .pointer (some ⟨b,o,none⟩),.pointer (some ⟨b',o',none⟩)=>Nat.beq b b' && Nat.beq o o'
 | .slice none 0 0,.slice none 0 0=>true
 | .slice none 0 1,.slice none 0 1=>true
 | .slice (some ⟨b,o,none⟩) n c,.slice (some ⟨b',o',none⟩) n' c'=>Nat.beq b b' && Nat.beq o o' && Nat.beq n n' && Nat.beq c c'
 | .map none,.map none=>true
 | .map (some r),.map (some r')=>Nat.beq r r'
 | .nilFunc,.nilFunc=>true
 | .nilIface,.nilIface=>true
 | .func (.func f) a b,.func (.func g) c d=>Nat.beq f g && veqA a c && veqA b d
 | .func (.yield f) a b,.func (.yield g) c d=>Nat.beq f g && veqA a c && veqA b d
 | .agg a,.agg b=>veqA a b
 | .tuple a,.tuple b=>veqA a b
 | .iface t a,.iface u b=>Nat.beq t u && veq a b
 | _,_=>false
def veqA:Array Value → Array Value → Bool
 | ⟨a⟩,⟨b⟩=>veqL a b
def veqL:List Value → List Value → Bool
 | [],[]=>true
 | a :: l,b :: r=>veq a b && veqL l r
 | _,_=>false
end

/-! ## Computations that do not look at the world -/
def pureOf {α:Type} (P:Program):Sem α → Option α
 | .pure a=>some a
 | .program k=>pureOf P (k P)
 | .mark _ k=>pureOf P k
 | _=>none

/-- A value that stands for whatever value: no operation takes it. -/
def bad:Value:=.complex .f32 0 0

def tget (t:T Value) (i:Nat):Value:=match t.get i with|some v=>v|none=>undef

def ev (P:Program) (t:T Value):Operand → Value
 | .tmp i=>tget t i
 | .const v=>bif plainB v then v else bad
 | .global g=>bif Nat.blt g P.globals.size then .pointer (some ⟨g,0,none⟩) else bad
 | .func f=>.func (.func f) #[] #[]

def evL (P:Program) (t:T Value):List Operand → List Value
 | []=>[]
 | x :: l=>ev P t x :: evL P t l

def isAggB:TypeDesc → Bool
 | .struct _ | .array _ _=>true
 | _=>false

/-- The part of type `ty` at `off` of a row of cells. -/
def dD (P:Program) (ty:TypeId) (c:List Value) (off:Nat):Option Value:=
 match P.underlying ty,P.info? ty with
 | some d,some i =>
  bif isAggB d then
   bif Nat.ble (Nat.add off i.size) c.length then some (.agg ⟨(c.drop off).take i.size⟩) else none
  else c[off]?
 | _,_=>none

def okV:Value → Bool
 | .complex _ _ _ | .tuple _=>false
 | _=>true

def okP:List (Nat × Value) → Bool
 | []=>true
 | p :: l=>okV p.2 && okP l

/-- The upper, the lower bound of a slice expression. -/
def vU (len cap:Nat):Option Value → Option Nat
 | none=>some len
 | some (.int _ (.ofNat n))=>bif Nat.ble n cap then some n else none
 | _=>none

def loOf (hh:Nat):Option Value → Option Nat
 | none=>some 0
 | some (.int _ (.ofNat n))=>bif Nat.ble n hh then some n else none
 | _=>none

/-- The bounds of a slice expression that has no third index. -/
def bounds (len cap:Nat) (lo hi:Option Value):Option (Nat × Nat):=
 match vU len cap hi with
 | none=>none
 | some h=>(match loOf h lo with|none=>none|some l=>some (l,h))

def findKeyL (P:Program) (kt:TypeId) (k:Value) (es:List MapEntry):Option (Option (Nat × Value)):=pureOf P (Instr.findKey kt k es)

/-- Comparing with nil. -/
def nilEq:TypeDesc → Value → Value → Option Bool
 | .slice _,.slice none 0 0,.slice none 0 0=>some true
 | .slice _,.slice none 0 0,.slice (some _) _ _=>some false
 | .slice _,.slice (some _) _ _,.slice none 0 0=>some false
 | .pointer _,.pointer none,.pointer b=>some b.isNone
 | .pointer _,.pointer (some _),.pointer none=>some false
 | .map _ _,.map none,.map b=>some b.isNone
 | .map _ _,.map (some _),.map none=>some false
 | .func _ _ _,.nilFunc,.func _ _ _=>some false
 | .func _ _ _,.func _ _ _,.nilFunc=>some false
 | _,_,_=>none

def qH (P:Program) (ty:TypeId) (x y:Value):Option Bool:=
 match P.underlying ty with
 | some d=>nilEq d x y
 | none=>none

/-- By the model's own operation, where all operands bear no address. -/
def ground (P:Program) (t:T Value) (o:Oper):Option Value:=
 bif plainL (evL P t o.op.operands.toList) then
  match pureOf P (execOp (ev P t) o) with
  | some (.value v)=>bif plainB v then some v else none
  | _=>none
 else none

/-- Integers, as they are compared and wrapped by the kernel's own numbers. -/
def leI:Int → Int → Bool
 | .ofNat a,.ofNat b=>Nat.ble a b
 | .negSucc _,.ofNat _=>true
 | .ofNat _,.negSucc _=>false
 | .negSucc a,.negSucc b=>Nat.ble b a

def o7 (k:IntKind) (n:Int):Int:=
 match k with
 | .i64 =>
  match n with
  | .ofNat m=>bif Nat.blt m 9223372036854775808 then .ofNat m else IntKind.i64.wrap (.ofNat m)
  | .negSucc m=>bif Nat.blt m 9223372036854775808 then .negSucc m else IntKind.i64.wrap (.negSucc m)
 | k=>k.wrap n

def iQ (op:BinOp) (k:IntKind) (a b:Int):Option Value:=
 match op with
 | .add=>some (.int k (o7 k (Int.add a b)))
 | .sub=>some (.int k (o7 k (Int.sub a b)))
 | .mul=>some (.int k (o7 k (Int.mul a b)))
 | .eql=>some (.bool (beqI a b))
 | .neq=>some (.bool (!(beqI a b)))
 | .lss=>some (.bool (!(leI b a)))
 | .leq=>some (.bool (leI a b))
 | .gtr=>some (.bool (!(leI a b)))
 | .geq=>some (.bool (leI b a))
 | _=>none

def isFuncFn:Fn → Bool
 | .func _=>true
 | _=>false

def rPick (a b:Value):Value → Option Value
 | .bool true=>some a
 | .bool false=>some b
 | _=>none

def cellsOf:Option AObj → Option (List Value)
 | some (.cells c _ _)=>some c
 | _=>none

def rLoad (P:Program) (h:AHeap) (ty:TypeId):Value → Option Value
 | .pointer (some ⟨b,off,none⟩) =>
  match cellsOf (h.bl.get b) with
  | some c=>dD P ty c off
  | none=>none
 | _=>none

def rNilCheck:Value → Option Value
 | .pointer (some a)=>some (.pointer (some a))
 | .func (.func f) a b=>some (.func (.func f) a b)
 | .func (.yield f) a b=>some (.func (.yield f) a b)
 | _=>none

def bZ (P:Program) (s:TypeId) (f:Nat):Option (Nat × TypeId):=
 match P.underlying s with
 | some (.struct fields)=>(match fields[f]? with|some fd=>some (fd.offset,fd.type)|none=>none)
 | _=>none

def bH (P:Program) (ty:TypeId):Option Nat:=
 match P.info? ty with
 | some i=>some i.size
 | none=>none

def fQ (P:Program) (s:TypeId) (f:Nat):Value → Option Value
 | .pointer (some ⟨b,off,none⟩) =>
  match bZ P s f with
  | some (fo,ft) =>
   match bH P ft with
   | some (Nat.succ _)=>some (.pointer (some ⟨b,Nat.add off fo,none⟩))
   | _=>none
  | none=>none
 | _=>none

def rField (P:Program) (s:TypeId) (f:Nat):Value → Option Value
 | .agg cs =>
  match bZ P s f with
  | some (fo,ft)=>dD P ft cs.toList fo
  | none=>none
 | _=>none

def arrOf (P:Program) (ty:TypeId):Option (Nat × TypeId):=
 match P.underlying ty with
 | some (.array len e)=>some (len,e)
 | _=>none

def fE (P:Program) (ty:TypeId):Option TypeId:=
 match P.underlying ty with
 | some (.slice e)=>some e
 | _=>none

def rAt (P:Program) (e:TypeId) (b off i len:Nat):Option Value:=
 bif Nat.blt i len then
  match bH P e with
  | some sz=>some (.pointer (some ⟨b,Nat.add off (Nat.mul i sz),none⟩))
  | none=>none
 else none

def bY (P:Program) (ty:TypeId) (x:Value):Value → Option Value
 | .int _ (.ofNat i) =>
  match x with
  | .pointer (some ⟨b,off,none⟩) =>
   match arrOf P ty with
   | some (len,e)=>rAt P e b off i len
   | none=>none
  | .slice (some ⟨b,off,none⟩) len _ =>
   match fE P ty with
   | some e=>rAt P e b off i len
   | none=>none
  | _=>none
 | _=>none

def lX (P:Program) (ty:TypeId):Bool:=
 match P.underlying ty with
 | some .string=>true
 | _=>false

def uC (P:Program) (ty:TypeId) (cs:Array Value):Value → Option Value
 | .int _ (.ofNat i) =>
  match arrOf P ty with
  | some (len,e) =>
   bif Nat.blt i len then
    match bH P e with
    | some sz=>dD P e cs.toList (Nat.mul i sz)
    | none=>none
   else none
  | none=>none
 | _=>none

def rIndexStr (P:Program) (ty:TypeId) (l:List UInt8):Value → Option Value
 | .int _ (.ofNat i) =>
  bif lX P ty then (match l[i]? with|some b=>some (.int .u8 (.ofNat b.toNat))|none=>none) else none
 | _=>none

def vV (P:Program) (t:T Value) (o:Oper) (ty:TypeId) (ix:Value):Value → Option Value
 | .agg cs=>uC P ty cs ix
 | .string ⟨⟨l⟩⟩=>rIndexStr P ty l ix
 | _=>ground P t o

/-- A slice without capacity, of whatever array. -/
def emptyS:Value:=.slice none 0 1

/-- May a slice of elements of sz cells over block b be cut from its middle, or grow? A block that an append made knows the size of its elements. -/
def zOk (h:AHeap) (b sz:Nat):Bool:=
 match h.bl.get b with
 | some (.cells _ fam _) =>
  bif Nat.beq fam b then true
  else (match h.fams.get b with|some [z]=>Nat.beq z sz|_=>false)
 | _=>false

def uD (ok:Bool) (b off cap sz:Nat):Option (Nat × Nat) → Option Value
 | some (l,h') =>
  bif Nat.blt l cap && (Nat.beq l 0 || ok) then some (.slice (some ⟨b,Nat.add off (Nat.mul l sz),none⟩) (Nat.sub h' l) (Nat.sub cap l))
  else bif Nat.beq cap l && Nat.beq h' l then some emptyS else none
 | none=>none

def rSlice0 (v:Value):Option (Nat × Nat) → Option Value
 | some _=>some v
 | none=>none

def rSliceN (P:Program) (ty:TypeId) (lo hi:Option Value) (v:Value):Option Value:=
 match fE P ty with
 | some e=>(match bH P e with|some _=>rSlice0 v (bounds 0 0 lo hi)|none=>none)
 | none=>none

def uF (P:Program) (h:AHeap) (ty:TypeId) (lo hi:Option Value) (b off len cap:Nat):Option Value:=
 match fE P ty with
 | some e=>(match bH P e with|some sz=>uD (zOk h b sz) b off cap sz (bounds len cap lo hi)|none=>none)
 | none=>none

def rSliceA (P:Program) (ty:TypeId) (lo hi:Option Value) (b off:Nat):Option Value:=
 match arrOf P ty with
 | some (n,e)=>(match bH P e with|some sz=>uD true b off n sz (bounds n n lo hi)|none=>none)
 | none=>none

def vW (P:Program) (t:T Value) (h:AHeap) (o:Oper) (ty:TypeId) (lo hi:Option Operand):Value → Option Value
 | .slice none 0 0=>rSliceN P ty (lo.map (ev P t)) (hi.map (ev P t)) (.slice none 0 0)
 | .slice none 0 1=>rSliceN P ty (lo.map (ev P t)) (hi.map (ev P t)) emptyS
 | .slice (some ⟨b,off,none⟩) len cap=>uF P h ty (lo.map (ev P t)) (hi.map (ev P t)) b off len cap
 | .pointer (some ⟨b,off,none⟩)=>rSliceA P ty (lo.map (ev P t)) (hi.map (ev P t)) b off
 | .string _=>ground P t o
 | _=>none

def zeroOf (P:Program) (ty:TypeId):Option Value:=
 match P.info? ty with
 | some i=>match i.zero with|some z=>bif plainB z && okV z then some z else none|none=>none
 | none=>none

def mapOf (P:Program) (ty:TypeId):Option (TypeId × TypeId):=
 match P.underlying ty with
 | some (.map k e)=>some (k,e)
 | _=>none

def entriesOf:Option AObj → Option (List MapEntry × Nat)
 | some (.map es clock)=>some (es,clock)
 | _=>none

/-- Fields that are integers, of one cell each, one behind the other. -/
def intFs (P:Program):List Field → Nat → Bool
 | [],_=>true
 | f :: l,i=>(f.name != "_") && (Nat.beq f.offset i && ((match P.underlying f.type with|some (.int _)=>true|_=>false) && intFs P l (Nat.succ i)))

/-- How many integers make up a key, if it is a struct of them. -/
def lH (P:Program) (kt:TypeId):Option Nat:=
 match P.underlying kt with
 | some (.struct fs)=>bif intFs P fs.toList 0 && !(P.stoodInHeld kt) then some fs.toList.length else none
 | _=>none

def eqInts:List Value → List Value → Option Bool
 | [],[]=>some true
 | .int k a :: l,.int k' b :: l'=>bif beqKind k k' then (bif beqI a b then eqInts l l' else some false) else none
 | _,_=>none

def findI (k:List Value):List MapEntry → Nat → Option (Option (Nat × Value))
 | [],_=>some none
 | e :: es,i =>
  match e.key with
  | .agg ⟨c⟩ =>
   match eqInts k c with
   | some true=>some (some (i,e.val))
   | some false=>jJ (Nat.succ i) fun i=>findI k es i
   | none=>none
  | _=>none

def o8 (P:Program) (empty:Bool) (kt:TypeId) (k:Value) (es:List MapEntry):Option (Option (Nat × Value)) → Option (Option (Nat × Value))
 | some r=>some r
 | none =>
  match pureOf P (Instr.checkKey empty 10000 kt k) with
  | some _=>findKeyL P kt k es
  | none=>none

def o9 (k:Value) (es:List MapEntry):Option Nat → Option (Option (Nat × Value))
 | some n =>
  match k with
  | .agg ⟨c⟩=>bif Nat.beq c.length n then findI c es 0 else none
  | _=>none
 | none=>none

/-- Where a key without addresses stands among the entries: `some none` where it does not. -/
def findK (P:Program) (empty:Bool) (kt:TypeId) (k:Value) (es:List MapEntry):Option (Option (Nat × Value)):=
 bif plainB k then o8 P empty kt k es (o9 k es (lH P kt)) else none

def rLookup1 (ok:Bool) (z:Option Value):Option (Option (Nat × Value)) → Option Value
 | some (some (_,v))=>(match z with|some _=>some (bif ok then .tuple #[v,.bool true] else v)|none=>none)
 | some none=>(match z with|some z=>some (bif ok then .tuple #[z,.bool false] else z)|none=>none)
 | none=>none

def lY (P:Program) (t:T Value) (h:AHeap) (o:Oper) (ty:TypeId) (ix:Value) (ok:Bool):Value → Option Value
 | .map (some r) =>
  match mapOf P ty,entriesOf (h.bl.get r) with
  | some (kt,et),some (es,_)=>rLookup1 ok (zeroOf P et) (findK P es.isEmpty kt ix es)
  | _,_=>none
 | _=>ground P t o

def pG (i:Nat):Value → Option Value
 | .tuple vs=>vs[i]?
 | _=>none

def rIface (P:Program) (ty:TypeId) (v:Value):Option Value:=
 match P.underlying ty with
 | some (.interface _)=>none
 | some _=>some (.iface ty v)
 | none=>none

/-- Where the fields of a struct lie, and of how many cells they are. -/
def wK (P:Program):List Field → Option (List (Nat × Nat))
 | []=>some []
 | f :: l =>
  match bH P f.type,wK P l with
  | some sz,some ps=>some ((f.offset,sz) :: ps)
  | _,_=>none

def fillA (place:Nat → Option (Nat × Nat)) (z:Value) (parts:List (Nat × Value)):Option Value:=
 bif okP parts then
  match Instr.fill place z.cells parts with
  | some cs=>some (.agg cs)
  | none=>none
 else none

def fG (P:Program) (ty:TypeId) (parts:List (Nat × Value)):Option Value:=
 match zeroOf P ty,P.underlying ty with
 | some z,some (.struct fields)=>(match wK P fields.toList with|some ps=>fillA (fun k=>ps[k]?) z parts|none=>none)
 | some z,some (.array _ e)=>(match bH P e with|some sz=>fillA (fun k=>some (k * sz,sz)) z parts|none=>none)
 | _,_=>none

def rBin2 (P:Program) (t:T Value) (o:Oper) (op:BinOp):Option Bool → Option Value
 | some b =>
  match op with
  | .eql=>some (.bool b)
  | .neq=>some (.bool (!b))
  | _=>none
 | none=>ground P t o

def fits64 (x y:Nat):Bool:=Nat.blt x 4611686018427387904 && Nat.blt y 4611686018427387904

def isW64:IntKind → Bool
 | .u64=>true
 | .i64=>true
 | _=>false

/-- Shifts, and operations on bits, of small numbers. -/
def fastBits (op:BinOp) (k:IntKind) (x y:Nat):Option Value:=
 match op with
 | .shr=>bif isW64 k && Nat.blt y 64 then some (.int k (.ofNat (Nat.shiftRight x y))) else none
 | .shl=>bif isW64 k && (Nat.blt y 62 && Nat.blt (Nat.shiftLeft x y) 4611686018427387904) then some (.int k (.ofNat (Nat.shiftLeft x y))) else none
 | .and=>bif isW64 k && fits64 x y then some (.int k (.ofNat (Nat.land x y))) else none
 | .or=>bif isW64 k && fits64 x y then some (.int k (.ofNat (Nat.lor x y))) else none
 | _=>none

def fastI (op:BinOp) (k:IntKind) (a b:Int):Option Value:=
 match a,b with
 | .ofNat x,.ofNat y=>fastBits op k x y
 | _,_=>none

def rU (op:BinOp) (k k':IntKind) (a b:Int):Option Value:=
 match op with
 | .shr=>fastI .shr k a b
 | .shl=>fastI .shl k a b
 | .and=>bif beqKind k k' then fastI .and k a b else none
 | .or=>bif beqKind k k' then fastI .or k a b else none
 | _=>none

def rBin3 (P:Program) (t:T Value) (o:Oper):Option Value → Option Value
 | some v=>some v
 | none=>ground P t o

def rBin1 (P:Program) (t:T Value) (o:Oper) (op:BinOp) (k:IntKind) (a:Int):Value → Option Value
 | .int k' b =>
  bif beqKind k k' then (match iQ op k a b with|some v=>some v|none=>rBin3 P t o (rU op k k' a b)) else rBin3 P t o (rU op k k' a b)
 | _=>none

def nV (P:Program) (t:T Value) (o:Oper) (op:BinOp) (ty:TypeId) (y:Value):Value → Option Value
 | .int k a=>rBin1 P t o op k a y
 | x=>rBin2 P t o op (qH P ty x y)

def rUn (P:Program) (t:T Value) (o:Oper) (op:UnOp):Value → Option Value
 | .bool b=>(match op with | .not=>some (.bool (!b))|_=>none)
 | _=>ground P t o

def bytesGo:List Value → List UInt8 → Option Value
 | [],acc=>some (.string ⟨⟨acc.reverse⟩⟩)
 | .int .u8 (.ofNat k) :: l,acc=>bif Nat.blt k 256 then bytesGo l (UInt8.ofNat k :: acc) else none
 | _,_=>none

def bytesOf (l:List Value) (n:Nat):Option Value:=
 bif Nat.beq l.length n then bytesGo l [] else none

def uG (P:Program) (src dst:TypeId):Bool:=
 match fE P src with
 | some e=>(match P.underlying e with|some (.int .u8)=>lX P dst|_=>false)
 | none=>false

def rConvInt (P:Program) (t:T Value) (o:Oper) (src dst:TypeId) (n:Int):Option Value:=
 match P.underlying src,P.underlying dst with
 | some _,some (.int k)=>some (.int k (o7 k n))
 | _,_=>ground P t o

def rConv (P:Program) (t:T Value) (h:AHeap) (o:Oper) (src dst:TypeId):Value → Option Value
 | .int _ n=>rConvInt P t o src dst n
 | .slice (some ⟨b,off,none⟩) n _ =>
  bif uG P src dst then
   match cellsOf (h.bl.get b) with
   | some c=>bytesOf ((c.drop off).take n) n
   | none=>none
  else none
 | _=>ground P t o

def jW (P:Program) (ty:TypeId):Bool:=
 match fE P ty with
 | some _=>true
 | none=>false

def qJ (P:Program) (t:T Value) (h:AHeap) (o:Oper) (ty:TypeId):Value → Option Value
 | .slice _ n _=>bif jW P ty then some (.int .i64 (.ofNat n)) else none
 | .string ⟨⟨l⟩⟩=>bif lX P ty then some (.int .i64 (.ofNat l.length)) else none
 | .map (some r) =>
  match mapOf P ty,entriesOf (h.bl.get r) with
  | some _,some (es,_)=>some (.int .i64 (.ofNat es.length))
  | _,_=>none
 | _=>ground P t o

def rCall (P:Program) (t:T Value) (h:AHeap) (o:Oper) (c:Call):Option Value:=
 match c.callee with
 | .builtin .len =>
  match c.args.toList,c.argTypes.toList with
  | [x],ty :: _=>qJ P t h o ty (ev P t x)
  | _,_=>none
 | .builtin .min=>ground P t o
 | .builtin .max=>ground P t o
 | .builtin .cap=>ground P t o
 | _=>none

/-- An entry by its stamp. -/
def entryAt:List MapEntry → Nat → Option MapEntry
 | [],_=>none
 | e :: l,b=>bif Nat.beq e.born b then some e else entryAt l b

/-- The entry of an iterator's last step. -/
def rEntry (h:AHeap):Value → Option Value
 | .pointer (some ⟨b,0,none⟩) =>
  match h.bl.get b with
  | some (.iter (some r) _ (s :: _) last) =>
   match entriesOf (h.bl.get r) with
   | some (es,clock)=>bif Nat.beq clock last then (match entryAt es s with|some e=>bif plainB e.key then some (.tuple #[e.key,e.val]) else none|none=>none) else none
   | none=>none
  | _=>none
 | _=>none

/-- A type assertion that holds. -/
def rAssert (P:Program) (ty:TypeId) (ok:Bool):Value → Option Value
 | .iface t v =>
  match P.underlying ty with
  | some (.interface _)=>none
  | some _=>bif Nat.beq t ty then some (bif ok then .tuple #[v,.bool true] else v) else none
  | none=>none
 | _=>none

/-- An operation that only reads. -/
def dE (P:Program) (t:T Value) (h:AHeap) (o:Oper):Option Value:=
 match o.op with
 | .move x=>some (ev P t x)
 | .assign x=>some (ev P t x)
 | .pick c a b=>rPick (ev P t a) (ev P t b) (ev P t c)
 | .load ty a=>rLoad P h ty (ev P t a)
 | .nilCheck x=>rNilCheck (ev P t x)
 | .fieldAddr s x f=>fQ P s f (ev P t x)
 | .field s x f=>rField P s f (ev P t x)
 | .indexAddr ty x ix=>bY P ty (ev P t x) (ev P t ix)
 | .index ty x ix=>vV P t o ty (ev P t ix) (ev P t x)
 | .slice ty x lo hi none=>vW P t h o ty lo hi (ev P t x)
 | .lookup ty x ix ok=>lY P t h o ty (ev P t ix) ok (ev P t x)
 | .extract x i=>pG i (ev P t x)
 | .makeInterface ty x=>rIface P ty (ev P t x)
 | .makeFunc fn first captured=>bif isFuncFn fn then some (.func fn ⟨evL P t first.toList⟩ ⟨evL P t captured.toList⟩) else none
 | .build ty parts=>fG P ty (parts.toList.map fun p=>(p.1,ev P t p.2))
 | .binOp op ty x y _=>nV P t o op ty (ev P t y) (ev P t x)
 | .unOp op _ x=>rUn P t o op (ev P t x)
 | .convert src dst x=>rConv P t h o src dst (ev P t x)
 | .call c=>rCall P t h o c
 | .entry it=>rEntry h (ev P t it)
 | .typeAssert x _ ty ok=>rAssert P ty ok (ev P t x)
 | _=>none

end Go.Ev

/- An evaluator of closed calls: operations that write, regions, code. -/
namespace Go.Ev

def rV {α β:Type}:List α → (List α → β) → β
 | [],K=>K []
 | a :: l,K=>rV l fun l=>K (a :: l)

def spliceL:List Value → Nat → List Value → List Value
 | c,_,[]=>c
 | [],_,_ :: _=>[]
 | _ :: c,0,v :: n=>v :: spliceL c 0 n
 | x :: c,Nat.succ k,v :: n=>x :: spliceL c k (v :: n)

def kQ {β:Type}:List Nat → Nat → T AObj → (T AObj → β) → β
 | [],_,bl,K=>K bl
 | m :: l,b,bl,K =>
  bif Nat.beq m b then kQ l b bl K
  else
   match bl.get m with
   | some (.cells _ fam ro)=>T.setK (Nat.succ m) bl m (.cells [] fam ro) fun bl=>kQ l b bl K
   | _=>kQ l b bl K

/-- A new block that is no row of cells. -/
def newO (h:AHeap) (o:AObj) (K:Nat → AHeap → Bool):Bool:=
 jJ h.nx fun b=>T.setK (Nat.succ b) h.bl b o fun bl=>jJ (Nat.succ b) fun nx=>K b ⟨bl,nx,h.fams⟩

/-- A new row of cells, in a family of its own. -/
def newC (h:AHeap) (c:List Value) (K:Nat → AHeap → Bool):Bool:=
 jJ h.nx fun b =>
 fL c fun c =>
 T.setK (Nat.succ b) h.bl b (.cells c b false) fun bl =>
 T.setK (Nat.succ b) h.fams b [b] fun fams =>
 jJ (Nat.succ b) fun nx=>K b ⟨bl,nx,fams⟩

/-- Writing cells: what else may share them is read no more. -/
def jC (h:AHeap) (b off:Nat) (new c:List Value) (fam:Nat) (K:AHeap → Bool):Bool:=
 bif Nat.ble (Nat.add off new.length) c.length then
  rV (spliceL c off new) fun c' =>
  match h.fams.get fam with
  | some [_]=>T.setK (Nat.succ b) h.bl b (.cells c' fam false) fun bl=>K ⟨bl,h.nx,h.fams⟩
  | some l =>
   kQ l b h.bl fun bl =>
   T.setK (Nat.succ b) bl b (.cells c' fam false) fun bl =>
   T.setK (Nat.succ fam) h.fams fam [b] fun fams=>K ⟨bl,h.nx,fams⟩
  | none=>false
 else false

def gY (h:AHeap) (b off:Nat) (new:List Value) (K:AHeap → Bool):Bool:=
 match new with
 | []=>K h
 | v :: l =>
  match h.bl.get b with
  | some (.cells c fam false)=>jC h b off (v :: l) c fam K
  | _=>false

def setO (h:AHeap) (r:Nat) (o:AObj) (K:AHeap → Bool):Bool:=
 T.setK (Nat.succ r) h.bl r o fun bl=>K ⟨bl,h.nx,h.fams⟩

def isDig (P:Program) (src dst:TypeId):Bool:=
 match P.underlying src,P.underlying dst with
 | some .string,some (.slice _)=>true
 | _,_=>false

/-- Operations that write, make memory, or call. -/
def isW (P:Program):Op → Bool
 | .alloc _ | .box _ _ | .buildSlice _ _ _ | .store _ _ _ | .insert _ _ _ _ | .makeMap _ _ | .makeSlice _ _ _ | .mapUpdate _ _ _ _ | .mapEntry _ _ _ | .entryStore _ _ _ _ | .range _ _ | .next _ _=>true
 | .convert src dst _=>isDig P src dst
 | .call c =>
  match c.callee with
  | .builtin .append | .builtin .copy | .builtin .delete | .builtin .clear=>true
  | .builtin _=>false
  | _=>true
 | _=>false

/-- The cells of the first n elements that are appended or copied. -/
def eU (h:AHeap) (size:Nat):Value → Option (List Value × Nat)
 | .slice none 0 0=>some ([],0)
 | .slice none 0 1=>some ([],0)
 | .slice (some ⟨b,off,none⟩) n _ =>
  match h.bl.get b with
  | some (.cells c _ _) =>
   bif Nat.ble (Nat.add off (Nat.mul n size)) c.length then some ((c.drop off).take (Nat.mul n size),n) else none
  | _=>none
 | .string s=>bif Nat.beq size 1 then some (s.data.toList.map fun b=>.int .u8 b.toNat,s.size) else none
 | _=>none

abbrev KV:=Value → AHeap → Bool

def bigNat:Nat:=1000000

def eY (P:Program) (elem:TypeId) (n:Nat):Bool:=
 match P.info? elem,zeroOf P elem with
 | some inf,some z=>Nat.ble (Nat.mul n inf.bytes) 140737488355328 && (Nat.blt n 4611686018427387904 && (Nat.blt inf.bytes bigNat && Nat.beq z.cells.size inf.size))
 | _,_=>false

/-- A new row whose capacity nobody knows: its family's number, then its own. -/
def growN (h:AHeap) (sz:Nat) (c:List Value) (K:Nat → AHeap → Bool):Bool:=
 rV c fun c =>
 jJ (Nat.succ h.nx) fun b =>
 T.setK (Nat.succ b) h.bl b (.cells c h.nx false) fun bl =>
 T.setK (Nat.succ h.nx) h.fams h.nx [b] fun fams =>
 T.setK (Nat.succ b) fams b [sz] fun fams =>
 jJ (Nat.succ b) fun nx=>K b ⟨bl,nx,fams⟩

def jZ (P:Program) (h:AHeap) (elem:TypeId) (sz:Nat) (new:List Value) (n:Nat) (K:KV):Bool:=
 bif Nat.beq n 0 then K (.slice none 0 0) h
 else bif eY P elem n then growN h sz new fun b h=>K (.slice (some ⟨b,0,none⟩) n n) h else false

def growH (h:AHeap) (b fam sz:Nat) (l:List Nat) (c0 c':List Value) (K:AHeap → Bool):Bool:=
 rV c' fun c' =>
 rV c0 fun c0 =>
 kQ l b h.bl fun bl =>
 T.setK (Nat.succ b) bl b (.cells c0 fam false) fun bl =>
 T.setK (Nat.succ h.nx) bl h.nx (.cells c' fam false) fun bl =>
 T.setK (Nat.succ fam) h.fams fam [h.nx,b] fun fams =>
 T.setK (Nat.succ h.nx) fams h.nx [sz] fun fams =>
 jJ (Nat.succ h.nx) fun nx=>K ⟨bl,nx,fams⟩

def jX (P:Program) (h:AHeap) (elem:TypeId) (sz:Nat) (b off len:Nat) (new:List Value) (n:Nat) (K:KV):Bool:=
 match h.bl.get b with
 | some (.cells c fam false) =>
  bif Nat.ble (Nat.add off (Nat.mul len sz)) c.length && (eY P elem (Nat.add len n) && zOk h b sz) then
   match h.fams.get fam with
   | none=>false
   | some l =>
    growH h b fam sz l (c.take (Nat.add off (Nat.mul len sz))) ((c.drop off).take (Nat.mul len sz) ++ new) fun h' =>
    jJ (Nat.add len n) fun k=>K (.slice (some ⟨h.nx,0,none⟩) k k) h'
  else false
 | _=>false

def iR (P:Program) (h:AHeap) (elem:TypeId) (s x:Value) (K:KV):Bool:=
 match bH P elem with
 | none=>false
 | some sz =>
  match eU h sz x with
  | none=>false
  | some (new,n) =>
   match s with
   | .slice none 0 0=>jZ P h elem sz new n K
   | .slice (some ⟨b,off,none⟩) len cap =>
    bif Nat.ble (Nat.add len n) cap then
     gY h b (Nat.add off (Nat.mul len sz)) new fun h=>K (.slice (some ⟨b,off,none⟩) (Nat.add len n) cap) h
    else jX P h elem sz b off len new n K
   | _=>false

def vI (es:List MapEntry) (i:Nat) (f:MapEntry → MapEntry):List MapEntry:=
 match es,i with
 | [],_=>[]
 | e :: es,0=>f e :: es
 | e :: es,Nat.succ i=>e :: vI es i f

def kC (es:List MapEntry) (i:Nat) (k:Value):Bool:=
 match es[i]? with
 | some e=>Instr.sameBits 10000 e.key k
 | none=>false

def findBorn (es:List MapEntry) (b:Nat) (i:Nat):Option Nat:=
 match es with
 | []=>none
 | e :: es=>bif Nat.beq e.born b then some i else findBorn es b (Nat.succ i)

def repl (z:List Value):Nat → List Value → List Value
 | 0,acc=>acc
 | Nat.succ n,acc=>repl z n (z ++ acc)

abbrev CallT:=Value → List Value → AHeap → KV → Bool

def ptrK (K:KV) (b:Nat) (h:AHeap):Bool:=K (.pointer (some ⟨b,0,none⟩)) h

def wAlloc (P:Program) (h:AHeap) (e:TypeId) (K:KV):Bool:=
 match zeroOf P e with
 | some z=>newC h z.cells.toList (ptrK K)
 | none=>false

/-- A block under a number set aside for it. -/
def pJ (P:Program) (h:AHeap) (e:TypeId) (r:Nat) (K:KV):Bool:=
 match zeroOf P e with
 | some z =>
  match h.fams.get r with
  | some [] =>
   jJ r fun r=>fL z.cells.toList fun c =>
   T.setK (Nat.succ r) h.bl r (.cells c r false) fun bl =>
   T.setK (Nat.succ r) h.fams r [r] fun fams=>ptrK K r ⟨bl,h.nx,fams⟩
  | _=>false
 | none=>false

def wBox (h:AHeap) (v:Value) (K:KV):Bool:=
 bif okV v then newC h v.cells.toList (ptrK K) else false

def uH (h:AHeap) (len:Nat) (cs:Option (Array Value)) (K:KV):Bool:=
 match cs with
 | some cs=>newC h cs.toList fun b h=>K (.slice (some ⟨b,0,none⟩) len len) h
 | none=>false

def jE (P:Program) (h:AHeap) (ty:TypeId) (len:Nat) (parts:List (Nat × Value)) (K:KV):Bool:=
 match fE P ty with
 | some e =>
  match bH P e,zeroOf P e with
  | some sz,some z =>
   bif okP parts && (Nat.ble (Nat.mul len sz) 16777216 && Nat.beq z.cells.size sz) then
    uH h len (Instr.fill (fun k=>some (k * sz,sz)) ⟨repl z.cells.toList len []⟩ parts) K
   else false
  | _,_=>false
 | none=>false

def mW (P:Program) (h:AHeap) (ty:TypeId) (x:Value) (K:KV):Value → Bool
 | .pointer (some ⟨b,off,none⟩) =>
  match bH P ty with
  | some sz=>bif okV x && Nat.beq x.cells.size sz then gY h b off x.cells.toList fun h=>K undef h else false
  | none=>false
 | _=>false

def nX (h:AHeap) (K:KV):Bool:=newO h (.map [] 0) fun r h=>K (.map (some r)) h

def isIntV:Value → Bool
 | .int _ _=>true
 | _=>false

def mG (P:Program) (h:AHeap) (e:TypeId) (l c:Nat) (K:KV):Bool:=
 match P.info? e,zeroOf P e with
 | some ei,some z =>
  bif Nat.ble l c && (Nat.blt c bigNat && (Nat.blt ei.bytes bigNat && Nat.beq z.cells.size ei.size)) then
   newC h (repl z.cells.toList c []) fun b h=>K (.slice (some ⟨b,0,none⟩) l c) h
  else false
 | _,_=>false

def lJ (P:Program) (h:AHeap) (ty:TypeId) (l c:Value) (K:KV):Bool:=
 match fE P ty,l,c with
 | some e,.int .i64 (.ofNat l),.int .i64 (.ofNat c)=>mG P h e l c K
 | _,_,_=>false

def nY (h:AHeap) (r clock:Nat) (es:List MapEntry) (K:AHeap → Bool):Bool:=
 rV es fun es=>setO h r (.map es clock) K

def wMapUpdate1 (h:AHeap) (r:Nat) (k x:Value) (es:List MapEntry) (clock:Nat) (K:KV):Option (Option (Nat × Value)) → Bool
 | some (some (i,_))=>bif kC es i k then nY h r clock (vI es i fun e=>{ key:=k,val:=x,born:=e.born }) fun h=>K undef h else false
 | some none=>jJ (Nat.succ clock) fun c=>nY h r c (es ++ [⟨k,x,clock⟩]) fun h=>K undef h
 | none=>false

def oC (P:Program) (h:AHeap) (ty:TypeId) (k x:Value) (K:KV):Value → Bool
 | .map (some r) =>
  match mapOf P ty,entriesOf (h.bl.get r) with
  | some (kt,_),some (es,clock)=>bif okV x then wMapUpdate1 h r k x es clock K (findK P false kt k es) else false
  | _,_=>false
 | _=>false

def qK (h:AHeap) (r:Nat) (k:Value) (z:Option Value) (es:List MapEntry) (clock:Nat) (K:KV):Option (Option (Nat × Value)) → Bool
 | some (some (i,v)) =>
  match es[i]? with
  | some e=>bif kC es i k then nY h r clock (vI es i fun e=>{ key:=k,val:=e.val,born:=e.born }) fun h=>K (.tuple #[v,.int .i64 (.ofNat e.born)]) h else false
  | none=>false
 | some none =>
  match z with
  | some z=>jJ (Nat.succ clock) fun c=>nY h r c (es ++ [⟨k,z,clock⟩]) fun h=>K (.tuple #[z,.int .i64 (.ofNat clock)]) h
  | none=>false
 | none=>false

def pK (P:Program) (h:AHeap) (ty:TypeId) (k:Value) (K:KV):Value → Bool
 | .map (some r) =>
  match mapOf P ty,entriesOf (h.bl.get r) with
  | some (kt,et),some (es,clock)=>qK h r k (zeroOf P et) es clock K (findK P false kt k es)
  | _,_=>false
 | _=>false

def nJ (h:AHeap) (r:Nat) (x:Value) (es:List MapEntry) (clock:Nat) (K:KV):Option Nat → Bool
 | some i=>nY h r clock (vI es i fun e=>{ key:=e.key,val:=x,born:=e.born }) fun h=>K undef h
 | none=>false

def mJ (h:AHeap) (s x:Value) (K:KV):Value → Bool
 | .map (some r) =>
  match entriesOf (h.bl.get r),s with
  | some (es,clock),.int _ (.ofNat b)=>bif okV x then nJ h r x es clock K (findBorn es b 0) else false
  | _,_=>false
 | _=>false

def isU8 (P:Program) (e:TypeId):Bool:=
 match P.underlying e with
 | some (.int .u8)=>true
 | _=>false

def wDig (P:Program) (h:AHeap) (src dst:TypeId) (K:KV):Value → Bool
 | .string s =>
  match fE P dst with
  | some e =>
   bif lX P src && (isU8 P e && Nat.blt s.size bigNat) then
    growN h 1 (s.data.toList.map fun b=>.int .u8 (.ofNat b.toNat)) fun b h=>jJ s.size fun n=>K (.slice (some ⟨b,0,none⟩) n n) h
   else false
  | none=>false
 | _=>false

/-- Is a value of this type what its type says: a slice, or a string? -/
def kindOk (P:Program) (ty:TypeId):Value → Bool
 | .slice _ _ _=>(match P.underlying ty with|some (.slice _)=>true|_=>false)
 | .string _=>lX P ty
 | _=>false

/-- So many zero elements, appended to no slice at all. -/
def appendZ (P:Program) (h:AHeap) (elem xt:TypeId) (K:KV):Value → Value → Bool
 | .slice none 0 0,.int .i64 (.ofNat n) =>
  match P.underlying xt,bH P elem,zeroOf P elem with
  | some (.int .i64),some sz,some z=>bif eY P elem n && Nat.beq z.cells.size sz then jZ P h elem sz (repl z.cells.toList n []) n K else false
  | _,_,_=>false
 | _,_=>false

def lZ (P:Program) (t:T Value) (h:AHeap) (c:Call) (K:KV):Bool:=
 match c.argTypes.toList,c.args.toList with
 | [st,xt],[s,x] =>
  match fE P st with
  | some e=>bif kindOk P xt (ev P t x) then iR P h e (ev P t s) (ev P t x) K else appendZ P h e xt K (ev P t s) (ev P t x)
  | none=>false
 | _,_=>false

def wCopy1 (h:AHeap) (sz b off k:Nat) (src:Value) (K:KV):Bool:=
 match eU h sz src with
 | some (new,_)=>gY h b off new fun h=>K (.int .i64 (.ofNat k)) h
 | none=>false

def wCopy2 (h:AHeap) (sz:Nat) (K:KV):Value → Value → Bool
 | .slice (some ⟨b,off,none⟩) len _,.slice (some ⟨b2,off2,none⟩) n c2=>jJ (Nat.min n len) fun k=>wCopy1 h sz b off k (.slice (some ⟨b2,off2,none⟩) k c2) K
 | .slice (some ⟨b,off,none⟩) len _,.string s=>bif Nat.ble s.size len && Nat.beq sz 1 then wCopy1 h sz b off s.size (.string s) K else false
 | .slice (some ⟨_,_,none⟩) _ _,.slice none 0 0=>K (.int .i64 (.ofNat 0)) h
 | _,_=>false

def wCopy (P:Program) (t:T Value) (h:AHeap) (c:Call) (K:KV):Bool:=
 match c.argTypes.toList,c.args.toList with
 | [dt,st],[d,s] =>
  match fE P dt with
  | some e =>
   match bH P e with
   | some sz=>bif kindOk P st (ev P t s) then wCopy2 h sz K (ev P t d) (ev P t s) else false
   | none=>false
  | none=>false
 | _,_=>false

def wDelete1 (h:AHeap) (r:Nat) (es:List MapEntry) (clock:Nat) (K:KV):Option (Option (Nat × Value)) → Bool
 | some (some (i,_))=>nY h r clock (es.eraseIdx i) fun h=>K undef h
 | some none=>nY h r clock es fun h=>K undef h
 | none=>false

def wDelete (P:Program) (t:T Value) (h:AHeap) (c:Call) (K:KV):Bool:=
 match c.argTypes.toList,c.args.toList with
 | [mt,_],[mo,ko] =>
  match ev P t mo with
  | .map (some r) =>
   match mapOf P mt,entriesOf (h.bl.get r) with
   | some (kt,_),some (es,clock)=>wDelete1 h r es clock K (findK P es.isEmpty kt (ev P t ko) es)
   | _,_=>false
  | _=>false
 | _,_=>false

def wClear1 (P:Program) (h:AHeap) (ty:TypeId) (K:KV):Value → Bool
 | .slice none 0 0=>(match fE P ty with|some _=>K undef h|none=>false)
 | .slice none 0 1=>(match fE P ty with|some _=>K undef h|none=>false)
 | .slice (some ⟨b,off,none⟩) n _ =>
  match fE P ty with
  | some el =>
   match zeroOf P el with
   | some z =>
    match n with
    | 0=>K undef h
    | Nat.succ n=>gY h b off (repl z.cells.toList (Nat.succ n) []) fun h=>K undef h
   | none=>false
  | none=>false
 | _=>false
def wClear (P:Program) (t:T Value) (h:AHeap) (c:Call) (K:KV):Bool:=
 match c.argTypes.toList,c.args.toList with
 | [ty],[xo]=>wClear1 P h ty K (ev P t xo)
 | _,_=>false

/-! ## Ranges over maps -/
def wRange (P:Program) (h:AHeap) (ty:TypeId) (K:KV):Value → Bool
 | .map none=>(match mapOf P ty with|some _=>newO h (.iter none 0 [] 0) fun b h=>K (.pointer (some ⟨b,0,none⟩)) h|none=>false)
 | .map (some r) =>
  match mapOf P ty,entriesOf (h.bl.get r) with
  | some _,some (_,clock)=>newO h (.iter (some r) clock [] clock) fun b h=>K (.pointer (some ⟨b,0,none⟩)) h
  | _,_=>false
 | _=>false

/-- Where a step of an iterator can lead. -/
def mX (es:List MapEntry) (since:Nat) (seen:List Nat):List (Option MapEntry):=
 let left:=es.filter fun e=>!(seen.contains e.born)
 let old:=left.filter fun e=>decide (e.born < since)
 let new:=left.filter fun e=>decide (e.born ≥ since)
 (if old.isEmpty then [none] else []) ++ (old ++ new).map some

def nextTo (h:AHeap) (b r since:Nat) (seen:List Nat) (clock:Nat) (K:KV):Option MapEntry → Bool
 | none=>K (.tuple #[.bool false]) h
 | some e=>bif plainB e.key then jJ e.born fun s=>setO h b (.iter (some r) since (s :: seen) clock) fun h=>K (.tuple #[.bool true,e.key,e.val]) h else false

def wNext (h:AHeap) (K:KV):Value → Bool
 | .pointer (some ⟨b,0,none⟩) =>
  match h.bl.get b with
  | some (.iter none _ _ _)=>K (.tuple #[.bool false]) h
  | some (.iter (some r) since seen last) =>
   match entriesOf (h.bl.get r) with
   | some (es,clock) =>
    bif !seen.isEmpty && !es.isEmpty && es.all (fun e=>decide (e.born ≥ last)) then false
    else bif (mX es since seen).isEmpty then false
    else (mX es since seen).all (nextTo h b r since seen clock K)
   | none=>false
  | _=>false
 | _=>false

def kR (P:Program) (call:CallT) (t:T Value) (h:AHeap) (c:Call) (K:KV):Bool:=
 match c.callee with
 | .builtin .append=>lZ P t h c K
 | .builtin .copy=>wCopy P t h c K
 | .builtin .delete=>wDelete P t h c K
 | .builtin .clear=>wClear P t h c K
 | .value f=>call (ev P t f) (evL P t c.args.toList) h K
 | _=>false

/-- An operation that writes; `call` is how a function value is called. -/
def bI (P:Program) (call:CallT) (t:T Value) (h:AHeap) (o:Oper) (K:KV):Bool:=
 match o.op with
 | .alloc e=>wAlloc P h e K
 | .box _ x=>wBox h (ev P t x) K
 | .buildSlice ty len parts=>jE P h ty len (parts.toList.map fun p=>(p.1,ev P t p.2)) K
 | .store ty a x=>mW P h ty (ev P t x) K (ev P t a)
 | .makeMap _ none=>nX h K
 | .makeMap ty (some x)=>(match mapOf P ty with|some _=>bif isIntV (ev P t x) then nX h K else false|none=>false)
 | .makeSlice ty l c=>lJ P h ty (ev P t l) (ev P t c) K
 | .mapUpdate ty m k x=>oC P h ty (ev P t k) (ev P t x) K (ev P t m)
 | .insert ty m k x=>oC P h ty (ev P t k) (ev P t x) K (ev P t m)
 | .mapEntry ty m k=>pK P h ty (ev P t k) K (ev P t m)
 | .entryStore _ m s x=>mJ h (ev P t s) (ev P t x) K (ev P t m)
 | .convert src dst x=>wDig P h src dst K (ev P t x)
 | .call c=>kR P call t h c K
 | .range ty x=>wRange P h ty K (ev P t x)
 | .next it false=>wNext h K (ev P t it)
 | _=>false

/-! ## Regions -/
def fB (t:T Value) (ops:Array Oper):Option (Nat × Bool) → Option Bool
 | none=>some true
 | some (j,want) =>
  match ops[j]? with
  | some oj =>
   match oj.dst with
   | some d =>
    match t.get d with
    | some (.bool b)=>some (beqB b want)
    | some (.tuple cs)=>bif Nat.beq cs.size 0 then some false else none
    | none=>some false
    | _=>none
   | none=>none
  | none=>none

def iV (t:T Value) (n:Nat) (dst:Option Tmp) (v:Value) (K:T Value → Bool):Bool:=
 match dst with
 | none=>K t
 | some d=>bif Nat.blt d n then fV1 v fun v=>T.setK (Nat.succ d) t d v K else false

def jP (P:Program) (call:CallT) (ops:Array Oper) (n:Nat):List Oper → T Value → AHeap → (T Value → AHeap → Bool) → Bool
 | [],t,h,K=>K t h
 | o :: rest,t,h,K =>
  match fB t ops o.guard with
  | none=>false
  | some false=>iV t n o.dst undef fun t=>jP P call ops n rest t h K
  | some true =>
   bif isW P o.op then bI P call t h o fun v h=>iV t n o.dst v fun t=>jP P call ops n rest t h K
   else
    match dE P t h o with
    | none=>false
    | some v=>iV t n o.dst v fun t=>jP P call ops n rest t h K

/-- One operation of a region that draws its order: its number, itself, whether it writes, the numbers (as bits) of those that come before it in every order. -/
structure Info where
 i:Nat
 o:Oper
 w:Bool
 pre:Nat

structure Seen where
 i:Nat
 o:Oper
 t:T Value
 v:Value

def kS (P:Program) (ops:Array Oper):List Oper → Nat → List Nat → List Info
 | [],_,_=>[]
 | o :: rest,i,bs =>
  let m:=o.after.toList.foldl (fun s e=>bif Region.binds .any e then Nat.lor (Nat.lor s (Nat.pow 2 e.on)) (bs.getD e.on 0) else s) 0
  { i:=i,o:=o,w:=isW P o.op,pre:=m } :: kS P ops rest (Nat.succ i) (bs ++ [m])

def infos (P:Program) (ops:Array Oper):List Info:=kS P ops ops.toList 0 []

def tmpsOf (ops:Array Oper) (o:Oper):List Tmp:=
 (o.op.operands.toList.filterMap fun | .tmp t=>some t|_=>none) ++ (match o.guard with|some (j,_)=>(match ops[j]? with|some oj=>oj.dst.toList|none=>[])|none=>[])

/-- Two operations, the first one's number being the smaller: ordered where one writes a temporary that the other names. -/
def pairOk (ops:Array Oper) (a b:Info):Bool:=
 Nat.testBit b.pre a.i ||
  ((match a.o.dst with|some d=>!((b.o.dst == some d) || (tmpsOf ops b.o).contains d)|none=>true) &&
   (match b.o.dst with|some d=>!((tmpsOf ops a.o).contains d)|none=>true))

def edgesOk (o:Oper) (i:Nat):Bool:=o.after.toList.all fun e=>!(Region.binds .any e) || Nat.blt e.on i

def nC (P:Program) (ops:Array Oper):Bool:=
 let l:=infos P ops
 (l.all fun a=>edgesOk a.o a.i) && (l.all fun b=>l.all fun a=>!(Nat.blt a.i b.i) || pairOk ops a b) &&
 (l.all fun a=>match a.o.guard with|none=>true|some (j,_)=>Nat.blt j ops.size)

def isReadOp:Op → Bool
 | .load _ _ | .lookup _ _ _ _ | .convert _ _ _ | .call _ | .slice _ _ _ _ _ | .entry _=>true
 | _=>false

def again (P:Program) (h:AHeap) (pre:Nat):List Seen → Bool
 | []=>true
 | s :: l =>
  (!(isReadOp s.o.op) || Nat.testBit pre s.i ||
   (match dE P s.t h s.o with|some v=>veq v s.v|none=>false)) && again P h pre l

/-- Takes out the first operation that reads and is ready. -/
def iK (done:Nat):List Info → Option (Info × List Info)
 | []=>none
 | a :: l =>
  bif !a.w && Nat.beq (Nat.land a.pre done) a.pre then some (a,l)
  else match iK done l with
   | some (b,l)=>some (b,a :: l)
   | none=>none

/-- Each one taken out. -/
def splits:List Info → List (Info × List Info)
 | []=>[]
 | a :: l=>(a,l) :: (splits l).map fun p=>(p.1,a :: p.2)

/-- The operations that write and are ready: any of them can come next. -/
def dN (done:Nat) (l:List Info):List (Info × List Info):=(splits l).filter fun p=>p.1.w && Nat.beq (Nat.land p.1.pre done) p.1.pre

def allB {α:Type}:List α → (α → Bool) → Bool
 | [],_=>true
 | a :: l,f =>
  match l with
  | []=>f a
  | b :: r=>f a && allB (b :: r) f

/-- The allocations of a region, by their places. -/
def allocsOf:List Oper → Nat → List Nat
 | [],_=>[]
 | o :: l,i =>
  match o.op with
  | .alloc _=>i :: allocsOf l (Nat.succ i)
  | _=>allocsOf l (Nat.succ i)

/-- A number is set aside for each. -/
def resGo:List Nat → AHeap → List (Nat × Nat) → (List (Nat × Nat) → AHeap → Bool) → Bool
 | [],h,ids,K=>K ids h
 | i :: l,h,ids,K=>jJ h.nx fun r=>T.setK (Nat.succ r) h.fams r [] fun fams=>jJ (Nat.succ r) fun nx=>resGo l ⟨h.bl,nx,fams⟩ ((i,r) :: ids) K

def idAt:List (Nat × Nat) → Nat → Option Nat
 | [],_=>none
 | p :: l,i=>bif Nat.beq p.1 i then some p.2 else idAt l i

def jU (P:Program) (call:CallT) (t:T Value) (h:AHeap) (o:Oper) (id:Option Nat) (K:KV):Bool:=
 match id with
 | none=>bI P call t h o K
 | some r =>
  match o.op with
  | .alloc e=>pJ P h e r K
  | _=>false

/-- The value with which a new variable starts: is it known? -/
def isVar (P:Program):Op → Bool
 | .alloc el=>(zeroOf P el).isSome
 | _=>false

/-- A new variable that waits for nothing. -/
def rW (P:Program) (x:Info):Bool:=isVar P x.o.op && (match x.o.guard with|none=>Nat.beq x.pre 0|some _=>false)

/-- Whatever names the variable x comes behind all the other writes (or behind none of those that x is not itself ordered with). -/
def lateOk (P:Program) (l:List Info) (x:Info):Bool:=
 l.all fun z=>!(Nat.testBit z.pre x.i) || l.all fun c=>!c.w || rW P c || Nat.testBit c.pre x.i || Nat.testBit z.pre c.i

def maskOf:List Info → Nat
 | []=>0
 | x :: l=>Nat.lor (maskOf l) (Nat.pow 2 x.i)

/-- The variables that are made last of all, though they may be made earlier. -/
def floats (P:Program) (ops:Array Oper):Nat:=
 let l:=infos P ops
 bif (l.filter (rW P)).all (lateOk P l) then maskOf (l.filter (rW P)) else 0

/-- Which of the ready writes are run: the floating ones only when no other is left. -/
def chosen (fl:Nat) (l:List (Info × List Info)):List (Info × List Info):=
 match l.filter (fun p=>!(Nat.testBit fl p.1.i)) with
 | []=>l
 | p :: ps=>p :: ps

def jV (P:Program) (call:CallT) (t:T Value) (h:AHeap) (o:Oper) (late:Bool) (id:Option Nat) (K:KV):Bool:=
 bif late then (match id with|some r=>jU P call t h o (some r) K|none=>false) else jU P call t h o id K

def bQ (P:Program) (call:CallT) (ops:Array Oper) (n:Nat) (fl:Nat) (ids:List (Nat × Nat)):Nat → List Info → Nat → List Seen → T Value → AHeap → (T Value → AHeap → Bool) → Bool
 | 0,_,_,_,_,_,_=>false
 | Nat.succ f,todo,done,hist,t,h,K =>
  match iK done todo with
  | some (a,rest) =>
   match fB t ops a.o.guard with
   | none=>false
   | some false=>iV t n a.o.dst undef fun t=>jJ (Nat.lor done (Nat.pow 2 a.i)) fun done=>bQ P call ops n fl ids f rest done hist t h K
   | some true =>
    match dE P t h a.o with
    | none=>false
    | some v=>fV1 v fun v=>iV t n a.o.dst v fun t'=>jJ (Nat.lor done (Nat.pow 2 a.i)) fun done =>
     bQ P call ops n fl ids f rest done ({ i:=a.i,o:=a.o,t:=t,v:=v } :: hist) t' h K
  | none =>
   match chosen fl (dN done todo) with
   | []=>(match todo with|[]=>K t h|_=>false)
   | p :: ps=>allB (p :: ps) fun ar =>
    match fB t ops ar.1.o.guard with
    | none=>false
    | some false=>iV t n ar.1.o.dst undef fun t=>jJ (Nat.lor done (Nat.pow 2 ar.1.i)) fun done=>bQ P call ops n fl ids f ar.2 done hist t h K
    | some true =>
     jV P call t h ar.1.o (Nat.testBit fl ar.1.i) (idAt ids ar.1.i) fun v h'=>bif again P h' ar.1.pre hist then
      iV t n ar.1.o.dst v fun t=>jJ (Nat.lor done (Nat.pow 2 ar.1.i)) fun done=>bQ P call ops n fl ids f ar.2 done hist t h' K
     else false

/-- Can of two operations that write either come first? -/
def manyW (P:Program) (ops:Array Oper):Bool:=
 let l:=(infos P ops).filter fun a=>a.w
 l.any fun b=>l.any fun a=>Nat.blt a.i b.i && !(Nat.testBit b.pre a.i)

/-- The same of two that are both left for the end, or both not. -/
def manyF (P:Program) (ops:Array Oper) (fl:Nat):Bool:=
 let l:=(infos P ops).filter fun a=>a.w
 l.any fun b=>l.any fun a=>Nat.blt a.i b.i && !(Nat.testBit b.pre a.i) && beqB (Nat.testBit fl a.i) (Nat.testBit fl b.i)

/-- The head of a trie, written out. -/
def fT {α β:Type} (t:T α) (K:T α → β):β:=
 match t with
 | .leaf=>K .leaf
 | .node l x r=>K (.node l x r)

theorem fT_eq {α β:Type} (t:T α) (K:T α → β):fT t K = K t:=by cases t<;>rfl

/-- Where ways meet again: what comes behind is asked apart, so that it is reckoned once. -/
def joinK (many:Bool) (K:T Value → AHeap → Bool):T Value → AHeap → Bool:=
 bif many then fun t h=>fT t fun t=>fT h.bl fun bl=>jJ h.nx fun nx=>fT h.fams fun fams=>bif K t ⟨bl,nx,fams⟩ then true else false else K

def iC (P:Program) (call:CallT) (ops:Array Oper) (draw:Bool) (n:Nat) (t:T Value) (h:AHeap) (K:T Value → AHeap → Bool):Bool:=
 bif draw then
  bif nC P ops then
   bif manyW P ops then jJ (floats P ops) fun fl=>resGo (allocsOf ops.toList 0) h [] fun ids h=>bQ P call ops n fl ids (Nat.succ ops.size) (infos P ops) 0 [] t h (joinK (manyF P ops fl) K)
   else bQ P call ops n 0 [] (Nat.succ ops.size) (infos P ops) 0 [] t h K
  else false
 else jP P call ops n ops.toList t h K

/-! ## Code and calls -/
abbrev KT:=Exit → T Value → AHeap → List Nat → Bool

def aX {β:Type}:List Value → Nat → T Value → (T Value → β) → β
 | [],_,t,K=>K t
 | v :: l,i,t,K=>fV1 v fun v=>T.setK (Nat.succ i) t i v fun t=>aX l (Nat.succ i) t K

def iD {β:Type}:List Tmp → List Value → T Value → (T Value → β) → β
 | p :: ps,v :: vs,t,K=>fV1 v fun v=>T.setK (Nat.succ p) t p v fun t=>iD ps vs t K
 | _,_,t,K=>K t

def bK (P:Program) (h:AHeap) (t:T Value):List ResultVar → Option (List Value)
 | []=>some []
 | .tmp i :: l =>
  match bK P h t l with
  | some vs=>some (ev P t (.tmp i) :: vs)
  | none=>none
 | .cell i ty :: l =>
  match ev P t (.tmp i) with
  | .pointer (some ⟨b,off,none⟩) =>
   match h.bl.get b with
   | some (.cells c _ _) =>
    match dD P ty c off,bK P h t l with
    | some v,some vs=>some (v :: vs)
    | _,_=>none
   | _=>none
  | _=>none

def result1:List Value → Value
 | [v]=>v
 | vs=>.tuple ⟨vs⟩

def aI (h:AHeap):List Nat → (AHeap → Bool) → Bool
 | [],K=>K h
 | d :: ds,K =>
  match h.bl.get d with
  | some (.deferred true)=>setO h d (.deferred false) fun h=>aI h ds K
  | _=>false

abbrev ExT:=Nat → Option Nat → Code → T Value → AHeap → List Nat → KT → Bool

def finish (P:Program) (fn:Func) (K:KV) (e:Exit) (t:T Value) (h:AHeap) (ds:List Nat):Bool:=
 match e with
 | .normal | .ret =>
  aI h ds fun h =>
  match bK P h t fn.results.toList with
  | some vs=>K (result1 vs) h
  | none=>false
 | _=>false

def iE (ex:ExT) (P:Program) (fn:Func) (c:Code) (args:List Value) (h:AHeap) (K:KV):Bool:=
 bif fn.name == "runtime.NumGoroutine" then false
 else bif Nat.ble args.length fn.ntmps then
  aX args 0 .leaf fun t=>ex fn.ntmps none c t h [] (finish P fn K)
 else false

/-- A map that maps.clone is given. -/
def cloneArg (fn:Func):List Value → Option (TypeId × Nat)
 | [.iface t (.map (some r))]=>bif fn.name == "maps.clone" && fn.origin =="" then some (t,r) else none
 | _=>none

def dU (P:Program) (ex:ExT) (g:FuncId) (args:List Value) (h:AHeap) (K:KV):Bool:=
 match P.funcs[g]? with
 | none=>false
 | some fn =>
  match fn.body with
  | some c=>iE ex P fn c args h K
  | none =>
   match cloneArg fn args with
   | some (t,r) =>
    match entriesOf (h.bl.get r) with
    | some (es,clock)=>newO h (.map es clock) fun b h=>K (.iface t (.map (some b))) h
    | none=>false
   | none =>
    bif plainL args then
     match pureOf P (callFunc g ⟨args⟩) with
     | some (.value v)=>bif plainB v then K v h else false
     | _=>false
    else false

/-- Calling a function that has a body. -/
def vX (P:Program) (ex:ExT) (f:Value) (args:List Value) (h:AHeap) (K:KV):Bool:=
 match f with
 | .func (.func g) first captured =>
  match P.funcs[g]? with
  | none=>false
  | some fn =>
   match fn.body with
   | some c=>iE ex P fn c (first.toList ++ args ++ captured.toList) h K
   | none=>false
 | _=>false

def kD (h:AHeap) (l:Nat) (st:LoopState) (pe:Option Code) (K:AHeap → Bool):Bool:=
 match h.bl.get l with
 | some (.loop _ _ tl nl ps as bo df)=>setO h l (.loop st pe tl nl ps as bo df) K
 | _=>false

def roundEnd (l:Nat) (K:KV) (e:Exit) (_:T Value) (h:AHeap) (_:List Nat):Bool:=
 match e with
 | .normal=>kD h l .ready none fun h=>K (.bool true) h
 | .ret=>kD h l .done (some .ret) fun h=>K (.bool false) h
 | .exit id=>kD h l .done (some (.exit id)) fun h=>K (.bool false) h
 | _=>false

def beginK (h:AHeap) (l:Nat) (K:AHeap → Bool):Bool:=
 match h.bl.get l with
 | some (.loop .ready pe tl nl ps as bo df)=>setO h l (.loop .busy pe tl nl ps as bo df) K
 | _=>false

def uJ (ex:ExT) (l nl:Nat) (body:Code) (K:KV) (e:Exit) (t:T Value) (h:AHeap) (ds:List Nat):Bool:=
 match e with
 | .normal =>
  match ds with
  | []=>beginK h l fun h=>ex nl (some l) body t h [] (roundEnd l K)
  | _=>false
 | _=>false

def qL (ex:ExT) (l:Nat) (args:List Value) (h:AHeap) (K:KV):Bool:=
 match h.bl.get l with
 | some (.loop _ _ tl nl ps assign body _) =>
  bif Nat.beq args.length ps.size && ps.toList.all (fun p=>Nat.blt p nl) then
   iD ps.toList args tl fun t=>ex nl (some l) assign t h [] (uJ ex l nl body K)
  else false
 | _=>false

def cZ (P:Program) (ex:ExT) (f:Value) (args:List Value) (h:AHeap) (K:Value → AHeap → Bool):Bool:=
 match f with
 | .func (.func g) first captured=>dU P ex g (first.toList ++ args ++ captured.toList) h K
 | .func (.yield l) first _=>qL ex l (first.toList ++ args) h K
 | _=>false

/-- Behind the call of the function that is ranged over. -/
def after (ex:ExT) (n:Nat) (rd:Option Nat) (t:T Value) (ds:List Nat) (K:KT) (l:Nat) (h:AHeap):Bool:=
 match h.bl.get l with
 | some (.loop st pe _ _ _ _ _ _) =>
  match st with
  | .busy=>false
  | _ =>
   setO h l .gone fun h =>
   match pe with
   | none=>K .normal t h ds
   | some c=>ex n rd c t h ds K
 | _=>false

def eF (P:Program) (ex:ExT) (n:Nat) (rd:Option Nat) (c:Code) (t:T Value) (h:AHeap) (ds:List Nat) (K:KT):Bool:=
 match c with
 | .skip=>K .normal t h ds
 | .region _ ops draw=>iC P (cZ P ex) ops draw n t h fun t h=>K .normal t h ds
 | .seq a b=>ex n rd a t h ds fun e t h ds=>match e with | .normal=>ex n rd b t h ds K|e=>K e t h ds
 | .cond x a b =>
  match ev P t x with
  | .bool true=>ex n rd a t h ds K
  | .bool false=>ex n rd b t h ds K
  | _=>false
 | .block id b=>ex n rd b t h ds fun e t h ds =>
  match e with
  | .exit id'=>bif Nat.beq id' id then K .normal t h ds else K (.exit id') t h ds
  | e=>K e t h ds
 | .loop b=>ex n rd b t h ds fun e t h ds=>match e with | .normal=>ex n rd (.loop b) t h ds K|e=>K e t h ds
 | .exit id=>K (.exit id) t h ds
 | .ret=>K .ret t h ds
 | .label _=>K .normal t h ds
 | .scope b=>ex n rd b t h ds fun e t h ds=>match e with | .goto _=>false|e=>K e t h ds
 | .rangeFunc f ps assign body =>
  match rd with
  | none =>
   newO h (.deferred true) fun d h =>
   newO h (.loop .ready none t n ps assign body d) fun l h =>
   vX P ex (ev P t f) [.func (.yield l) #[] #[]] h fun _ h=>after ex n rd t (d :: ds) K l h
  | some r =>
   match h.bl.get r with
   | some (.loop _ _ _ _ _ _ _ d) =>
    newO h (.loop .ready none t n ps assign body d) fun l h =>
    vX P ex (ev P t f) [.func (.yield l) #[] #[]] h fun _ h=>after ex n rd t ds K l h
   | _=>false
 | _=>false

def exec (P:Program):Nat → ExT
 | 0=>fun _ _ _ _ _ _ _=>false
 | Nat.succ f=>eF P (exec P f)

end Go.Ev

/- The relation between the evaluator's state and the world. -/
namespace Go.Ev
open Go.RowKit

/-! ## The tree -/
def T.set {α:Type} (f:Nat) (t:T α) (k:Nat) (v:α):T α:=T.setK f t k v id

theorem T.setK_eq {α:Type} (f:Nat):∀ (β:Type) (t:T α) (k:Nat) (v:α) (K:T α → β),T.setK f t k v K = K (T.set f t k v):=by
 induction f with
 | zero=>intro β t k v K; rfl
 | succ f ih =>
  intro β t k v K
  cases k with
  | zero=>cases t<;>rfl
  | succ k =>
   cases t with
   | leaf =>
    simp only [T.set,T.setK]
    cases h:Nat.beq (Nat.mod k 2) 0<;>simp only [cond_true,cond_false]<;>rw [ih,ih (T α)]<;>rfl
   | node l x r =>
    simp only [T.set,T.setK]
    cases h:Nat.beq (Nat.mod k 2) 0<;>simp only [cond_true,cond_false]<;>rw [ih,ih (T α)]<;>rfl

theorem T.get_leaf {α:Type} (k:Nat):(T.leaf:T α).get k = none:=by cases k<;>rfl

theorem T.set_node {α:Type} (f:Nat) (l:T α) (x:Option α) (r:T α) (k:Nat) (v:α) :
  T.set (f + 1) (.node l x r) (k + 1) v = if k % 2 = 0 then .node (T.set f l (k / 2) v) x r else .node l x (T.set f r (k / 2) v):=by
 simp only [T.set,T.setK]
 by_cases h:k % 2 = 0
 ·have:Nat.beq (Nat.mod k 2) 0 = true:=by rw [show Nat.mod k 2 = 0 from h]; rfl
  rw [if_pos h,this,cond_true,T.setK_eq]; rfl
 ·have:Nat.beq (Nat.mod k 2) 0 = false:=by
   cases e:Nat.beq (Nat.mod k 2) 0 with
   | false=>rfl
   | true=>exact absurd (Nat.eq_of_beq_eq_true e) h
  rw [if_neg h,this,cond_false,T.setK_eq]; rfl

theorem T.set_leaf {α:Type} (f:Nat) (k:Nat) (v:α):T.set (f + 1) (.leaf:T α) (k + 1) v = T.set (f + 1) (.node .leaf none .leaf) (k + 1) v:=by
 simp only [T.set,T.setK]

theorem T.get_node {α:Type} (l:T α) (x:Option α) (r:T α) (k:Nat):(T.node l x r).get (k + 1) = if k % 2 = 0 then l.get (k / 2) else r.get (k / 2):=by
 simp only [T.get]
 by_cases h:k % 2 = 0
 ·have:Nat.beq (Nat.mod k 2) 0 = true:=by rw [show Nat.mod k 2 = 0 from h]; rfl
  rw [if_pos h,this,cond_true]; rfl
 ·have:Nat.beq (Nat.mod k 2) 0 = false:=by
   cases e:Nat.beq (Nat.mod k 2) 0 with
   | false=>rfl
   | true=>exact absurd (Nat.eq_of_beq_eq_true e) h
  rw [if_neg h,this,cond_false]; rfl

theorem T.get_set {α:Type} (f:Nat):∀ (t:T α) (k:Nat) (v:α) (k':Nat),k < f → (T.set f t k v).get k' = if k' = k then some v else t.get k':=by
 induction f with
 | zero=>intro t k v k' h; omega
 | succ f ih =>
  intro t k v k' h
  cases k with
  | zero =>
   cases t with
   | leaf=>cases k'<;>simp [T.set,T.setK,T.get]
   | node l x r=>cases k'<;>simp [T.set,T.setK,T.get]
  | succ k =>
   have hd:k / 2 < f:=by omega
   have main:∀ (l:T α) (x:Option α) (r:T α),(T.set (f + 1) (.node l x r) (k + 1) v).get k' = if k' = k + 1 then some v else (T.node l x r).get k':=by
    intro l x r
    rw [T.set_node]
    cases k' with
    | zero=>by_cases h0:k % 2 = 0<;>simp [h0,T.get]
    | succ k' =>
     rw [T.get_node]
     by_cases h0:k % 2 = 0<;>by_cases h1:k' % 2 = 0
     ·rw [if_pos h0,if_pos h1,T.get_node,if_pos h1,ih _ _ _ _ hd]
      by_cases e:k' = k
      ·subst e; simp
      ·rw [if_neg (by omega),if_neg (by omega)]
     ·rw [if_pos h0,if_neg h1,T.get_node,if_neg h1,if_neg (by omega)]
     ·rw [if_neg h0,if_pos h1,T.get_node,if_pos h1,if_neg (by omega)]
     ·rw [if_neg h0,if_neg h1,T.get_node,if_neg h1,ih _ _ _ _ hd]
      by_cases e:k' = k
      ·subst e; simp
      ·rw [if_neg (by omega),if_neg (by omega)]
   cases t with
   | leaf =>
    rw [T.set_leaf,main,T.get_leaf]
    cases k' with
    | zero=>simp [T.get]
    | succ k'=>rw [T.get_node,T.get_leaf]; simp
   | node l x r=>exact main l x r

/-! ## Forcing changes nothing -/
theorem bP {β:Type} (n:Nat) (K:Nat → β):jJ n K = K n:=by cases n<;>rfl
theorem fInt_eq {β:Type} (n:Int) (K:Int → β):fInt n K = K n:=by cases n<;>simp [fInt,bP]
theorem fBool_eq {β:Type} (n:Bool) (K:Bool → β):fBool n K = K n:=by cases n<;>rfl
theorem fAddr_eq {β:Type} (a:Addr) (K:Addr → β):fAddr a K = K a:=by
 obtain ⟨b,o,s⟩:=a
 cases s<;>simp [fAddr,bP]
theorem fBytes_eq {β:Type}:∀ (l:List UInt8) (K:List UInt8 → β),fBytes l K = K l
 | [],_=>rfl
 | b :: l,K=>by simp [fBytes,fBytes_eq l]
theorem dJ {α β:Type}:∀ (l:List α) (K:List α → β),rV l K = K l
 | [],_=>rfl
 | b :: l,K=>by simp [rV,dJ l]
mutual
theorem fV_eq {β:Type}:∀ (v:Value) (K:Value → β),fV v K = K v
 | .int k n,K=>by simp [fV,fInt_eq]
 | .bool b,K=>by simp [fV,fBool_eq]
 | .pointer (some a),K=>by simp [fV,fAddr_eq]
 | .pointer none,K=>by simp [fV]
 | .slice (some a) n c,K=>by simp [fV,fAddr_eq,bP]
 | .slice none n c,K=>by simp [fV]
 | .string ⟨⟨l⟩⟩,K=>by simp [fV,fBytes_eq]
 | .agg cs,K=>by simp [fV,fA_eq cs]
 | .tuple cs,K=>by simp [fV,fA_eq cs]
 | .func f a b,K=>by simp [fV,fA_eq a,fA_eq b]
 | .iface t v,K=>by simp [fV,fV_eq v]
 | .float _ _,K=>by simp [fV]
 | .complex _ _ _,K=>by simp [fV]
 | .map _,K=>by simp [fV]
 | .chan _,K=>by simp [fV]
 | .nilFunc,K=>by simp [fV]
 | .nilIface,K=>by simp [fV]
theorem fA_eq {β:Type}:∀ (v:Array Value) (K:Array Value → β),fA v K = K v
 | ⟨l⟩,K=>by simp [fA,fL_eq l]
theorem fL_eq {β:Type}:∀ (v:List Value) (K:List Value → β),fL v K = K v
 | [],K=>by simp [fL]
 | v :: l,K=>by simp [fL,fV_eq v,fL_eq l]
end
theorem aZ {β:Type} (v:Value) (K:Value → β):fV1 v K = K v:=by
 unfold fV1
 split
 all_goals try simp [fInt_eq,fBool_eq,fAddr_eq,fV_eq,fL_eq]
 all_goals (rename_i l; cases longL 64 l<;>rfl)

/-! ## Values -/
/-- Where the evaluator's blocks lie: block and offset; and of a block that an append made: of how many cells its elements are, and up to which offset cells are there. -/
structure M where
 f:Nat → Option (Nat × Nat)
 sp:Nat → Option (Nat × Nat)
instance:CoeFun M (fun _=>Nat → Option (Nat × Nat)):=⟨M.f⟩
def M.le (m m':M):Prop:=(∀ b x,m b = some x → m' b = some x) ∧ (∀ b x,m.sp b = some x → m'.sp b = some x)
theorem M.le_refl (m:M):M.le m m:=⟨fun _ _ h=>h,fun _ _ h=>h⟩
theorem M.le_trans {a b c:M} (h:M.le a b) (k:M.le b c):M.le a c:=⟨fun x y e=>k.1 x y (h.1 x y e),fun x y e=>k.2 x y (h.2 x y e)⟩

mutual
/-- The evaluator's value (left) stands for the world's (right). -/
inductive VR (m:M):Value → Value → Prop
 | any (k:FloatKind) (x y:Nat) (v:Value):VR m (.complex k x y) v
 | bool (b:Bool):VR m (.bool b) (.bool b)
 | int (k:IntKind) (n:Int):VR m (.int k n) (.int k n)
 | float (k:FloatKind) (n:Nat):VR m (.float k n) (.float k n)
 | string (s:ByteArray):VR m (.string s) (.string s)
 | nilPtr:VR m (.pointer none) (.pointer none)
 | ptr {b B d:Nat} (off:Nat) (h:m b = some (B,d)):VR m (.pointer (some ⟨b,off,none⟩)) (.pointer (some ⟨B,off + d,none⟩))
 | nilSl:VR m (.slice none 0 0) (.slice none 0 0)
 | sl {b B d:Nat} (off len cap cap':Nat) (h:m b = some (B,d)) (hc:cap ≤ cap') (hz:cap' = cap ∨ ∃ z E,m.sp b = some (z,E) ∧ off + d + cap' * z ≤ E):VR m (.slice (some ⟨b,off,none⟩) len cap) (.slice (some ⟨B,off + d,none⟩) len cap')
 | emp (a:Option Addr) (cap:Nat):VR m emptyS (.slice a 0 cap)
 | nilMap:VR m (.map none) (.map none)
 | map {r R d:Nat} (h:m r = some (R,d)):VR m (.map (some r)) (.map (some R))
 | nilChan:VR m (.chan none) (.chan none)
 | func (f:FuncId) {a a' c c':Array Value} (h:LR m a.toList a'.toList) (h':LR m c.toList c'.toList):VR m (.func (.func f) a c) (.func (.func f) a' c')
 | yield {l L d:Nat} {a a' c c':Array Value} (hl:m l = some (L,d)) (h:LR m a.toList a'.toList) (h':LR m c.toList c'.toList):VR m (.func (.yield l) a c) (.func (.yield L) a' c')
 | nilFunc:VR m .nilFunc .nilFunc
 | nilIface:VR m .nilIface .nilIface
 | iface (t:TypeId) {v v':Value} (h:VR m v v'):VR m (.iface t v) (.iface t v')
 | agg {a a':Array Value} (h:LR m a.toList a'.toList) (h1:∀ v ∈ a'.toList,oneB v = true):VR m (.agg a) (.agg a')
 | tuple {a a':Array Value} (h:LR m a.toList a'.toList):VR m (.tuple a) (.tuple a')
inductive LR (m:M):List Value → List Value → Prop
 | nil:LR m [] []
 | cons {v v':Value} {l l':List Value} (h:VR m v v') (ht:LR m l l'):LR m (v :: l) (v' :: l')
end

mutual
theorem VR.mono {m m':M} (h:M.le m m'):∀ {v v':Value},VR m v v' → VR m' v v'
 | _,_,.any k x y v=>.any k x y v
 | _,_,.bool b=>.bool b
 | _,_,.int k n=>.int k n
 | _,_,.float k n=>.float k n
 | _,_,.string s=>.string s
 | _,_,.nilPtr=>.nilPtr
 | _,_,.ptr off e=>.ptr off (h.1 _ _ e)
 | _,_,.nilSl=>.nilSl
 | _,_,.sl off len cap cap' e hc hz=>.sl off len cap cap' (h.1 _ _ e) hc (hz.imp id fun ⟨z,E,a,b⟩=>⟨z,E,h.2 _ _ a,b⟩)
 | _,_,.emp a cap=>.emp a cap
 | _,_,.nilMap=>.nilMap
 | _,_,.map e=>.map (h.1 _ _ e)
 | _,_,.nilChan=>.nilChan
 | _,_,.func f a c=>.func f (LR.mono h a) (LR.mono h c)
 | _,_,.yield e a c=>.yield (h.1 _ _ e) (LR.mono h a) (LR.mono h c)
 | _,_,.nilFunc=>.nilFunc
 | _,_,.nilIface=>.nilIface
 | _,_,.iface t v=>.iface t (VR.mono h v)
 | _,_,.agg a h1=>.agg (LR.mono h a) h1
 | _,_,.tuple a=>.tuple (LR.mono h a)
theorem LR.mono {m m':M} (h:M.le m m'):∀ {v v':List Value},LR m v v' → LR m' v v'
 | _,_,.nil=>.nil
 | _,_,.cons a l=>.cons (VR.mono h a) (LR.mono h l)
end

theorem LR.length {m:M}:∀ {l l':List Value},LR m l l' → l.length = l'.length
 | _,_,.nil=>rfl
 | _,_,.cons _ h=>by simp [LR.length h]

theorem LR.get {m:M}:∀ {l l':List Value},LR m l l' → ∀ (i:Nat) (v:Value),l[i]? = some v → ∃ v',l'[i]? = some v' ∧ VR m v v'
 | _,_,.nil,i,v,h=>by simp at h
 | _,_,.cons a h,0,v,e=>by simp at e; subst e; exact ⟨_,rfl,a⟩
 | _,_,.cons a h,i + 1,v,e=>by simpa using LR.get h i v (by simpa using e)

theorem LR.append {m:M}:∀ {a a' b b':List Value},LR m a a' → LR m b b' → LR m (a ++ b) (a' ++ b')
 | _,_,_,_,.nil,h=>h
 | _,_,_,_,.cons x h,k=>.cons x (LR.append h k)

theorem LR.take {m:M}:∀ {l l':List Value},LR m l l' → ∀ n,LR m (l.take n) (l'.take n)
 | _,_,.nil,n=>by simp; exact .nil
 | _,_,.cons a h,0=>by simp; exact .nil
 | _,_,.cons a h,n + 1=>by simp only [List.take_succ_cons]; exact .cons a (LR.take h n)

theorem LR.drop {m:M}:∀ {l l':List Value},LR m l l' → ∀ n,LR m (l.drop n) (l'.drop n)
 | _,_,.nil,n=>by simp; exact .nil
 | _,_,.cons a h,0=>by simp only [List.drop_zero]; exact .cons a h
 | _,_,.cons a h,n + 1=>by simp only [List.drop_succ_cons]; exact LR.drop h n

theorem fC (m:M):VR m undef undef:=.tuple .nil

theorem oneB_eq (v:Value):oneB v = v.oneCell':=by cases v<;>rfl
theorem oneL_mem:∀ {l:List Value},oneL l = true → ∀ v ∈ l,oneB v = true
 | [],_,v,h=>by simp at h
 | a :: l,e,v,h=>by
  simp only [oneL,Bool.and_eq_true] at e
  cases h with
  | head=>exact e.1
  | tail _ h=>exact oneL_mem e.2 v h

mutual
theorem eH (m:M):∀ (v:Value),plainB v = true → VR m v v
 | .bool b,_=>.bool b
 | .int k n,_=>.int k n
 | .float k n,_=>.float k n
 | .string s,_=>.string s
 | .pointer none,_=>.nilPtr
 | .pointer (some _),h=>by simp [plainB] at h
 | .slice none 0 0,_=>.nilSl
 | .slice none 0 (_ + 1),h=>by simp [plainB] at h
 | .slice none (_ + 1) _,h=>by simp [plainB] at h
 | .slice (some _) _ _,h=>by simp [plainB] at h
 | .map none,_=>.nilMap
 | .map (some _),h=>by simp [plainB] at h
 | .chan none,_=>.nilChan
 | .chan (some _),h=>by simp [plainB] at h
 | .nilFunc,_=>.nilFunc
 | .nilIface,_=>.nilIface
 | .iface t v,h=>.iface t (eH m v (by simpa [plainB] using h))
 | .agg cs,h=>by
  simp only [plainB,Bool.and_eq_true] at h
  refine .agg (oD m cs h.1) ?_
  obtain ⟨l⟩:=cs
  exact oneL_mem h.2
 | .tuple cs,h=>.tuple (oD m cs (by simpa [plainB] using h))
 | .func (.func f) a b,h=>by
  simp only [plainB,Bool.and_eq_true] at h
  exact .func f (oD m a h.1) (oD m b h.2)
 | .func (.method _) _ _,h=>by simp [plainB] at h
 | .func (.methodOf _ _) _ _,h=>by simp [plainB] at h
 | .func (.via _ _ _ _) _ _,h=>by simp [plainB] at h
 | .func (.yield _) _ _,h=>by simp [plainB] at h
 | .complex _ _ _,h=>by simp [plainB] at h
theorem oD (m:M):∀ (a:Array Value),plainA a = true → LR m a.toList a.toList
 | ⟨l⟩,h=>vY m l (by simpa [plainA] using h)
theorem vY (m:M):∀ (l:List Value),plainL l = true → LR m l l
 | [],_=>.nil
 | v :: l,h=>by
  simp only [plainL,Bool.and_eq_true] at h
  exact .cons (eH m v h.1) (vY m l h.2)
end

mutual
/-- A value without addresses stands for itself alone. -/
theorem rX {m:M}:∀ (v v':Value),plainB v = true → VR m v v' → v = v'
 | .bool b,_,_,.bool _=>rfl
 | .int k n,_,_,.int _ _=>rfl
 | .float k n,_,_,.float _ _=>rfl
 | .string s,_,_,.string _=>rfl
 | .pointer _,_,_,.nilPtr=>rfl
 | .pointer _,_,h,.ptr _ _=>by simp [plainB] at h
 | .slice _ _ _,_,_,.nilSl=>rfl
 | .slice _ _ _,_,h,.sl _ _ _ _ _ _ _=>by simp [plainB] at h
 | .slice _ _ _,_,h,.emp _ _=>by simp [plainB] at h
 | .map _,_,_,.nilMap=>rfl
 | .map _,_,h,.map _=>by simp [plainB] at h
 | .chan _,_,_,.nilChan=>rfl
 | .nilFunc,_,_,.nilFunc=>rfl
 | .nilIface,_,_,.nilIface=>rfl
 | .iface t v,_,h,.iface _ h'=>by
  have:=rX v _ (by simpa [plainB] using h) h'
  rw [this]
 | .agg a,.agg a',h,.agg h' _=>by
  simp only [plainB,Bool.and_eq_true] at h
  rw [uK a a' h.1 h']
 | .tuple a,.tuple a',h,.tuple h'=>by rw [uK a a' (by simpa [plainB] using h) h']
 | .func (.func f) a b,.func _ a' b',h,.func _ h1 h2=>by
  simp only [plainB,Bool.and_eq_true] at h
  rw [uK a a' h.1 h1,uK b b' h.2 h2]
 | .func (.yield _) _ _,_,h,.yield _ _ _=>by simp [plainB] at h
 | .complex _ _ _,_,h,.any _ _ _ _=>by simp [plainB] at h
theorem uK {m:M}:∀ (a a':Array Value),plainA a = true → LR m a.toList a'.toList → a = a'
 | ⟨l⟩,⟨l'⟩,h,hr=>by rw [pM l l' (by simpa [plainA] using h) hr]
theorem pM {m:M}:∀ (l l':List Value),plainL l = true → LR m l l' → l = l'
 | [],_,_,.nil=>rfl
 | v :: l,_,h,.cons h1 h2=>by
  simp only [plainL,Bool.and_eq_true] at h
  rw [rX v _ h.1 h1,pM l _ h.2 h2]
end

end Go.Ev

/- The state's relation; operations that only read. -/
namespace Go.Ev
open Go.RowKit

/-! ## The state -/
inductive ER (m:M):List MapEntry → List MapEntry → Prop
 | nil:ER m [] []
 | cons {e e':MapEntry} {l l':List MapEntry} (hk:e.key = e'.key) (hb:e.born = e'.born) (hv:VR m e.val e'.val) (h:ER m l l'):ER m (e :: l) (e' :: l')

theorem ER.mono {m m':M} (h:M.le m m'):∀ {l l':List MapEntry},ER m l l' → ER m' l l'
 | _,_,.nil=>.nil
 | _,_,.cons a b c d=>.cons a b (c.mono h) (ER.mono h d)

/-- The temporaries. -/
def TR (m:M) (t:T Value) (n:Nat) (a:Array Value):Prop:=a.size = n ∧ ∀ i,VR m (tget t i) (a.getD i undef)

theorem TR.mono {m m':M} (h:M.le m m') {t:T Value} {n:Nat} {a:Array Value} (k:TR m t n a):TR m' t n a:=⟨k.1,fun i=>(k.2 i).mono h⟩

def IR (m:M):Option Nat → Option Nat → Prop
 | none,mm=>mm = none
 | some r,mm=>∃ R d,m r = some (R,d) ∧ mm = some R
theorem IR.mono {m m':M} (h:M.le m m'):∀ {a b:Option Nat},IR m a b → IR m' a b
 | none,_,k=>k
 | some _,_,⟨R,d,k1,k2⟩=>⟨R,d,h.1 _ _ k1,k2⟩

def OR (m:M) (w:World) (B d:Nat):AObj → Prop
 | .cells c _ ro=>∀ i v,c[i]? = some v → ∃ v',w.cell? ⟨B,d + i,none⟩ = some v' ∧ VR m v v' ∧ oneB v' = true ∧ (ro = false → w.frozen? ⟨B,d + i,none⟩ = false)
 | .map es clock=>∃ es',w.heap[B]? = some (.map es' clock) ∧ ER m es es'.toList
 | .loop st pe t n ps as bo df=>∃ L,w.heap[B]? = some (.loop L) ∧ L.state = st ∧ L.pending = pe ∧ TR m t n L.tmps ∧ L.params = ps ∧ L.assign = as ∧ L.body = bo ∧ ∃ d',m df = some (L.defers,d')
 | .deferred live=>w.heap[B]? = some (.deferred (if live then some [] else none))
 | .gone=>∃ L,w.heap[B]? = some (.loop L)
 | .tab c=>∃ t fr,w.heap[B]? = some (.cells c.toArray t fr)
 | .iter mm since seen last=>d = 0 ∧ ∃ mm',w.heap[B]? = some (.mapIter mm' since seen.reverse.toArray last) ∧ IR m mm mm'

theorem OR.mono {m m':M} (h:M.le m m') {w:World} {B d:Nat} {o:AObj} (k:OR m w B d o):OR m' w B d o:=by
 cases o with
 | cells c fam ro=>exact fun i v e=>let ⟨v',a,b,c⟩:=k i v e; ⟨v',a,b.mono h,c⟩
 | map es clock=>obtain ⟨es',a,b⟩:=k; exact ⟨es',a,b.mono h⟩
 | loop st pe t n ps as bo df=>obtain ⟨L,a,b,c,e,f,g,i,d',j⟩:=k; exact ⟨L,a,b,c,e.mono h,f,g,i,d',h.1 _ _ j⟩
 | deferred live=>exact k
 | gone=>exact k
 | tab c=>exact k
 | iter mm since seen last=>obtain ⟨e0,mm',e,g⟩:=k; exact ⟨e0,mm',e,g.mono h⟩

theorem OR.frame {m:M} {w w':World} {B d:Nat} {o:AObj} (hb:w'.heap[B]? = w.heap[B]?) (k:OR m w B d o):OR m w' B d o:=by
 cases o with
 | cells c fam ro =>
  intro i v e
  obtain ⟨v',a,b,x,y⟩:=k i v e
  refine ⟨v',?_,b,x,fun hr=>?_⟩
  ·rw [World.cell?_of_block (w:=w) hb]; exact a
  ·rw [World.frozen?_of_block (w:=w) hb]; exact y hr
 | map es clock=>obtain ⟨es',a,b⟩:=k; exact ⟨es',hb.trans a,b⟩
 | loop st pe t n ps as bo df=>obtain ⟨L,a,b⟩:=k; exact ⟨L,hb.trans a,b⟩
 | deferred live=>exact hb.trans k
 | gone=>obtain ⟨L,e⟩:=k; exact ⟨L,hb.trans e⟩
 | tab c=>obtain ⟨t,fr,e⟩:=k; exact ⟨t,fr,hb.trans e⟩
 | iter mm since seen last=>obtain ⟨e0,mm',e,g⟩:=k; exact ⟨e0,mm',hb.trans e,g⟩

def isRo:AObj → Bool
 | .cells _ _ ro=>ro
 | .tab _=>true
 | _=>false

def famOf:AObj → Option Nat
 | .cells _ f _=>some f
 | _=>none

def noCells:AObj → Bool
 | .cells _ _ _=>false
 | .tab _=>false
 | _=>true

/-- The world at the start, and the blocks that are parked: no block of the evaluator's is one of them. -/
structure Base extends World where
 pk:Nat → Obj → Prop

def base (w:World):Base:=⟨w,fun _ _=>False⟩

structure WR (P:Program) (m:M) (w0:Base) (h:AHeap) (w:World):Prop where
 obj:∀ b o,h.bl.get b = some o → ∃ B d,m b = some (B,d) ∧ OR m w B d o ∧ (isRo o = false → w0.heap.size ≤ B) ∧ (isRo o = true → B < w0.heap.size)
 fresh:∀ b,h.nx ≤ b → m b = none ∧ h.bl.get b = none
 spn:∀ b,h.nx ≤ b → m.sp b = none
 spf:∀ b c f ro,h.bl.get b = some (.cells c f ro) → m.sp f = none
 spr:∀ b B d z E,m b = some (B,d) → m.sp b = some (z,E) → (∀ j,d ≤ j → j < E → (w.cell? ⟨B,j,none⟩).isSome = true ∧ w.frozen? ⟨B,j,none⟩ = false) ∧ ∀ v,h.fams.get b = some v → v = [z]
 dom:∀ b B d,m b = some (B,d) → B < w.heap.size
 apart:∀ b₁ b₂ o₁ o₂ B d₁ d₂,h.bl.get b₁ = some o₁ → h.bl.get b₂ = some o₂ → m b₁ = some (B,d₁) → m b₂ = some (B,d₂) → b₁ ≠ b₂ →
  (isRo o₁ = true ∧ isRo o₂ = true) ∨ (∃ f,famOf o₁ = some f ∧ famOf o₂ = some f)
 kin:∀ b c f,h.bl.get b = some (.cells c f false) → c ≠ [] → ∃ l,h.fams.get f = some l ∧ b ∈ l
 fam:∀ b c f ro,h.bl.get b = some (.cells c f ro) → f < h.nx
 below:Below w0.heap.size w0.toWorld w
 glob:∀ g,g < P.globals.size → m g = some (g,0)
 res:∀ r,h.fams.get r = some [] → r < h.nx ∧ m r = none ∧ h.bl.get r = none ∧ m.sp r = none ∧ ∀ b c f ro,h.bl.get b = some (.cells c f ro) → f ≠ r
 park:∀ B x,w0.pk B x → w0.heap.size ≤ B ∧ w.heap[B]? = some x ∧ ∀ b o d,h.bl.get b = some o → m b ≠ some (B,d)

/-! ## Operands -/
section
variable {P:Program} {m:M} {w0:Base} {w:World} {h:AHeap} {t:T Value} {n:Nat} {a:Act}

theorem eP (hT:TR m t n a.tmps) (hg:∀ g,g < P.globals.size → m g = some (g,0)) (x:Operand):VR m (ev P t x) (a.eval x):=by
 cases x with
 | tmp i=>exact hT.2 i
 | const v =>
  simp only [ev]
  cases hp:plainB v with
  | true=>exact eH m v hp
  | false=>exact .any _ _ _ _
 | global g =>
  simp only [ev]
  cases hp:Nat.blt g P.globals.size with
  | true=>exact .ptr 0 (hg g (by simpa [Nat.blt_eq] using hp))
  | false=>exact .any _ _ _ _
 | func f=>exact .func f .nil .nil

theorem wL (hT:TR m t n a.tmps) (hg:∀ g,g < P.globals.size → m g = some (g,0)):∀ l:List Operand,LR m (evL P t l) (l.map a.eval)
 | []=>.nil
 | x :: l=>.cons (eP hT hg x) (wL hT hg l)

theorem evL_mem:∀ {l:List Operand} {x:Operand},x ∈ l → plainL (evL P t l) = true → plainB (ev P t x) = true
 | y :: l,x,hx,hp=>by
  simp only [evL,plainL,Bool.and_eq_true] at hp
  cases hx with
  | head=>exact hp.1
  | tail _ hx=>exact evL_mem hx hp.2

/-! ## Computations without the world -/
theorem oG {α:Type} (s:Sem α) (x:α) (w:World) (e:pureOf P s = some x):s.run P w = .ok x w:=by
 induction s with
 | pure b=>simp only [pureOf,Option.some.injEq] at e; subst e; rfl
 | program k ih=>exact ih _ (by simpa [pureOf] using e)
 | mark mk k ih=>exact ih (by simpa [pureOf] using e)
 | _=>simp [pureOf] at e

theorem gV (hT:TR m t n a.tmps) (hg:∀ g,g < P.globals.size → m g = some (g,0)) (o:Oper) {v:Value} (e:ground P t o = some v) (w:World) :
  ∃ v',(execOp a.eval o).run P w = .ok (.value v') w ∧ VR m v v':=by
 unfold ground at e
 cases hp:plainL (evL P t o.op.operands.toList) with
 | false=>rw [hp] at e; simp at e
 | true =>
  rw [hp,cond_true] at e
  split at e
  ·rename_i v' hv
   cases hpv:plainB v' with
   | false=>rw [hpv] at e; simp at e
   | true =>
    rw [hpv,cond_true,Option.some.injEq] at e
    subst e
    have hns:∀ cs b,o.op ≠ .select cs b:=by
     intro cs b ho
     have:pureOf P (execOp (ev P t) o) = none:=by
      obtain ⟨dst,op,type,pos,after,guard⟩:=o
      simp only at ho
      subst ho
      simp only [execOp]
      have key:∀ (s:Sem (Array CommCase)) (r:Value),pureOf P (do let cases ← s; pure (.comm cases b .select)) ≠ some (Next.value r):=by
       intro s r
       induction s with
       | pure c=>intro h; cases h
       | program k ih=>exact ih P
       | mark mk k ih=>exact ih
       | _=>intro h; cases h
      exact absurd hv (key _ _)
     rw [this] at hv; cases hv
    have hcg:execOp a.eval o = execOp (ev P t) o:=execOp_congr o hns fun x hx=>by
     have hx':x ∈ o.op.operands.toList:=by simpa using hx
     exact (rX _ _ (evL_mem hx' hp) (eP hT hg x)).symm
    rw [hcg]
    exact ⟨v',oG _ _ w hv,eH m v' hpv⟩
  ·cases e

/-! ## Types -/
theorem bU {ty:TypeId} {d:TypeDesc} (e:P.underlying ty = some d) (w:World):(underlying ty).run P w = .ok d w:=by
 simp [underlying,e]
theorem pR {ty:TypeId} {i:TypeInfo} (e:P.info? ty = some i) (w:World):(typeInfo ty).run P w = .ok i w:=by
 simp [typeInfo,e]
theorem oH {ty:TypeId} {i:TypeInfo} (e:P.info? ty = some i) (w:World):(sizeOf ty).run P w = .ok i.size w:=by
 simp [sizeOf,pR e]
theorem run_agg {ty:TypeId} {d:TypeDesc} (e:P.underlying ty = some d) (w:World):(isAgg ty).run P w = .ok (isAggB d) w:=by
 unfold isAgg
 rw [Sem.run_bind,bU e w]
 cases d<;>simp [isAggB]

theorem lK {ty:TypeId} {s:Nat} (e:bH P ty = some s):∃ i,P.info? ty = some i ∧ i.size = s:=by
 unfold bH at e
 split at e
 ·rename_i i hi; exact ⟨i,hi,by simpa using e⟩
 ·cases e

theorem gB {ty:TypeId} {s:Nat} (e:bH P ty = some s) (w:World):(sizeOf ty).run P w = .ok s w:=by
 obtain ⟨i,hi,hs⟩:=lK e
 rw [oH hi,hs]

/-! ## Cells -/
/-- What the evaluator knows of the cells of a block, from an offset on, lies there. -/
theorem oO {c:List Value} {fam:Nat} {ro:Bool} {B d:Nat} (k:OR m w B d (.cells c fam ro)) (off:Nat) (l:List Value)
  (hl:∀ j v,l[j]? = some v → c[off + j]? = some v) :
  ∃ l':List Value,LR m l l' ∧ (∀ v ∈ l',oneB v = true) ∧ w.rangeAt B (off + d) l':=by
 induction l generalizing off with
 | nil=>exact ⟨[],.nil,fun v hv=>by simp at hv,fun j v hj=>by simp at hj⟩
 | cons v l ih =>
  obtain ⟨v',h1,h2,h3,_⟩:=k off v (by simpa using hl 0 v rfl)
  obtain ⟨l',h4,h5,h6⟩:=ih (off + 1) (fun j u hj=>by have:=hl (j + 1) u (by simpa using hj); rw [← this]; congr 1; omega)
  refine ⟨v' :: l',.cons h2 h4,fun u hu=>?_,fun j u hj=>?_⟩
  ·cases hu with
   | head=>exact h3
   | tail _ hu=>exact h5 u hu
  ·cases j with
   | zero=>simp at hj; subst hj; rw [← h1]; congr 2; omega
   | succ j =>
    have:=h6 j u (by simpa using hj)
    rw [← this]; congr 2; omega

theorem partL_load {c:List Value} {fam:Nat} {ro:Bool} {B d:Nat} (k:OR m w B d (.cells c fam ro)) {ty:TypeId} {off:Nat} {v:Value} (e:dD P ty c off = some v) :
  ∃ v',(loadVar ty ⟨B,off + d,none⟩).run P w = .ok v' w ∧ VR m v v':=by
 unfold dD at e
 split at e
 ·rename_i dd i hu hi
  cases hagg:isAggB dd with
  | false =>
   rw [hagg,cond_false] at e
   obtain ⟨v',h1,h2,h3,_⟩:=k off v e
   refine ⟨v',?_,h2⟩
   simp only [loadVar,Sem.run_bind,run_agg hu,hagg,Result.andThen_ok,Bool.false_eq_true,if_false]
   rw [show off + d = d + off from Nat.add_comm _ _]
   simp [h1]
  | true =>
   rw [hagg,cond_true] at e
   cases hb:Nat.ble (Nat.add off i.size) c.length with
   | false=>rw [hb] at e; simp at e
   | true =>
    rw [hb,cond_true,Option.some.injEq] at e
    subst e
    have hb':off + i.size ≤ c.length:=Nat.le_of_ble_eq_true hb
    obtain ⟨l',h1,h2,h3⟩:=oO k off ((c.drop off).take i.size) (fun j v hj=>by
     rw [List.getElem?_take] at hj
     split at hj
     ·simpa [List.getElem?_drop] using hj
     ·cases hj)
    have hlen:i.size = l'.length:=by rw [← h1.length]; simp; omega
    refine ⟨.agg l'.toArray,run_loadVar_mid w B (off + d) ty l' dd h3 hu (by cases dd<;>simp_all [isAggB]) (by simp [hi,hlen]),.agg (by simpa using h1) (by simpa using h2)⟩
 ·cases e

theorem partL_part {c c':List Value} (k:LR m c c') (h1:∀ v ∈ c',oneB v = true) {ty:TypeId} {off:Nat} {v:Value} (e:dD P ty c off = some v) (w:World) :
  ∃ v',(part ty c'.toArray off).run P w = .ok v' w ∧ VR m v v':=by
 unfold dD at e
 split at e
 ·rename_i dd i hu hi
  cases hagg:isAggB dd with
  | false =>
   rw [hagg,cond_false] at e
   obtain ⟨v',h2,h3⟩:=k.get off v e
   refine ⟨v',?_,h3⟩
   simp only [part,Sem.run_bind,run_agg hu,hagg,Result.andThen_ok,Bool.false_eq_true,if_false]
   simp [h2]
  | true =>
   rw [hagg,cond_true] at e
   cases hb:Nat.ble (Nat.add off i.size) c.length with
   | false=>rw [hb] at e; simp at e
   | true =>
    rw [hb,cond_true,Option.some.injEq] at e
    subst e
    refine ⟨.agg ((c'.toArray).extract off (off + i.size)),?_,?_⟩
    ·simp only [part,Sem.run_bind,run_agg hu,hagg,Result.andThen_ok,if_true,oH hi,Sem.run_pure]
    ·have he:((c'.toArray).extract off (off + i.size)).toList = (c'.drop off).take i.size:=by
      simp [List.extract_eq_take_drop]
     refine .agg ?_ ?_
     ·rw [he]; exact (k.drop off).take i.size
     ·rw [he]; intro u hu; exact h1 u (List.mem_of_mem_drop (List.mem_of_mem_take hu))
 ·cases e
end

end Go.Ev

/- Operations that only read: what the evaluator says is so. -/
namespace Go.Ev
open Go.RowKit

section
variable {P:Program} {m:M} {w0:Base} {w:World} {h:AHeap} {t:T Value} {n:Nat} {a:Act}

theorem ok_ptr {B o o':Nat} (e:o = o'):(Result.ok (Value.pointer (some ⟨B,o,none⟩)) w) = .ok (.pointer (some ⟨B,o',none⟩)) w:=by rw [e]

theorem WR.cells (hW:WR P m w0 h w) {b:Nat} {c:List Value} (e:cellsOf (h.bl.get b) = some c) {B d:Nat} (hm:m b = some (B,d)) :
  ∃ fam ro,OR m w B d (.cells c fam ro):=by
 cases hg:h.bl.get b with
 | none=>rw [hg] at e; cases e
 | some o =>
  cases o with
  | cells c' fam ro =>
   rw [hg] at e
   simp only [cellsOf,Option.some.injEq] at e
   subst e
   obtain ⟨B',d',h1,h2,_⟩:=hW.obj b _ hg
   rw [hm] at h1
   cases h1
   exact ⟨fam,ro,h2⟩
  | map _ _=>rw [hg] at e; cases e
  | loop _ _ _ _ _ _ _ _=>rw [hg] at e; cases e
  | deferred _=>rw [hg] at e; cases e
  | gone=>rw [hg] at e; cases e
  | tab _=>rw [hg] at e; cases e
  | iter _ _ _ _=>rw [hg] at e; cases e

theorem WR.entries (hW:WR P m w0 h w) {r:Nat} {es:List MapEntry} {clock:Nat} (e:entriesOf (h.bl.get r) = some (es,clock)) {R d:Nat} (hm:m r = some (R,d)) :
  ∃ es',w.heap[R]? = some (.map es' clock) ∧ ER m es es'.toList:=by
 cases hg:h.bl.get r with
 | none=>rw [hg] at e; cases e
 | some o =>
  cases o with
  | map es' clock' =>
   rw [hg] at e
   simp only [entriesOf,Option.some.injEq,Prod.mk.injEq] at e
   obtain ⟨rfl,rfl⟩:=e
   obtain ⟨B',d',h1,h2,_⟩:=hW.obj r _ hg
   rw [hm] at h1
   cases h1
   exact h2
  | cells _ _ _=>rw [hg] at e; cases e
  | loop _ _ _ _ _ _ _ _=>rw [hg] at e; cases e
  | deferred _=>rw [hg] at e; cases e
  | gone=>rw [hg] at e; cases e
  | tab _=>rw [hg] at e; cases e
  | iter _ _ _ _=>rw [hg] at e; cases e

theorem rPick_rel {x x' y y' c c' v:Value} (hx:VR m x x') (hy:VR m y y') (hc:VR m c c') (e:rPick x y c = some v) :
  ∃ v',(do pure (Next.value (if ← asBool c' then x' else y')):Sem Next).run P w = .ok (.value v') w ∧ VR m v v':=by
 unfold rPick at e
 split at e
 ·cases hc; cases e; exact ⟨_,by simp [asBool],hx⟩
 ·cases hc; cases e; exact ⟨_,by simp [asBool],hy⟩
 ·cases e

theorem rLoad_rel (hW:WR P m w0 h w) {ty:TypeId} {x x' v:Value} (hx:VR m x x') (e:rLoad P h ty x = some v) :
  ∃ v',(Instr.loadAt ty x').run P w = .ok v' w ∧ VR m v v':=by
 unfold rLoad at e
 split at e
 ·rename_i b off
  cases hx with
  | ptr _ hm =>
   split at e
   ·rename_i c hc
    obtain ⟨fam,ro,ho⟩:=hW.cells hc hm
    obtain ⟨v',h1,h2⟩:=partL_load ho e
    exact ⟨v',by simp [Instr.loadAt,Instr.sureAddr,h1],h2⟩
   ·cases e
 ·cases e

theorem rNilCheck_rel {x x' v:Value} (hx:VR m x x') (e:rNilCheck x = some v) (o:Oper) (ρ:Operand → Value) (y:Operand) (ho:o.op = .nilCheck y) (hy:ρ y = x') :
  ∃ v',(execOp ρ o).run P w = .ok (.value v') w ∧ VR m v v':=by
 unfold rNilCheck at e
 split at e
 ·cases e
  cases hx with
  | ptr off hm=>exact ⟨_,by simp [execOp,ho,hy],.ptr off hm⟩
 ·cases e
  cases hx with
  | func f k1 k2=>exact ⟨_,by simp [execOp,ho,hy],.func _ k1 k2⟩
 ·cases e
  cases hx with
  | yield hl k1 k2=>exact ⟨_,by simp [execOp,ho,hy],.yield hl k1 k2⟩
 ·cases e

theorem fieldOf_und {s:TypeId} {f fo:Nat} {ft:TypeId} (e:bZ P s f = some (fo,ft)) :
  ∃ fields fd,P.underlying s = some (.struct fields) ∧ fields[f]? = some fd ∧ fd.offset = fo ∧ fd.type = ft:=by
 unfold bZ at e
 split at e
 ·rename_i fields hu
  split at e
  ·rename_i fd hf
   simp only [Option.some.injEq,Prod.mk.injEq] at e
   exact ⟨fields,fd,hu,hf,e.1,e.2⟩
  ·cases e
 ·cases e

theorem rFieldAddr_rel {s:TypeId} {f:Nat} {x x' v:Value} (hx:VR m x x') (e:fQ P s f x = some v) :
  ∃ v',(Instr.fieldAt s x' f).run P w = .ok v' w ∧ VR m v v':=by
 unfold fQ at e
 split at e
 ·rename_i b off
  cases hx with
  | @ptr _ B d _ hm =>
   split at e
   ·rename_i fo ft hf
    split at e
    ·rename_i k hs
     cases e
     obtain ⟨fields,fd,h1,h2,rfl,rfl⟩:=fieldOf_und hf
     refine ⟨.pointer (some ⟨B,off + fd.offset + d,none⟩),?_,.ptr _ hm⟩
     simp only [Instr.fieldAt,Sem.run_bind,bU h1,Result.andThen_ok,h2,Instr.sureAddr,Sem.run_pure,fieldPlace,gB hs]
     simp only [Nat.add_one_ne_zero,if_false,Sem.run_pure,Result.andThen_ok,Addr.add_mid]
     exact ok_ptr (by omega)
    ·cases e
   ·cases e
 ·cases e

theorem rField_rel {s:TypeId} {f:Nat} {x x' v:Value} (hx:VR m x x') (e:rField P s f x = some v) :
  ∃ v',(Instr.field s x' f).run P w = .ok v' w ∧ VR m v v':=by
 unfold rField at e
 split at e
 ·rename_i cs
  cases hx with
  | @agg _ cs' k h1 =>
   split at e
   ·rename_i fo ft hf
    obtain ⟨fields,fd,g1,g2,rfl,rfl⟩:=fieldOf_und hf
    obtain ⟨v',g3,g4⟩:=partL_part k h1 e w
    refine ⟨v',?_,g4⟩
    simp only [Instr.field,Sem.run_bind,bU g1,Result.andThen_ok,g2,asAgg,Sem.run_pure]
    simpa using g3
   ·cases e
 ·cases e

theorem arrOf_und {ty:TypeId} {len:Nat} {e':TypeId} (e:arrOf P ty = some (len,e')):P.underlying ty = some (.array len e'):=by
 unfold arrOf at e
 split at e
 ·rename_i h; simp only [Option.some.injEq,Prod.mk.injEq] at e; rw [h,e.1,e.2]
 ·cases e
theorem eG {ty:TypeId} {e':TypeId} (e:fE P ty = some e'):P.underlying ty = some (.slice e'):=by
 unfold fE at e
 split at e
 ·rename_i h; simp only [Option.some.injEq] at e; rw [h,e]
 ·cases e
theorem gG {ty k e':TypeId} (e:mapOf P ty = some (k,e')):P.underlying ty = some (.map k e'):=by
 unfold mapOf at e
 split at e
 ·rename_i h; simp only [Option.some.injEq,Prod.mk.injEq] at e; rw [h,e.1,e.2]
 ·cases e
theorem pU {ty:TypeId} (e:lX P ty = true):P.underlying ty = some .string:=by
 unfold lX at e
 split at e
 ·assumption
 ·cases e

theorem rAt_rel {e:TypeId} {b off i len B d:Nat} {v:Value} (hm:m b = some (B,d)) (h0:rAt P e b off i len = some v) :
  i < len ∧ ∃ sz,bH P e = some sz ∧ v = .pointer (some ⟨b,off + i * sz,none⟩) ∧ VR m v (.pointer (some ⟨B,off + d + i * sz,none⟩)):=by
 unfold rAt at h0
 cases hb:Nat.blt i len with
 | false=>rw [hb] at h0; cases h0
 | true =>
  rw [hb,cond_true] at h0
  split at h0
  ·rename_i sz hs
   cases h0
   refine ⟨by simpa [Nat.blt_eq] using hb,sz,hs,rfl,?_⟩
   have:=VR.ptr (m:=m) (off + i * sz) hm
   rwa [show off + i * sz + d = off + d + i * sz by omega] at this
  ·cases h0

theorem rIndexAddr_rel {ty:TypeId} {x x' i i' v:Value} (hx:VR m x x') (hi:VR m i i') (e:bY P ty x i = some v) :
  ∃ v',(Instr.indexAt ty x' i').run P w = .ok v' w ∧ VR m v v':=by
 unfold bY at e
 split at e
 ·rename_i kk i
  cases hi
  split at e
  ·rename_i b off
   cases hx with
   | ptr _ hm =>
    split at e
    ·rename_i len el ha
     obtain ⟨g1,sz,g2,rfl,g4⟩:=rAt_rel hm e
     refine ⟨_,?_,g4⟩
     have hlt:(0:Int) ≤ (i:Int) ∧ (i:Int) < (len:Int):=by omega
     simp only [Instr.indexAt,Sem.run_bind,asIntOf,Sem.run_pure,Result.andThen_ok,bU (arrOf_und ha),Instr.sureAddr]
     simp [gB g2,g1,Addr.add_mid]
    ·cases e
  ·rename_i b off len cap
   cases hx with
   | sl _ _ _ cap' hm hc _ =>
    split at e
    ·rename_i el ha
     obtain ⟨g1,sz,g2,rfl,g4⟩:=rAt_rel hm e
     refine ⟨_,?_,g4⟩
     simp only [Instr.indexAt,Sem.run_bind,asIntOf,Sem.run_pure,Result.andThen_ok,bU (eG ha)]
     simp [gB g2,g1,Addr.add_mid]
    ·cases e
  ·cases e
 ·cases e

theorem bounds_eq {len cap:Nat} {lo hi:Option Value} {l h':Nat} (e:bounds len cap lo hi = some (l,h')):vU len cap hi = some h' ∧ loOf h' lo = some l:=by
 unfold bounds at e
 split at e
 ·cases e
 ·split at e
  ·cases e
  ·cases e; exact ⟨by assumption,by assumption⟩

theorem hiOf_le {len cap:Nat} (hl:len ≤ cap) {hi:Option Value} {h':Nat} (e:vU len cap hi = some h'):h' ≤ cap:=by
 cases hi with
 | none=>simp [vU] at e; omega
 | some v =>
  cases v with
  | int k i =>
   cases i with
   | ofNat i =>
    cases hb:Nat.ble i cap with
    | true=>simp [vU,hb] at e; have:=Nat.le_of_ble_eq_true hb; omega
    | false=>simp [vU,hb] at e
   | negSucc i=>simp [vU] at e
  | _=>simp [vU] at e

theorem loOf_le {h' l:Nat} {lo:Option Value} (e:loOf h' lo = some l):l ≤ h':=by
 cases lo with
 | none=>simp [loOf] at e; omega
 | some v =>
  cases v with
  | int k i =>
   cases i with
   | ofNat i =>
    cases hb:Nat.ble i h' with
    | true=>simp [loOf,hb] at e; have:=Nat.le_of_ble_eq_true hb; omega
    | false=>simp [loOf,hb] at e
   | negSucc i=>simp [loOf] at e
  | _=>simp [loOf] at e

/-- Optional values, one standing for the other. -/
def XR (m:M):Option Value → Option Value → Prop
 | none,none=>True
 | some v,some v'=>VR m v v'
 | _,_=>False

theorem qO {len cap:Nat} (isS:Bool) {lo hi lo' hi':Option Value} {l h':Nat} (cap':Nat) (hc:cap ≤ cap') (e:bounds len cap lo hi = some (l,h'))
  (hlo:XR m lo lo') (hhi:XR m hi hi'):(Instr.sliceBounds isS len cap' lo' hi' none).run P w = .ok (l,h',cap') w:=by
 obtain ⟨e1,e2⟩:=bounds_eq e
 have k1:(match hi' with|some v=>Instr.sliceBound v cap' (if isS then .sliceAcap else .sliceAlen)|none=>pure len).run P w = .ok h' w:=by
  cases hi with
  | none=>cases hi' with
   | none=>simp [vU] at e1; subst e1; rfl
   | some _=>exact hhi.elim
  | some v=>cases hi' with
   | none=>exact hhi.elim
   | some v' =>
    have hv:VR m v v':=hhi
    cases v with
    | int k i =>
     cases hv
     cases i with
     | ofNat i =>
      cases hb:Nat.ble i cap with
      | true =>
       simp [vU,hb] at e1
       subst e1
       have:=Nat.le_of_ble_eq_true hb
       simp [Instr.sliceBound,asIntOf]
       omega
      | false=>simp [vU,hb] at e1
     | negSucc i=>simp [vU] at e1
    | _=>simp [vU] at e1
 have k2:(match lo' with|some v=>Instr.sliceBound v h' .sliceB|none=>pure 0).run P w = .ok l w:=by
  cases lo with
  | none=>cases lo' with
   | none=>simp [loOf] at e2; subst e2; rfl
   | some _=>exact hlo.elim
  | some v=>cases lo' with
   | none=>exact hlo.elim
   | some v' =>
    have hv:VR m v v':=hlo
    cases v with
    | int k i =>
     cases hv
     cases i with
     | ofNat i =>
      cases hb:Nat.ble i h' with
      | true =>
       simp [loOf,hb] at e2
       subst e2
       have:=Nat.le_of_ble_eq_true hb
       simp [Instr.sliceBound,asIntOf]
       omega
      | false=>simp [loOf,hb] at e2
     | negSucc i=>simp [loOf] at e2
    | _=>simp [loOf] at e2
 cases hi'<;>cases lo'<;>simp_all [Instr.sliceBounds]

theorem map_lo (hT:TR m t n a.tmps) (hg:∀ g,g < P.globals.size → m g = some (g,0)) (lo:Option Operand):XR m (lo.map (ev P t)) (lo.map a.eval):=by
 cases lo with
 | none=>trivial
 | some x=>exact eP hT hg x

theorem zOk_eq (hW:WR P m w0 h w) {b sz z E B d:Nat} (e:zOk h b sz = true) (hm:m b = some (B,d)) (hs:m.sp b = some (z,E)):z = sz:=by
 unfold zOk at e
 split at e
 ·rename_i c fam ro hg
  cases hb:Nat.beq fam b with
  | true =>
   have:=Nat.eq_of_beq_eq_true hb
   subst this
   have:=hW.spf _ _ _ _ hg
   rw [hs] at this
   cases this
  | false =>
   rw [hb,cond_false] at e
   obtain ⟨_,k⟩:=hW.spr b B d z E hm hs
   split at e
   ·rename_i z' hz'
    cases k _ hz'
    exact Nat.eq_of_beq_eq_true e
   ·cases e
 ·cases e

theorem rSlice1_rel {b B d off len cap cap' sz:Nat} {ok:Bool} (hm:m b = some (B,d)) (hc:cap ≤ cap') (hz:cap' = cap ∨ ∃ z E,m.sp b = some (z,E) ∧ off + d + cap' * z ≤ E)
  (hok:ok = true → ∀ z E,m.sp b = some (z,E) → cap' = cap ∨ z = sz) {lo hi lo' hi':Option Value} (hl:XR m lo lo') (hh:XR m hi hi') {v:Value}
  (e:uD ok b off cap sz (bounds len cap lo hi) = some v) (isS:Bool) :
  ∃ v',(∀ w,∃ l h',(Instr.sliceBounds isS len cap' lo' hi' none).run P w = .ok (l,h',cap') w ∧
   Value.slice (if cap' = l then some ⟨B,off + d,none⟩ else some ⟨B,off + d + l * sz,none⟩) (h' - l) (cap' - l) = v') ∧ VR m v v':=by
 unfold uD at e
 split at e
 ·rename_i l h' hb
  cases h1:(Nat.blt l cap && (Nat.beq l 0 || ok)) with
  | true =>
   rw [h1,cond_true] at e
   cases e
   simp only [Bool.and_eq_true,Bool.or_eq_true] at h1
   have h1':l < cap:=by simpa [Nat.blt_eq] using h1.1
   refine ⟨.slice (some ⟨B,off + l * sz + d,none⟩) (h' - l) (cap' - l),fun w=>⟨l,h',qO (P:=P) (w:=w) isS cap' hc hb hl hh,?_⟩,.sl _ _ _ _ hm (by simp only [Nat.sub_eq]; omega) ?_⟩
   ·rw [if_neg (by omega),show off + d + l * sz = off + l * sz + d by omega]
   ·rcases hz with hz|⟨z,E,z1,z2⟩
    ·left; simp only [Nat.sub_eq]; omega
    ·rcases h1.2 with h0|h0
     ·have:l = 0:=Nat.eq_of_beq_eq_true h0
      subst this
      right
      refine ⟨z,E,z1,?_⟩
      simpa using z2
     ·rcases hok h0 z E z1 with hz|hz
      ·left; simp only [Nat.sub_eq]; omega
      ·subst hz
       right
       refine ⟨z,E,z1,?_⟩
       have:cap' * z = l * z + (cap' - l) * z:=by rw [← Nat.add_mul]; congr 1; omega
       show off + l * z + d + (cap' - l) * z ≤ E
       omega
  | false =>
   rw [h1,cond_false] at e
   cases h2:(Nat.beq cap l && Nat.beq h' l) with
   | false=>rw [h2] at e; cases e
   | true =>
    rw [h2,cond_true] at e
    cases e
    simp only [Bool.and_eq_true] at h2
    have h3:h' = l:=Nat.eq_of_beq_eq_true h2.2
    refine ⟨_,fun w=>⟨l,h',qO (P:=P) (w:=w) isS cap' hc hb hl hh,rfl⟩,?_⟩
    rw [h3,Nat.sub_self]
    exact .emp _ _
 ·cases e

theorem rSlice_rel (hW:WR P m w0 h w) (hT:TR m t n a.tmps) {o:Oper} {ty:TypeId} {x:Operand} {lo hi:Option Operand} {v:Value}
  (ho:o.op = .slice ty x lo hi none) (e:vW P t h o ty lo hi (ev P t x) = some v) :
  ∃ v',(execOp a.eval o).run P w = .ok (.value v') w ∧ VR m v v':=by
 have hg:=hW.glob
 have hx:=eP hT hg x
 have hl:=map_lo (P:=P) hT hg lo
 have hh:=map_lo (P:=P) hT hg hi
 generalize hx':a.eval x = x' at hx
 unfold vW at e
 split at e
 ·rename_i hev
  rw [hev] at hx
  unfold rSliceN at e
  split at e
  ·rename_i el hs
   split at e
   ·rename_i sz hsz
    unfold rSlice0 at e
    split at e
    ·rename_i p hb
     cases e
     obtain ⟨l,h'⟩:=p
     obtain ⟨e1,e2⟩:=bounds_eq hb
     have h1:=hiOf_le (Nat.le_refl 0) e1
     have h2:=loOf_le e2
     obtain rfl:h' = 0:=by omega
     obtain rfl:l = 0:=by omega
     cases hx
     have hb2:=qO (P:=P) (w:=w) true 0 (Nat.le_refl 0) hb hl hh
     refine ⟨.slice none 0 0,?_,.nilSl⟩
     simp [execOp,ho,hx',Instr.sliceAt,bU (eG hs),Instr.slice,hb2,gB hsz]
    ·cases e
   ·cases e
  ·cases e
 ·rename_i hev
  rw [hev] at hx
  unfold rSliceN at e
  split at e
  ·rename_i el hs
   split at e
   ·rename_i sz hsz
    unfold rSlice0 at e
    split at e
    ·rename_i p hb
     cases e
     obtain ⟨l,h'⟩:=p
     obtain ⟨e1,e2⟩:=bounds_eq hb
     have h1:=hiOf_le (Nat.le_refl 0) e1
     have h2:=loOf_le e2
     obtain rfl:h' = 0:=by omega
     obtain rfl:l = 0:=by omega
     cases hx with
     | emp ad cap =>
      have hb2:=qO (P:=P) (w:=w) true cap (Nat.zero_le cap) hb hl hh
      refine ⟨.slice (if cap = 0 then ad else ad.map (·.add (0 * sz))) 0 cap,?_,.emp _ _⟩
      simp [execOp,ho,hx',Instr.sliceAt,bU (eG hs),Instr.slice,hb2,gB hsz]
    ·cases e
   ·cases e
  ·cases e
 ·rename_i b off len cap hev
  rw [hev] at hx
  unfold uF at e
  split at e
  ·rename_i el hs
   split at e
   ·rename_i sz hsz
    cases hx with
    | @sl _ B d _ _ _ cap' hm hc hz =>
     obtain ⟨v',q1,q2⟩:=rSlice1_rel (P:=P) hm hc hz (fun hok z E hs=>.inr (zOk_eq hW hok hm hs)) hl hh e true
     obtain ⟨l,h',q3,q4⟩:=q1 w
     refine ⟨v',?_,q2⟩
     have q5:(Instr.sliceAt ty (.slice (some ⟨B,off + d,none⟩) len cap') (lo.map a.eval) (hi.map a.eval) none).run P w = .ok v' w:=by
      simp only [Instr.sliceAt,Sem.run_bind,bU (eG hs),Result.andThen_ok,Instr.slice,q3,gB hsz,Sem.run_pure]
      rw [← q4]
      split<;>simp [Addr.add_mid]
     simp [execOp,ho,hx',q5]
   ·cases e
  ·cases e
 ·rename_i b off hev
  rw [hev] at hx
  unfold rSliceA at e
  split at e
  ·rename_i k el hs
   split at e
   ·rename_i sz hsz
    cases hx with
    | @ptr _ B d _ hm =>
     obtain ⟨v',q1,q2⟩:=rSlice1_rel (P:=P) hm (Nat.le_refl k) (.inl rfl) (fun _ _ _ _=>.inl rfl) hl hh e false
     obtain ⟨l,h',q3,q4⟩:=q1 w
     refine ⟨v',?_,q2⟩
     have q5:(Instr.sliceAt ty (.pointer (some ⟨B,off + d,none⟩)) (lo.map a.eval) (hi.map a.eval) none).run P w = .ok v' w:=by
      simp only [Instr.sliceAt,Instr.sureAddr,Sem.run_bind,Sem.run_pure,bU (arrOf_und hs),Result.andThen_ok,q3,gB hsz]
      rw [← q4]
      split<;>simp [Addr.add_mid]
     simp [execOp,ho,hx',q5]
   ·cases e
  ·cases e
 ·exact gV hT hg o e w
 ·cases e
end

end Go.Ev

/- Operations that only read: the rest, and all of them. -/
namespace Go.Ev
open Go.RowKit

section
variable {P:Program} {m:M} {w0:Base} {w:World} {h:AHeap} {t:T Value} {n:Nat} {a:Act}

theorem eX {s:Sem Value} {v:Value} {w w':World} (e:s.run P w = .ok v w'):(do let y ← s; pure (Next.value y):Sem Next).run P w = .ok (.value v) w':=by simp [e]

/-! ## Numbers -/
theorem beqI_iff (a b:Int):beqI a b = (a == b):=by
 rw [Bool.eq_iff_iff,beq_iff_eq]
 cases a with
 | ofNat a=>cases b with
  | ofNat b =>
   simp only [beqI,Int.ofNat_eq_natCast]
   exact ⟨fun h=>by rw [Nat.eq_of_beq_eq_true h],fun h=>by rw [Int.ofNat_inj.1 h]; exact Nat.beq_refl _⟩
  | negSucc b=>simp [beqI]
 | negSucc a=>cases b with
  | ofNat b=>simp [beqI]
  | negSucc b =>
   simp only [beqI]
   exact ⟨fun h=>by rw [Nat.eq_of_beq_eq_true h],fun h=>by rw [Int.negSucc.inj h]; exact Nat.beq_refl _⟩

theorem leI_iff (a b:Int):leI a b = decide (a ≤ b):=by
 rw [Bool.eq_iff_iff]
 cases a with
 | ofNat a=>cases b with
  | ofNat b=>simp only [leI,Nat.ble_eq,decide_eq_true_eq,Int.ofNat_eq_natCast]; omega
  | negSucc b=>simp only [leI,decide_eq_true_eq,Int.ofNat_eq_natCast,Int.negSucc_eq,Bool.false_eq_true,false_iff]; omega
 | negSucc a=>cases b with
  | ofNat b=>simp only [leI,decide_eq_true_eq,Int.ofNat_eq_natCast,Int.negSucc_eq,true_iff]; omega
  | negSucc b=>simp only [leI,Nat.ble_eq,decide_eq_true_eq,Int.negSucc_eq]; omega

theorem i64_key (z:Int) (h1 : -9223372036854775808 ≤ z) (h2:z ≤ 9223372036854775807):z = IntKind.i64.wrap z:=(IntWalk.i64_in z ⟨h1,h2⟩).symm

theorem neg_key (k:Nat) (h:k < 9223372036854775808):Int.negSucc k = IntKind.i64.wrap (Int.negSucc k):=by
 have e:=Int.negSucc_eq k
 generalize Int.negSucc k = z at e
 exact i64_key z (by omega) (by omega)

theorem wrapF_eq (k:IntKind) (n:Int):o7 k n = k.wrap n:=by
 cases k<;>try rfl
 cases n with
 | ofNat m =>
  simp only [o7]
  cases hb:Nat.blt m 9223372036854775808 with
  | false=>rfl
  | true =>
   have hb':m < 9223372036854775808:=by simpa [Nat.blt_eq] using hb
   rw [cond_true,Int.ofNat_eq_natCast]
   exact i64_key _ (by omega) (by omega)
 | negSucc m =>
  simp only [o7]
  cases hb:Nat.blt m 9223372036854775808 with
  | false=>rw [cond_false]
  | true =>
   rw [cond_true]
   exact neg_key m (by simpa [Nat.blt_eq] using hb)

theorem oI {k j:IntKind} (e:beqKind k j = true):k = j:=by cases k<;>cases j<;>first|rfl|cases e

theorem fastBin_run {op:BinOp} {k:IntKind} {x y:Int} {v:Value} (e:iQ op k x y = some v) (ty:TypeId) (p q:Operand) (w:World) :
  (do eqGuard op ty p q (.int k x) (.int k y); binOp op ty (.int k x) (.int k y):Sem Value).run P w = .ok v w:=by
 have hg:(eqGuard op ty p q (.int k x) (.int k y)).run P w = .ok () w:=by
  unfold eqGuard
  cases op<;>simp
 rw [Sem.run_bind,hg,Result.andThen_ok]
 unfold iQ at e
 split at e<;>cases e
 all_goals simp only [binOp,Op.intArith,Op.intCmp,wrapF_eq,beqI_iff,leI_iff,ne_eq,not_true_eq_false,if_false,Sem.run_pure]
 all_goals try rfl
 all_goals
  congr 2
  rw [Bool.eq_iff_iff]
  simp

theorem nilEq_run {d:TypeDesc} {x x' y y':Value} {b:Bool} (hx:VR m x x') (hy:VR m y y') (e:nilEq d x y = some b) {ty:TypeId} (hu:P.underlying ty = some d) (w:World) :
  (Op.equal ty x' y').run P w = .ok b w ∧ (∀ op p q,(eqGuard op ty p q x' y').run P w = .ok () w) ∧ (∀ op,op = .eql ∨ op = .neq → binOp op ty x' y' = match op with | .eql=>(do pure (.bool (← Op.equal ty x' y')))|_=>(do pure (.bool (!(← Op.equal ty x' y'))))):=by
 unfold nilEq at e
 split at e<;>cases e<;>cases hx<;>cases hy
 all_goals
  refine ⟨?_,?_,?_⟩
  ·unfold Op.equal; rw [show Op.maxDepth = 9999 + 1 from rfl,Op.equalIn]; simp [bU hu]
  ·intro op p q
   unfold eqGuard
   cases op<;>simp
  ·rintro op (rfl|rfl)<;>rfl

theorem wrap_small {k:IntKind} (hk:isW64 k = true) (n:Nat) (h:n < 9223372036854775808):k.wrap (n:Int) = (n:Int):=by
 cases k<;>cases hk
 ·exact (i64_key _ (by omega) (by omega)).symm
 ·have hb:(IntKind.u64.bits:Nat) = 64:=rfl
  unfold IntKind.wrap
  rw [hb]
  have hs:IntKind.u64.signed = false:=rfl
  simp only [hs,Bool.false_and,Bool.false_eq_true,if_false]
  omega

theorem oP {k:IntKind} (hk:isW64 k = true) (n:Nat) (h:n < 4611686018427387904):(BitVec.ofInt k.bits (n:Int)).toNat = n:=by
 have hb:k.bits = 64:=by cases k<;>cases hk<;>rfl
 rw [hb,BitVec.ofInt_natCast,BitVec.toNat_ofNat]
 omega

theorem fastBits_run {op:BinOp} {k k':IntKind} {x y:Nat} {v:Value} (hkk:op = .shl ∨ op = .shr ∨ k = k') (e:fastBits op k x y = some v) (ty:TypeId) (p q:Operand) (w:World) :
  (do eqGuard op ty p q (.int k (.ofNat x)) (.int k' (.ofNat y)); binOp op ty (.int k (.ofNat x)) (.int k' (.ofNat y)):Sem Value).run P w = .ok v w ∧ ∃ n,v = .int k n:=by
 have hg:(eqGuard op ty p q (.int k (.ofNat x)) (.int k' (.ofNat y))).run P w = .ok () w:=by
  unfold eqGuard
  cases op<;>simp
 rw [Sem.run_bind,hg,Result.andThen_ok]
 unfold fastBits at e
 split at e
 ·cases hb:(isW64 k && Nat.blt y 64) with
  | false=>rw [hb] at e; cases e
  | true =>
   rw [hb,cond_true] at e
   rw [Bool.and_eq_true] at hb
   have hy:y < 64:=by simpa [Nat.blt_eq] using hb.2
   have hbits:k.bits = 64:=by cases k<;>cases hb.1<;>rfl
   cases e
   refine ⟨?_,_,rfl⟩
   have hm:min (Int.ofNat y).toNat k.bits = y:=by rw [hbits]; simp only [Int.ofNat_eq_natCast,Int.toNat_natCast]; omega
   have hneg:¬ (Int.ofNat y < 0):=by simp only [Int.ofNat_eq_natCast]; omega
   have hd:(Int.ofNat x).fdiv (2 ^ y) = Int.ofNat (Nat.shiftRight x y):=by
    show Int.fdiv (x:Int) _ = _
    have:((2:Int) ^ y) = ((2 ^ y:Nat):Int):=by simp
    rw [this,Int.fdiv_eq_ediv_of_nonneg _ (Int.natCast_nonneg _)]
    show _ = Int.ofNat (x >>> y)
    rw [Nat.shiftRight_eq_div_pow]
    rfl
   simp only [binOp,Op.shift,hneg,if_false,hm,hd,Sem.run_pure]
 ·cases hb:(isW64 k && (Nat.blt y 62 && Nat.blt (Nat.shiftLeft x y) 4611686018427387904)) with
  | false=>rw [hb] at e; cases e
  | true =>
   rw [hb,cond_true] at e
   rw [Bool.and_eq_true,Bool.and_eq_true] at hb
   have hy:y < 62:=by simpa [Nat.blt_eq] using hb.2.1
   have hx:Nat.shiftLeft x y < 4611686018427387904:=by simpa [Nat.blt_eq] using hb.2.2
   have hbits:k.bits = 64:=by cases k<;>cases hb.1<;>rfl
   cases e
   refine ⟨?_,_,rfl⟩
   have hm:min (Int.ofNat y).toNat k.bits = y:=by rw [hbits]; simp only [Int.ofNat_eq_natCast,Int.toNat_natCast]; omega
   have hneg:¬ (Int.ofNat y < 0):=by simp only [Int.ofNat_eq_natCast]; omega
   have hd:k.wrap (Int.ofNat x * 2 ^ y) = Int.ofNat (Nat.shiftLeft x y):=by
    have e1:Int.ofNat x * 2 ^ y = ((Nat.shiftLeft x y:Nat):Int):=by
     show (x:Int) * 2 ^ y = (((x <<< y:Nat)):Int)
     rw [Nat.shiftLeft_eq]
     simp
    rw [e1,wrap_small hb.1 _ (by omega)]
    rfl
   simp only [binOp,Op.shift,hneg,if_false,hm,hd,Sem.run_pure]
 ·cases hb:(isW64 k && fits64 x y) with
  | false=>rw [hb] at e; cases e
  | true =>
   rw [hb,cond_true] at e
   rw [Bool.and_eq_true] at hb
   obtain ⟨hk,hb⟩:=hb
   unfold fits64 at hb
   rw [Bool.and_eq_true] at hb
   have hx:x < 4611686018427387904:=by simpa [Nat.blt_eq] using hb.1
   have hy:y < 4611686018427387904:=by simpa [Nat.blt_eq] using hb.2
   cases e
   obtain rfl:k = k':=by
    rcases hkk with h|h|h
    ·cases h
    ·cases h
    ·exact h
   refine ⟨?_,_,rfl⟩
   have hd:(BitVec.ofInt k.bits (Int.ofNat x) &&& BitVec.ofInt k.bits (Int.ofNat y)).toNat = Nat.land x y:=by
    rw [BitVec.toNat_and]
    show (BitVec.ofInt k.bits (x:Int)).toNat &&& (BitVec.ofInt k.bits (y:Int)).toNat = _
    rw [oP hk x hx,oP hk y hy]
    rfl
   have hlt:Nat.land x y < 9223372036854775808:=Nat.lt_of_le_of_lt (Nat.and_le_left (n:=x) (m:=y)) (by omega)
   simp only [binOp,ne_eq,not_true_eq_false,if_false,Op.intBits,hd,Sem.run_pure,wrap_small hk _ hlt]
   rfl
 ·cases hb:(isW64 k && fits64 x y) with
  | false=>rw [hb] at e; cases e
  | true =>
   rw [hb,cond_true] at e
   rw [Bool.and_eq_true] at hb
   obtain ⟨hk,hb⟩:=hb
   unfold fits64 at hb
   rw [Bool.and_eq_true] at hb
   have hx:x < 4611686018427387904:=by simpa [Nat.blt_eq] using hb.1
   have hy:y < 4611686018427387904:=by simpa [Nat.blt_eq] using hb.2
   cases e
   obtain rfl:k = k':=by
    rcases hkk with h|h|h
    ·cases h
    ·cases h
    ·exact h
   refine ⟨?_,_,rfl⟩
   have hd:(BitVec.ofInt k.bits (Int.ofNat x) ||| BitVec.ofInt k.bits (Int.ofNat y)).toNat = Nat.lor x y:=by
    rw [BitVec.toNat_or]
    show (BitVec.ofInt k.bits (x:Int)).toNat ||| (BitVec.ofInt k.bits (y:Int)).toNat = _
    rw [oP hk x hx,oP hk y hy]
    rfl
   have hlt:Nat.lor x y < 9223372036854775808:=by
    have:=Nat.or_lt_two_pow (x:=x) (y:=y) (n:=62) (by omega) (by omega)
    show x ||| y < _
    omega
   simp only [binOp,ne_eq,not_true_eq_false,if_false,Op.intBits,hd,Sem.run_pure,wrap_small hk _ hlt]
   rfl
 ·cases e

theorem uM {op:BinOp} {k k':IntKind} {a b:Int} {v:Value} (hkk:op = .shl ∨ op = .shr ∨ k = k') (e:fastI op k a b = some v) (ty:TypeId) (p q:Operand) (w:World) :
  (do eqGuard op ty p q (.int k a) (.int k' b); binOp op ty (.int k a) (.int k' b):Sem Value).run P w = .ok v w ∧ ∃ n,v = .int k n:=by
 unfold fastI at e
 split at e
 ·exact fastBits_run hkk e ty p q w
 ·cases e

theorem fastB2_run {op:BinOp} {k k':IntKind} {a b:Int} {v:Value} (e:rU op k k' a b = some v) (ty:TypeId) (p q:Operand) (w:World) :
  (do eqGuard op ty p q (.int k a) (.int k' b); binOp op ty (.int k a) (.int k' b):Sem Value).run P w = .ok v w ∧ ∃ n,v = .int k n:=by
 unfold rU at e
 split at e
 ·exact uM (.inr (.inl rfl)) e ty p q w
 ·exact uM (.inl rfl) e ty p q w
 ·cases hk:beqKind k k' with
  | false=>rw [hk] at e; cases e
  | true=>rw [hk,cond_true] at e; exact uM (.inr (.inr (oI hk))) e ty p q w
 ·cases hk:beqKind k k' with
  | false=>rw [hk] at e; cases e
  | true=>rw [hk,cond_true] at e; exact uM (.inr (.inr (oI hk))) e ty p q w
 ·cases e

theorem rBin_rel (hT:TR m t n a.tmps) (hg:∀ g,g < P.globals.size → m g = some (g,0)) {o:Oper} {op:BinOp} {ty yt:TypeId} {x y:Operand} {v:Value}
  (ho:o.op = .binOp op ty x y yt) (e:nV P t o op ty (ev P t y) (ev P t x) = some v) :
  ∃ v',(execOp a.eval o).run P w = .ok (.value v') w ∧ VR m v v':=by
 have hx:=eP (P:=P) hT hg x
 have hy:=eP (P:=P) hT hg y
 have hgr:=fun e=>gV hT hg o (v:=v) e w
 unfold nV at e
 split at e
 ·rename_i k x0 hev
  rw [hev] at hx
  unfold rBin1 at e
  split at e
  ·rename_i k' y0 hev'
   rw [hev'] at hy
   have h3:∀ {v},rBin3 P t o (rU op k k' x0 y0) = some v → ∃ v',(execOp a.eval o).run P w = .ok (.value v') w ∧ VR m v v':=by
    intro v e
    cases hf:rU op k k' x0 y0 with
    | none=>rw [hf] at e; exact gV hT hg o e w
    | some r =>
     rw [hf] at e
     cases e
     generalize hx':a.eval x = x' at hx
     generalize hy':a.eval y = y' at hy
     cases hx
     cases hy
     obtain ⟨g1,n,rfl⟩:=fastB2_run (P:=P) hf ty x y w
     refine ⟨_,?_,.int _ _⟩
     simp only [execOp,ho,hx',hy']
     exact eX g1
   cases hk:beqKind k k' with
   | false=>rw [hk] at e; exact h3 e
   | true =>
    rw [hk,cond_true] at e
    obtain rfl:=oI hk
    split at e
    ·rename_i v0 hf
     cases e
     generalize hx':a.eval x = x' at hx
     generalize hy':a.eval y = y' at hy
     cases hx
     cases hy
     have:=fastBin_run (P:=P) hf ty x y w
     refine ⟨v,?_,?_⟩
     ·simp only [execOp,ho,hx',hy']
      exact eX this
     ·unfold iQ at hf
      split at hf<;>cases hf<;>first|exact .int _ _|exact .bool _
    ·exact h3 e
  ·cases e
 ·unfold rBin2 at e
  split at e
  ·rename_i b hb
   unfold qH at hb
   split at hb
   ·rename_i d hu
    obtain ⟨k1,k2,k3⟩:=nilEq_run (P:=P) hx hy hb hu w
    split at e
    ·cases e
     refine ⟨_,?_,.bool _⟩
     simp only [execOp,ho]
     refine eX ?_
     rw [Sem.run_bind,k2,Result.andThen_ok,k3 _ (.inl rfl)]
     simp [k1]
    ·cases e
     refine ⟨_,?_,.bool _⟩
     simp only [execOp,ho]
     refine eX ?_
     rw [Sem.run_bind,k2,Result.andThen_ok,k3 _ (.inr rfl)]
     simp [k1]
    ·cases e
   ·cases hb
  ·exact hgr e

theorem rUn_rel (hT:TR m t n a.tmps) (hg:∀ g,g < P.globals.size → m g = some (g,0)) {o:Oper} {op:UnOp} {ty:TypeId} {x:Operand} {v:Value}
  (ho:o.op = .unOp op ty x) (e:rUn P t o op (ev P t x) = some v):∃ v',(execOp a.eval o).run P w = .ok (.value v') w ∧ VR m v v':=by
 have hx:=eP (P:=P) hT hg x
 unfold rUn at e
 split at e
 ·rename_i b hev
  rw [hev] at hx
  generalize hx':a.eval x = x' at hx
  cases hx
  split at e
  ·cases e
   exact ⟨_,by simp [execOp,ho,hx',Op.unary],.bool _⟩
  ·cases e
 ·exact gV hT hg o e w

theorem rIndex_rel (hT:TR m t n a.tmps) (hg:∀ g,g < P.globals.size → m g = some (g,0)) {o:Oper} {ty:TypeId} {x ix:Operand} {v:Value}
  (ho:o.op = .index ty x ix) (e:vV P t o ty (ev P t ix) (ev P t x) = some v):∃ v',(execOp a.eval o).run P w = .ok (.value v') w ∧ VR m v v':=by
 have hx:=eP (P:=P) hT hg x
 have hi:=eP (P:=P) hT hg ix
 generalize hx':a.eval x = x' at hx
 generalize hi':a.eval ix = i' at hi
 unfold vV at e
 split at e
 ·rename_i cs hev
  rw [hev] at hx
  unfold uC at e
  split at e
  ·rename_i k i hevi
   rw [hevi] at hi
   cases hi
   cases hx with
   | @agg _ cs' hk h1 =>
    split at e
    ·rename_i len el ha
     cases hb:Nat.blt i len with
     | false=>rw [hb] at e; cases e
     | true =>
      rw [hb,cond_true] at e
      have hb':i < len:=by simpa [Nat.blt_eq] using hb
      split at e
      ·rename_i sz hs
       obtain ⟨v',g1,g2⟩:=partL_part hk h1 e w
       refine ⟨v',?_,g2⟩
       simp only [execOp,ho,hx',hi']
       refine eX ?_
       simp only [Instr.index,Sem.run_bind,asIntOf,Sem.run_pure,Result.andThen_ok,bU (arrOf_und ha)]
       have g3:(part el cs' (i * sz)).run P w = .ok v' w:=by simpa using g1
       simp [hb',gB hs,g3]
      ·cases e
    ·cases e
  ·cases e
 ·rename_i l hev
  rw [hev] at hx
  cases hx
  unfold rIndexStr at e
  split at e
  ·rename_i k i hevi
   rw [hevi] at hi
   cases hi
   cases hs:lX P ty with
   | false=>rw [hs] at e; cases e
   | true =>
    rw [hs,cond_true] at e
    split at e
    ·rename_i b hb
     cases e
     refine ⟨_,?_,.int _ _⟩
     simp only [execOp,ho,hx',hi']
     refine eX ?_
     have hb2:(ByteArray.mk ⟨l⟩)[i]? = some b:=by
      have hlt:i < l.length:=(List.getElem?_eq_some_iff.1 hb).1
      have:i < (ByteArray.mk ⟨l⟩).size:=hlt
      have h2:=(List.getElem?_eq_some_iff.1 hb).2
      show (if h:i < (ByteArray.mk ⟨l⟩).size then some ((ByteArray.mk ⟨l⟩)[i]) else none) = some b
      rw [dif_pos this,← h2]
      rfl
     simp only [Instr.index,Sem.run_bind,asIntOf,Sem.run_pure,Result.andThen_ok,bU (pU hs)]
     simp [hb2]
    ·cases e
  ·cases e
 ·exact gV hT hg o e w

theorem rExtract_rel {i:Nat} {x x' v:Value} (hx:VR m x x') (e:pG i x = some v):∃ v',(Instr.extract x' i).run P w = .ok v' w ∧ VR m v v':=by
 unfold pG at e
 split at e
 ·rename_i vs
  cases hx with
  | tuple k =>
   obtain ⟨v',h1,h2⟩:=k.get i v (by simpa using e)
   exact ⟨v',by simp [Instr.extract,show _ from (by simpa using h1)],h2⟩
 ·cases e

theorem rIface_rel {ty:TypeId} {x x' v:Value} (hx:VR m x x') (e:rIface P ty x = some v):∃ v',(Instr.makeInterface ty x').run P w = .ok v' w ∧ VR m v v':=by
 unfold rIface at e
 split at e
 ·cases e
 ·rename_i d hne hu
  cases e
  refine ⟨_,?_,.iface ty hx⟩
  simp only [Instr.makeInterface,Sem.run_bind,bU hu,Result.andThen_ok]
  try (cases d<;>simp_all)
 ·cases e

end
end Go.Ev

/- Operations that only read: aggregates, maps, bytes; the theorem. -/
namespace Go.Ev
open Go.RowKit

section
variable {P:Program} {m:M} {w0:Base} {w:World} {h:AHeap} {t:T Value} {n:Nat} {a:Act}

/-! ## Aggregates -/
theorem LR.set:∀ {l l':List Value},LR m l l' → ∀ (i:Nat) {v v':Value},VR m v v' → LR m (l.set i v) (l'.set i v')
 | _,_,.nil,_,_,_,_=>by simp; exact .nil
 | _,_,.cons _ k,0,_,_,hv=>by simp only [List.set_cons_zero]; exact .cons hv k
 | _,_,.cons x k,i + 1,_,_,hv=>by simp only [List.set_cons_succ]; exact .cons x (LR.set k i hv)

theorem pW {v v':Value} (k:VR m v v') (ho:okV v = true):LR m v.cells.toList v'.cells.toList ∧ ∀ u ∈ v'.cells.toList,oneB u = true:=by
 cases k with
 | any _ _ _ _=>cases ho
 | tuple _=>cases ho
 | agg k h1=>exact ⟨k,h1⟩
 | bool b=>exact ⟨.cons (.bool b) .nil,by simp [Value.cells,oneB]⟩
 | int k n=>exact ⟨.cons (.int k n) .nil,by simp [Value.cells,oneB]⟩
 | float k n=>exact ⟨.cons (.float k n) .nil,by simp [Value.cells,oneB]⟩
 | string s=>exact ⟨.cons (.string s) .nil,by simp [Value.cells,oneB]⟩
 | nilPtr=>exact ⟨.cons .nilPtr .nil,by simp [Value.cells,oneB]⟩
 | ptr off e=>exact ⟨.cons (.ptr off e) .nil,by simp [Value.cells,oneB]⟩
 | nilSl=>exact ⟨.cons .nilSl .nil,by simp [Value.cells,oneB]⟩
 | sl off len cap cap' e hc hz=>exact ⟨.cons (.sl off len cap cap' e hc hz) .nil,by simp [Value.cells,oneB]⟩
 | emp a c=>exact ⟨.cons (.emp a c) .nil,by simp [Value.cells,oneB]⟩
 | nilMap=>exact ⟨.cons .nilMap .nil,by simp [Value.cells,oneB]⟩
 | map e=>exact ⟨.cons (.map e) .nil,by simp [Value.cells,oneB]⟩
 | nilChan=>exact ⟨.cons .nilChan .nil,by simp [Value.cells,oneB]⟩
 | func f a c=>exact ⟨.cons (.func f a c) .nil,by simp [Value.cells,oneB]⟩
 | yield e a c=>exact ⟨.cons (.yield e a c) .nil,by simp [Value.cells,oneB]⟩
 | nilFunc=>exact ⟨.cons .nilFunc .nil,by simp [Value.cells,oneB]⟩
 | nilIface=>exact ⟨.cons .nilIface .nil,by simp [Value.cells,oneB]⟩
 | iface t k=>exact ⟨.cons (.iface t k) .nil,by simp [Value.cells,oneB]⟩

theorem cells_size {v v':Value} (k:VR m v v') (ho:okV v = true):v.cells.size = v'.cells.size:=by
 have:=(pW k ho).1.length
 simpa using this

def putAt (off:Nat) (cs:Array Value) (p:Value × Nat):Array Value:=cs.setIfInBounds (off + p.2) p.1

theorem fold_rel (off:Nat):∀ {l l':List Value},LR m l l' → ∀ (j:Nat) {cs cs':Array Value},LR m cs.toList cs'.toList →
  LR m ((l.zipIdx j).foldl (putAt off) cs).toList ((l'.zipIdx j).foldl (putAt off) cs').toList
 | _,_,.nil,_,_,_,k=>by simpa using k
 | _,_,.cons x r,j,cs,cs',k=>by
  simp only [List.zipIdx_cons,List.foldl_cons]
  refine fold_rel off r (j + 1) ?_
  simp only [putAt,Array.toList_setIfInBounds]
  exact k.set _ x

theorem fold_one (off:Nat):∀ (l:List Value),(∀ u ∈ l,oneB u = true) → ∀ (j:Nat) (cs:Array Value),(∀ u ∈ cs.toList,oneB u = true) →
  ∀ u ∈ ((l.zipIdx j).foldl (putAt off) cs).toList,oneB u = true
 | [],_,_,cs,k=>by simpa using k
 | x :: r,hl,j,cs,k=>by
  simp only [List.zipIdx_cons,List.foldl_cons]
  refine fold_one off r (fun u hu=>hl u (by simp [hu])) (j + 1) _ ?_
  simp only [putAt,Array.toList_setIfInBounds]
  intro u hu
  rcases List.mem_or_eq_of_mem_set hu with hu|hu
  ·exact k u hu
  ·subst hu; exact hl _ (by simp)

inductive PR (m:M):List (Nat × Value) → List (Nat × Value) → Prop
 | nil:PR m [] []
 | cons {i:Nat} {v v':Value} {l l':List (Nat × Value)} (h:VR m v v') (ht:PR m l l'):PR m ((i,v) :: l) ((i,v') :: l')

theorem parts_rel (hT:TR m t n a.tmps) (hg:∀ g,g < P.globals.size → m g = some (g,0)):∀ l:List (Nat × Operand),
  PR m (l.map fun p=>(p.1,ev P t p.2)) (l.map fun p=>(p.1,a.eval p.2))
 | []=>.nil
 | p :: l=>.cons (eP hT hg p.2) (parts_rel hT hg l)

theorem fill_rel {place place':Nat → Option (Nat × Nat)} (hp:∀ k p,place k = some p → place' k = some p):∀ {l l':List (Nat × Value)},PR m l l' → okP l = true → ∀ {cs cs':Array Value} {r:Array Value},
  LR m cs.toList cs'.toList → (∀ u ∈ cs'.toList,oneB u = true) → Instr.fill place cs l = some r →
  ∃ r',Instr.fill place' cs' l' = some r' ∧ LR m r.toList r'.toList ∧ ∀ u ∈ r'.toList,oneB u = true
 | _,_,.nil,_,cs,cs',r,k,k1,e=>by
  simp only [Instr.fill,Option.some.injEq] at e
  subst e
  exact ⟨cs',by simp [Instr.fill],k,k1⟩
 | _,_,.cons (i:=i) (v:=v) (v':=v') hv ht,ho,cs,cs',r,k,k1,e=>by
  simp only [okP,Bool.and_eq_true] at ho
  simp only [Instr.fill] at e
  split at e
  ·cases e
  ·rename_i off size hpl
   split at e
   ·cases e
   ·rename_i hc
    have hsz:=cells_size hv ho.1
    have hcs:cs.size = cs'.size:=by simpa using k.length
    have hr:=pW hv ho.1
    have e1:(v.cells.zipIdx.foldl (fun cs x=>cs.setIfInBounds (off + x.2) x.1) cs) = (v.cells.toList.zipIdx 0).foldl (putAt off) cs:=by
     rw [← Array.foldl_toList]
     simp
     rfl
    have e1':(v'.cells.zipIdx.foldl (fun cs x=>cs.setIfInBounds (off + x.2) x.1) cs') = (v'.cells.toList.zipIdx 0).foldl (putAt off) cs':=by
     rw [← Array.foldl_toList]
     simp
     rfl
    rw [e1] at e
    obtain ⟨r',g1,g2,g3⟩:=fill_rel hp ht ho.2 (fold_rel off hr.1 0 k) (fold_one off _ hr.2 0 cs' k1) e
    refine ⟨r',?_,g2,g3⟩
    simp only [Instr.fill,hp _ _ hpl]
    rw [if_neg (by rw [← hsz,← hcs]; exact hc),e1']
    exact g1

theorem dK {ty:TypeId} {z:Value} (e:zeroOf P ty = some z):∃ i,P.info? ty = some i ∧ i.zero = some z ∧ plainB z = true ∧ okV z = true:=by
 unfold zeroOf at e
 split at e
 ·rename_i i hi
  split at e
  ·rename_i z' hz
   cases hp:(plainB z' && okV z') with
   | false=>rw [hp] at e; cases e
   | true =>
    rw [hp,cond_true] at e; cases e
    simp only [Bool.and_eq_true] at hp
    exact ⟨i,hi,hz,hp.1,hp.2⟩
  ·cases e
 ·cases e

theorem jQ {ty:TypeId} {z:Value} (e:zeroOf P ty = some z) (w:World):(zeroValue ty).run P w = .ok z w:=by
 obtain ⟨i,hi,hz,_⟩:=dK e
 simp [zeroValue,pR hi,hz]

theorem iL {m:M} {z:Value} (hp:plainB z = true):LR m z.cells.toList z.cells.toList:=by
 cases z with
 | agg cs=>simp only [plainB,Bool.and_eq_true] at hp; exact oD m cs hp.1
 | _=>exact .cons (eH m _ hp) .nil

theorem jF {z:Value} (hp:plainB z = true) (ho:okV z = true):∀ u ∈ z.cells.toList,oneB u = true:=(pW (m:=⟨fun _=>none,fun _=>none⟩) (eH _ z hp) ho).2

theorem placesL_run:∀ {fs:List Field} {ps:List (Nat × Nat)},wK P fs = some ps → ∀ w,(fs.mapM fun f=>do pure (f.offset,← sizeOf f.type):Sem (List (Nat × Nat))).run P w = .ok ps w
 | [],ps,e,w=>by simp only [wK,Option.some.injEq] at e; subst e; simp
 | f :: l,ps,e,w=>by
  simp only [wK] at e
  split at e
  ·rename_i sz qs h1 h2
   cases e
   have:=placesL_run h2 w
   simp only [List.mapM_cons,Sem.run_bind,gB h1,Result.andThen_ok,Sem.run_pure,this]
  ·cases e

theorem rBuild_rel {ty:TypeId} {l l':List (Nat × Value)} {v:Value} (k:PR m l l') (e:fG P ty l = some v):∃ v',(Instr.build ty l'.toArray).run P w = .ok v' w ∧ VR m v v':=by
 unfold fG at e
 have key:∀ (place place':Nat → Option (Nat × Nat)) (z:Value),plainB z = true → okV z = true → (∀ k p,place k = some p → place' k = some p) → fillA place z l = some v →
   ∃ r',Instr.fill place' z.cells l' = some r' ∧ VR m v (.agg r'):=by
  intro place place' z hz hoz hp he
  unfold fillA at he
  cases ho:okP l with
  | false=>rw [ho] at he; cases he
  | true =>
   rw [ho,cond_true] at he
   split at he
   ·rename_i cs hf
    cases he
    obtain ⟨r',g1,g2,g3⟩:=fill_rel hp k ho (iL hz) (jF hz hoz) hf
    exact ⟨r',g1,.agg g2 g3⟩
   ·cases he
 split at e
 ·rename_i z fields hz hu
  obtain ⟨_,_,_,hpz,hoz⟩:=dK hz
  split at e
  ·rename_i ps hps
   obtain ⟨r',g1,g2⟩:=key _ (fun k=>ps[k]?) z hpz hoz (fun _ _ h=>h) e
   refine ⟨_,?_,g2⟩
   have hm:(fields.mapM fun f=>do pure (f.offset,← sizeOf f.type):Sem (Array (Nat × Nat))).run P w = .ok ps.toArray w:=by
    rw [Array.mapM_eq_mapM_toList,Sem.run_map,placesL_run hps w]
    rfl
   simp only [Instr.build,Sem.run_bind,jQ hz,Result.andThen_ok,bU hu,hm]
   simp only [List.getElem?_toArray,g1]
   rfl
  ·cases e
 ·rename_i z len el hz hu
  obtain ⟨_,_,_,hpz,hoz⟩:=dK hz
  split at e
  ·rename_i sz hs
   obtain ⟨r',g1,g2⟩:=key _ _ z hpz hoz (fun _ _ h=>h) e
   refine ⟨_,?_,g2⟩
   simp only [Instr.build,Sem.run_bind,jQ hz,Result.andThen_ok,bU hu,gB hs,g1]
   rfl
  ·cases e
 ·cases e

/-! ## Maps -/
/-- What a search finds. -/
def KR (m:M):Option (Nat × Value) → Option (Nat × Value) → Prop
 | none,none=>True
 | some (i,v),some (j,v')=>i = j ∧ VR m v v'
 | _,_=>False

theorem findNow_rel (d:TypeDesc) (k:Value):∀ {es es':List MapEntry},ER m es es' → ∀ i:Nat,
  (Instr.findNow d k es i = none → Instr.findNow d k es' i = none) ∧ (∀ r,Instr.findNow d k es i = some r → ∃ r',Instr.findNow d k es' i = some r' ∧ KR m r r')
 | _,_,.nil,i=>⟨fun h=>by simp [Instr.findNow] at h,fun r h=>by simp only [Instr.findNow,Option.some.injEq] at h; subst h; exact ⟨none,by simp [Instr.findNow],trivial⟩⟩
 | _,_,.cons (e:=e) (e':=e') hk hb hv ht,i=>by
  have ih:=findNow_rel d k ht (i + 1)
  simp only [Instr.findNow,← hk]
  cases hs:Instr.sameNow d k e.key with
  | none=>exact ⟨fun _=>rfl,fun r h=>by cases h⟩
  | some b =>
   cases b with
   | true=>exact ⟨fun h=>(by cases h),fun r h=>by simp only [Option.some.injEq] at h; subst h; exact ⟨_,rfl,rfl,hv⟩⟩
   | false=>exact ih

theorem rY {α β:Type} (x:Sem α) (f:α → Sem β):pureOf P (x >>= f) = match pureOf P x with|some a=>pureOf P (f a)|none=>none:=by
 show pureOf P (x.bind f) = _
 induction x with
 | pure b=>rfl
 | program k ih=>simp only [Sem.bind,pureOf]; exact ih P
 | mark mk k ih=>simp only [Sem.bind,pureOf]; exact ih
 | _=>rfl

theorem sD (kt:TypeId) (k:Value):∀ {es es':List MapEntry},ER m es es' → ∀ (i:Nat) {r:Option (Nat × Value)},pureOf P (Instr.findAsking kt k es i) = some r →
  ∃ r',(Instr.findAsking kt k es' i).run P w = .ok r' w ∧ KR m r r'
 | _,_,.nil,i,r,h=>by
  simp only [Instr.findAsking,pureOf,pure,Option.some.injEq] at h
  subst h
  exact ⟨none,by simp [Instr.findAsking],trivial⟩
 | _,_,.cons (e:=e) (e':=e') hk hb hv ht,i,r,h=>by
  simp only [Instr.findAsking,rY] at h
  split at h
  ·rename_i b hb
   have hrun:=oG (P:=P) _ _ w hb
   rw [hk] at hrun
   cases b with
   | true =>
    simp only [if_true,pureOf,pure,Option.some.injEq] at h
    subst h
    exact ⟨some (i,e'.val),by simp [Instr.findAsking,hrun],rfl,hv⟩
   | false =>
    simp only [Bool.false_eq_true,if_false] at h
    obtain ⟨r',g1,g2⟩:=sD kt k ht (i + 1) h
    exact ⟨r',by simp [Instr.findAsking,hrun,g1],g2⟩
  ·cases h

theorem findKey_rel {kt:TypeId} {k:Value} {es es':List MapEntry} (hE:ER m es es') {r:Option (Nat × Value)} (e:findKeyL P kt k es = some r) (w:World) :
  ∃ r',(Instr.findKey kt k es').run P w = .ok r' w ∧ KR m r r':=by
 unfold findKeyL Instr.findKey at e
 rw [rY] at e
 split at e
 ·rename_i d hd
  have hrd:=oG (P:=P) _ _ w hd
  have hf:=findNow_rel d k hE 0
  simp only [Instr.findKey,Sem.run_bind,hrd,Result.andThen_ok]
  cases hn:Instr.findNow d k es 0 with
  | none =>
   rw [hn] at e
   obtain ⟨r',g1,g2⟩:=sD (w:=w) kt k hE 0 e
   exact ⟨r',by rw [hf.1 hn]; exact g1,g2⟩
  | some r0 =>
   rw [hn] at e
   simp only [pureOf,pure,Option.some.injEq] at e
   subst e
   obtain ⟨r',g1,g2⟩:=hf.2 _ hn
   exact ⟨r',by rw [g1]; rfl,g2⟩
 ·cases e

theorem dS {α β:Type} (s:Sem α) (f:α → Sem β) (a:α) (h:pureOf P s = some a):pureOf P (s >>= f) = pureOf P (f a):=by rw [rY,h]

theorem kE {t:TypeId} {d:TypeDesc} (h:P.underlying t = some d):pureOf P (underlying t) = some d:=by
 simp [underlying,pureOf,program,bind,Sem.bind,h,pure]

theorem qP {e:TypeId} {j:IntKind} (he:P.underlying e = some (.int j)) (xs:List Value) (i:Nat) (v:Value) (hi:xs[i]? = some v):pureOf P (part e ⟨xs⟩ i) = some v:=by
 have hag:pureOf P (isAgg e) = some false:=by
  unfold isAgg
  rw [dS _ _ _ (kE he)]
  rfl
 unfold part
 rw [dS _ _ _ hag]
 have hx:(⟨xs⟩:Array Value)[i]? = some v:=by
  show (List.toArray xs)[i]? = _
  rw [List.getElem?_toArray,hi]
 simp only [Bool.false_eq_true,if_false]
 rw [hx]
 rfl

theorem beqI_dec (a b:Int):beqI a b = (a == b):=by
 rw [Bool.eq_iff_iff,beqI_iff,beq_iff_eq]

theorem intKey_eq (d:Nat) {kt:TypeId} {n:Nat} (hk:lH P kt = some n) (xs ys:List Value) (hx:xs.length = n) {b:Bool} (e:eqInts xs ys = some b) :
  pureOf P (Op.equalIn (d + 2) kt (.agg ⟨xs⟩) (.agg ⟨ys⟩)) = some b:=by
 unfold lH at hk
 split at hk
 ·rename_i fs hu
  cases hc:(intFs P fs.toList 0 && !(P.stoodInHeld kt)) with
  | false=>rw [hc] at hk; cases hk
  | true =>
   rw [hc,cond_true] at hk
   cases hk
   rw [Bool.and_eq_true] at hc
   obtain ⟨hfs,hst⟩:=hc
   rw [Bool.not_eq_true'] at hst
   rw [Op.equalIn,dS _ _ _ (kE hu)]
   simp only
   rw [dS (s:=program) (a:=P) _ (by rfl)]
   simp only [hst,Bool.false_eq_true,if_false]
   rw [← Array.forIn_toList]
   generalize fs.toList = l at hfs hx
   have start:∃ i l1 l2,xs.drop i = l1 ∧ ys.drop i = l2 ∧ l1.length = l.length ∧ intFs P l i = true ∧ eqInts l1 l2 = some b:=⟨0,xs,ys,rfl,rfl,hx,hfs,e⟩
   clear hx hfs e
   obtain ⟨i,l1,l2,h1,h2,hl,hf,e⟩:=start
   revert i l1 l2
   induction l with
   | nil =>
    intro i l1 l2 h1 h2 hl _ e
    cases l1 with
    | cons _ _=>cases hl
    | nil =>
     cases l2 with
     | nil=>cases e; rfl
     | cons _ _=>cases e
   | cons f l ih =>
    intro i l1 l2 h1 h2 hl hf e
    simp only [intFs,Bool.and_eq_true] at hf
    obtain ⟨hn,ho,ht,hf⟩:=hf
    have ho:=Nat.eq_of_beq_eq_true ho
    cases hu:P.underlying f.type with
    | none=>rw [hu] at ht; cases ht
    | some dd =>
    rw [hu] at ht
    cases dd with
    | int j =>
     cases l1 with
     | nil=>cases hl
     | cons x l1 =>
     cases l2 with
     | nil=>cases x<;>cases e
     | cons y l2 =>
     cases x with
     | int k a =>
      cases y with
      | int k' a' =>
       simp only [eqInts] at e
       have px:pureOf P (part f.type ⟨xs⟩ f.offset) = some (.int k a):=qP hu xs _ _ (by rw [ho,← Nat.add_zero i,← List.getElem?_drop,h1]; rfl)
       have py:pureOf P (part f.type ⟨ys⟩ f.offset) = some (.int k' a'):=qP hu ys _ _ (by rw [ho,← Nat.add_zero i,← List.getElem?_drop,h2]; rfl)
       have d1:xs.drop (i + 1) = l1:=by rw [← List.drop_drop,h1]; rfl
       have d2:ys.drop (i + 1) = l2:=by rw [← List.drop_drop,h2]; rfl
       cases hkk:beqKind k k' with
       | false=>rw [hkk] at e; cases e
       | true =>
        rw [hkk,cond_true] at e
        obtain rfl:=oI hkk
        have pe:pureOf P (Op.equalIn (d + 1) f.type (.int k a) (.int k a')) = some (beqI a a'):=by
         rw [Op.equalIn,dS _ _ _ (kE hu),beqI_dec]
         simp only [if_true]
         rfl
        have hn':f.name ≠ "_" := by simpa using hn
        rw [List.forIn_cons]
        simp only [if_pos hn',bind_assoc]
        rw [dS _ _ _ px,dS _ _ _ py,dS _ _ _ pe]
        cases hb:beqI a a' with
        | false =>
         rw [hb] at e
         cases e
         rfl
        | true =>
         rw [hb,cond_true] at e
         exact ih (i + 1) l1 l2 d1 d2 (by simpa using hl) hf e
      | _=>cases e
     | _=>cases y<;>cases e
    | _=>cases ht
 ·cases hk

theorem intKey_check (empty:Bool) (d:Nat) {kt:TypeId} {n:Nat} (hk:lH P kt = some n) (xs:List Value) (hx:xs.length = n):pureOf P (Instr.checkKey empty (d + 2) kt (.agg ⟨xs⟩)) = some ():=by
 unfold lH at hk
 split at hk
 ·rename_i fs hu
  cases hc:(intFs P fs.toList 0 && !(P.stoodInHeld kt)) with
  | false=>rw [hc] at hk; cases hk
  | true =>
   rw [hc,cond_true] at hk
   cases hk
   rw [Bool.and_eq_true] at hc
   obtain ⟨hfs,-⟩:=hc
   rw [Instr.checkKey,dS _ _ _ (kE hu)]
   simp only
   rw [← Array.forIn_toList]
   generalize fs.toList = l at hfs hx
   have key:∀ (l:List Field) (i:Nat),i + l.length = xs.length → intFs P l i = true →
     pureOf P (forIn l PUnit.unit fun f _ =>
       if f.name ≠ "_" then do
        let u ← part f.type ⟨xs⟩ f.offset
        Instr.checkKey empty (d + 1) f.type u
        pure (ForInStep.yield PUnit.unit)
       else pure (ForInStep.yield PUnit.unit)) = some ():=by
    intro l
    induction l with
    | nil=>intro i _ _; rfl
    | cons f l ih =>
     intro i hl hf
     simp only [intFs,Bool.and_eq_true] at hf
     obtain ⟨hn,ho,ht,hf⟩:=hf
     have ho:=Nat.eq_of_beq_eq_true ho
     cases hu:P.underlying f.type with
     | none=>rw [hu] at ht; cases ht
     | some dd =>
     rw [hu] at ht
     cases dd with
     | int j =>
      have hlt:i < xs.length:=by rw [List.length_cons] at hl; omega
      have px:pureOf P (part f.type ⟨xs⟩ f.offset) = some xs[i]:=qP hu xs _ _ (by rw [ho]; exact List.getElem?_eq_getElem hlt)
      have pe:pureOf P (Instr.checkKey empty (d + 1) f.type xs[i]) = some ():=by
       rw [Instr.checkKey,dS _ _ _ (kE hu)]
       rfl
      have hn':f.name ≠ "_" := by simpa using hn
      rw [List.forIn_cons]
      simp only [if_pos hn',bind_assoc]
      rw [dS _ _ _ px,dS _ _ _ pe]
      exact ih (i + 1) (by rw [List.length_cons] at hl; omega) hf
     | _=>cases ht
   have:=key l 0 (by omega) hfs
   simpa using this
 ·cases hk

theorem findI_eq {kt:TypeId} {n:Nat} (hk:lH P kt = some n) (k:List Value) (hx:k.length = n):∀ (es:List MapEntry) (i:Nat) {r:Option (Nat × Value)},findI k es i = some r → pureOf P (Instr.findAsking kt (.agg ⟨k⟩) es i) = some r
 | [],i,r,e=>e
 | e :: es,i,r,h=>by
  unfold findI at h
  split at h
  ·rename_i c hc
   rw [Instr.findAsking]
   split at h
   ·rename_i he
    rw [dS _ _ _ (by rw [hc]; exact intKey_eq 9998 hk k c hx he)]
    exact h
   ·rename_i he
    rw [dS _ _ _ (by rw [hc]; exact intKey_eq 9998 hk k c hx he)]
    simp only [Bool.false_eq_true,if_false]
    rw [bP] at h
    exact findI_eq hk k hx es (i + 1) h
   ·cases h
  ·cases h

theorem findNow_agg (d:TypeDesc) (c:Array Value):∀ (es:List MapEntry) (i:Nat),es ≠ [] → Instr.findNow d (.agg c) es i = none
 | [],_,h=>absurd rfl h
 | e :: es,i,_=>by
  have:Instr.sameNow d (.agg c) e.key = none:=by
   unfold Instr.sameNow
   split<;>first|rfl|contradiction
  simp only [Instr.findNow,this]

theorem findKeyF_eq {empty:Bool} {kt:TypeId} {k:Value} {es:List MapEntry} {r:Option (Nat × Value)} (e:o8 P empty kt k es (o9 k es (lH P kt)) = some r) :
  (∃ u,pureOf P (Instr.checkKey empty 10000 kt k) = some u) ∧ findKeyL P kt k es = some r:=by
 cases h1:o9 k es (lH P kt) with
 | none =>
  rw [h1] at e
  unfold o8 at e
  simp only at e
  split at e
  ·rename_i u hu
   exact ⟨⟨u,hu⟩,e⟩
  ·cases e
 | some r0 =>
  rw [h1] at e
  unfold o8 at e
  simp only at e
  cases e
  unfold o9 at h1
  split at h1
  ·rename_i n hk
   split at h1
   ·rename_i c
    cases hl:Nat.beq c.length n with
    | false=>rw [hl] at h1; cases h1
    | true =>
     rw [hl,cond_true] at h1
     have hx:=Nat.eq_of_beq_eq_true hl
     refine ⟨⟨(),intKey_check empty 9998 hk c hx⟩,?_⟩
     unfold findKeyL Instr.findKey
     have hu:∃ fs,P.underlying kt = some (.struct fs):=by
      unfold lH at hk
      split at hk
      ·rename_i fs hu; exact ⟨fs,hu⟩
      ·cases hk
     obtain ⟨fs,hu⟩:=hu
     rw [dS _ _ _ (kE hu)]
     cases es with
     | nil=>cases h1; rfl
     | cons e0 es =>
      rw [findNow_agg _ _ _ _ (by simp)]
      exact findI_eq hk c hx _ 0 h1
   ·cases h1
  ·cases h1

theorem kF {empty:Bool} {kt:TypeId} {k k':Value} (hk:VR m k k') {es es':List MapEntry} (hE:ER m es es') {r:Option (Nat × Value)} (e:findK P empty kt k es = some r) (w:World) :
  k = k' ∧ (Instr.checkKey empty 10000 kt k').run P w = .ok () w ∧ ∃ r',(Instr.findKey kt k' es').run P w = .ok r' w ∧ KR m r r':=by
 unfold findK at e
 cases hp:plainB k with
 | false=>rw [hp] at e; cases e
 | true =>
  rw [hp,cond_true] at e
  obtain rfl:=rX _ _ hp hk
  obtain ⟨⟨u,hu⟩,e⟩:=findKeyF_eq e
  exact ⟨rfl,oG (P:=P) _ _ w hu,findKey_rel hE e w⟩

theorem ER.length:∀ {es es':List MapEntry},ER m es es' → es.length = es'.length
 | _,_,.nil=>rfl
 | _,_,.cons _ _ _ h=>by simp [ER.length h]

theorem ER.isEmpty {es:List MapEntry} {es':Array MapEntry} (k:ER m es es'.toList):es.isEmpty = es'.isEmpty:=by
 have:=k.length
 rw [Bool.eq_iff_iff]
 simp only [List.isEmpty_iff_length_eq_zero,Array.isEmpty_iff_size_eq_zero]
 rw [this]
 simp

theorem rLookup_rel (hW:WR P m w0 h w) (hT:TR m t n a.tmps) {o:Oper} {ty:TypeId} {x ix:Operand} {ok:Bool} {v:Value}
  (ho:o.op = .lookup ty x ix ok) (e:lY P t h o ty (ev P t ix) ok (ev P t x) = some v) :
  ∃ v',(execOp a.eval o).run P w = .ok (.value v') w ∧ VR m v v':=by
 have hx:=eP (P:=P) hT hW.glob x
 have hi:=eP (P:=P) hT hW.glob ix
 unfold lY at e
 split at e
 ·rename_i r hev
  rw [hev] at hx
  generalize hx':a.eval x = x' at hx
  cases hx with
  | @map _ R d hm =>
   split at e
   ·rename_i kt et es clock hmap hes
    obtain ⟨es',g1,g2⟩:=hW.entries hes hm
    have hget:∀ w',w' = w → (getObj R).run P w' = .ok (.map es' clock) w':=by
     rintro _ rfl
     simp only [getObj,Sem.run,g1]
    unfold rLookup1 at e
    split at e
    ·rename_i i v0 hf
     split at e
     ·rename_i z hz
      obtain ⟨q1,q2,r',q3,q4⟩:=kF (P:=P) hi g2 hf w
      cases r' with
      | none=>exact q4.elim
      | some p =>
       obtain ⟨j,v'⟩:=p
       obtain ⟨rfl,hv⟩:=q4
       cases e
       rw [g2.isEmpty] at q2
       have hrun:(Instr.lookup ty (.map (some R)) (a.eval ix) ok).run P w = .ok (if ok then .tuple #[v',.bool true] else v') w:=by
        simp only [Instr.lookup,Sem.run_bind,bU (gG hmap),Result.andThen_ok,hget w rfl,Sem.run_pure,q2,q3]
       refine ⟨_,by simp only [execOp,ho,hx']; exact eX hrun,?_⟩
       cases ok with
       | true=>exact .tuple (.cons hv (.cons (.bool true) .nil))
       | false=>exact hv
     ·cases e
    ·rename_i hf
     split at e
     ·rename_i z hz
      obtain ⟨q1,q2,r',q3,q4⟩:=kF (P:=P) hi g2 hf w
      obtain ⟨_,_,_,hpz,_⟩:=dK hz
      cases r' with
      | some p=>exact q4.elim
      | none =>
       cases e
       rw [g2.isEmpty] at q2
       have hrun:(Instr.lookup ty (.map (some R)) (a.eval ix) ok).run P w = .ok (if ok then .tuple #[z,.bool false] else z) w:=by
        simp only [Instr.lookup,Sem.run_bind,bU (gG hmap),Result.andThen_ok,hget w rfl,Sem.run_pure,q2,q3,jQ hz]
       refine ⟨_,by simp only [execOp,ho,hx']; exact eX hrun,?_⟩
       cases ok with
       | true=>exact .tuple (.cons (eH m z hpz) (.cons (.bool false) .nil))
       | false=>exact eH m z hpz
     ·cases e
    ·cases e
   ·cases e
 ·exact gV hT hW.glob o e w

/-! ## Bytes -/
theorem bytesGo_ints:∀ (l:List Value) (acc:List UInt8) {v:Value},bytesGo l acc = some v →
  ∃ bs:List UInt8,l = bs.map (fun b=>Value.int .u8 (b.toNat:Int)) ∧ v = .string ⟨⟨acc.reverse ++ bs⟩⟩
 | [],acc,v,e=>by simp only [bytesGo,Option.some.injEq] at e; exact ⟨[],rfl,by simp [← e]⟩
 | x :: l,acc,v,e=>by
  unfold bytesGo at e
  split at e
  ·contradiction
  ·rename_i k l' heq
   cases heq
   cases hb:Nat.blt k 256 with
   | false=>rw [hb] at e; cases e
   | true =>
    rw [hb,cond_true] at e
    have hk:k < 256:=by simpa [Nat.blt_eq] using hb
    obtain ⟨bs,h1,h2⟩:=bytesGo_ints l _ e
    refine ⟨UInt8.ofNat k :: bs,?_,by simp [h2]⟩
    have:(UInt8.ofNat k).toNat = k:=by simp; omega
    rw [List.map_cons,← h1,this]
    rfl
  ·cases e

theorem isBytes_und {src dst:TypeId} (e:uG P src dst = true):∃ el,P.underlying src = some (.slice el) ∧ P.underlying el = some (.int .u8) ∧ P.underlying dst = some .string:=by
 unfold uG at e
 split at e
 ·rename_i el hs
  split at e
  ·rename_i hu; exact ⟨el,eG hs,hu,pU e⟩
  ·cases e
 ·cases e

theorem plainL_ints:∀ bs:List UInt8,plainL (bs.map (fun b=>Value.int .u8 (b.toNat:Int))) = true
 | []=>rfl
 | b :: bs=>by simp only [List.map_cons,plainL,plainB,Bool.true_and]; exact plainL_ints bs

theorem rConv_rel (hW:WR P m w0 h w) (hT:TR m t n a.tmps) {o:Oper} {src dst:TypeId} {x:Operand} {v:Value}
  (ho:o.op = .convert src dst x) (e:rConv P t h o src dst (ev P t x) = some v) :
  ∃ v',(execOp a.eval o).run P w = .ok (.value v') w ∧ VR m v v':=by
 have hx:=eP (P:=P) hT hW.glob x
 unfold rConv at e
 split at e
 ·rename_i k z hev
  rw [hev] at hx
  generalize hx':a.eval x = x' at hx
  cases hx
  unfold rConvInt at e
  split at e
  ·rename_i d k' hs hd
   cases e
   refine ⟨_,?_,.int _ _⟩
   simp only [execOp,ho,hx']
   refine eX ?_
   rw [wrapF_eq]
   simp only [convert,Sem.run_bind,bU hs,bU hd,Result.andThen_ok,Conv.intToInt,Sem.run_pure]
  ·exact gV hT hW.glob o e w
 ·rename_i b off k cap hev
  rw [hev] at hx
  generalize hx':a.eval x = x' at hx
  cases hx with
  | @sl _ B d _ _ _ cap' hm hc _ =>
   cases hb:uG P src dst with
   | false=>rw [hb] at e; cases e
   | true =>
    rw [hb,cond_true] at e
    obtain ⟨el,u1,u2,u3⟩:=isBytes_und hb
    split at e
    ·rename_i c hcl
     obtain ⟨fam,ro,hor⟩:=hW.cells hcl hm
     unfold bytesOf at e
     cases hlen:Nat.beq ((c.drop off).take k).length k with
     | false=>rw [hlen] at e; cases e
     | true =>
      rw [hlen,cond_true] at e
      have hlen':((c.drop off).take k).length = k:=Nat.eq_of_beq_eq_true hlen
      obtain ⟨bs,e1,e2⟩:=bytesGo_ints _ _ e
      obtain ⟨l',k1,k2,k3⟩:=oO hor off ((c.drop off).take k) (fun j v hj=>by
       rw [List.getElem?_take] at hj
       split at hj
       ·simpa [List.getElem?_drop] using hj
       ·cases hj)
      rw [e1] at k1 hlen'
      have k4:=pM _ _ (plainL_ints bs) k1
      subst k4
      have hk:bs.length = k:=by simpa using hlen'
      refine ⟨.string ⟨bs.toArray⟩,?_,?_⟩
      ·simp only [execOp,ho,hx']
       refine eX ?_
       have:=run_convert_bytes_back (P:=P) w src dst el ⟨B,off + d,none⟩ cap' bs u1 u2 u3 (fun j hj=>by
        rw [Addr.add_mid]
        exact k3 j _ (by simp [hj]))
       rw [hk] at this
       exact this
      ·rw [e2]
       simp only [List.reverse_nil,List.nil_append]
       exact .string _
    ·cases e
 ·exact gV hT hW.glob o e w

theorem rLen_rel (hW:WR P m w0 h w) (hT:TR m t n a.tmps) {o:Oper} {c:Call} {ty:TypeId} {tys:List TypeId} {x:Operand} {v:Value}
  (ho:o.op = .call c) (hc:c.callee = .builtin .len) (ha:c.args.toList = [x]) (ht:c.argTypes.toList = ty :: tys) (e:qJ P t h o ty (ev P t x) = some v) :
  ∃ v',(execOp a.eval o).run P w = .ok (.value v') w ∧ VR m v v':=by
 have hx:=eP (P:=P) hT hW.glob x
 have ha':c.args = #[x]:=by rw [← Array.toArray_toList (xs:=c.args),ha]
 have ht':c.argTypes[0]? = some ty:=by rw [← Array.getElem?_toList,ht]; rfl
 have hex:∀ u,(Builtin.len_ c.argTypes o.type #[a.eval x]).run P w = .ok u w → (execOp a.eval o).run P w = .ok (.value u) w:=by
  intro u hu
  simp only [execOp,ho,resolve,hc,ha',Sem.run_bind,Sem.run_pure,Result.andThen_ok,invoke,builtin]
  simp [hu]
 unfold qJ at e
 split at e
 ·rename_i ad k cap hev
  rw [hev] at hx
  cases hs:jW P ty with
  | false=>rw [hs] at e; cases e
  | true =>
   rw [hs,cond_true] at e
   cases e
   obtain ⟨el,hel⟩:∃ el,fE P ty = some el:=by
    unfold jW at hs
    split at hs
    ·rename_i el hel; exact ⟨el,hel⟩
    ·cases hs
   refine ⟨.int .i64 k,hex _ ?_,.int _ _⟩
   generalize hx':a.eval x = x' at hx
   cases hx<;>simp [Builtin.len_,ht',bU (eG hel),goInt]
 ·rename_i l hev
  rw [hev] at hx
  generalize hx':a.eval x = x' at hx hex
  cases hx
  cases hs:lX P ty with
  | false=>rw [hs] at e; cases e
  | true =>
   rw [hs,cond_true] at e
   cases e
   exact ⟨.int .i64 l.length,hex _ (by simp [Builtin.len_,ht',bU (pU hs),goInt]; rfl),.int _ _⟩
 ·rename_i r hev
  rw [hev] at hx
  generalize hx':a.eval x = x' at hx hex
  cases hx with
  | @map _ R d hm =>
   split at e
   ·rename_i p es clock hmap hes
    cases e
    obtain ⟨es',g1,g2⟩:=hW.entries hes hm
    have hget:(getObj R).run P w = .ok (.map es' clock) w:=by simp only [getObj,Sem.run,g1]
    obtain ⟨kt,et⟩:=p
    refine ⟨.int .i64 es'.size,hex _ (by simp [Builtin.len_,ht',bU (gG hmap),hget,goInt]),?_⟩
    have:=g2.length
    rw [this]
    simp only [Array.length_toList]
    exact .int _ _
   ·cases e
 ·exact gV hT hW.glob o e w

/-! ## The entry of an iterator's step; type assertions -/
theorem entryAt_rel:∀ {es es':List MapEntry},ER m es es' → ∀ (s:Nat) (e:MapEntry),entryAt es s = some e → ∃ e',es'.find? (fun x=>x.born == s) = some e' ∧ e.key = e'.key ∧ VR m e.val e'.val
 | _,_,.nil,s,e,h=>by cases h
 | _,_,.cons (e:=e0) (e':=e0') hk hb hv ht,s,e,h=>by
  simp only [entryAt] at h
  cases hbb:Nat.beq e0.born s with
  | true =>
   rw [hbb,cond_true] at h
   cases h
   refine ⟨e0',?_,hk,hv⟩
   rw [List.find?_cons_of_pos]
   rw [← hb,Nat.eq_of_beq_eq_true hbb]
   simp
  | false =>
   rw [hbb,cond_false] at h
   obtain ⟨e',g1,g2,g3⟩:=entryAt_rel ht s e h
   refine ⟨e',?_,g2,g3⟩
   rw [List.find?_cons_of_neg,g1]
   rw [← hb]
   have:=Nat.ne_of_beq_eq_false hbb
   simpa using this

theorem mY {B since last:Nat} {mm:Option Nat} {seen:Array Nat} (g:w.heap[B]? = some (.mapIter mm since seen last)):(getObj B).run P w = .ok (.mapIter mm since seen last) w:=by
 simp [getObj,Sem.run,g]
theorem rH {R:Nat} {es':Array MapEntry} {clock:Nat} (g:w.heap[R]? = some (.map es' clock)):(getObj R).run P w = .ok (.map es' clock) w:=by
 simp [getObj,Sem.run,g]

theorem rEntry_rel (hW:WR P m w0 h w) {x x' v:Value} (hx:VR m x x') (e:rEntry h x = some v):∃ v',(Instr.entry x').run P w = .ok v' w ∧ VR m v v':=by
 unfold rEntry at e
 split at e
 ·rename_i b
  split at e
  ·rename_i r since s seen last hb
   split at e
   ·rename_i es clock hes
    cases hc:Nat.beq clock last with
    | false=>rw [hc] at e; cases e
    | true =>
     rw [hc,cond_true] at e
     have hcl:=Nat.eq_of_beq_eq_true hc
     split at e
     ·rename_i en hen
      cases hpk:plainB en.key with
      | false=>rw [hpk] at e; cases e
      | true =>
      rw [hpk,cond_true] at e
      cases e
      cases hx with
      | @ptr _ B d _ hm =>
       obtain ⟨B',d',h1,h2,_⟩:=hW.obj b _ hb
       rw [hm] at h1
       cases h1
       obtain ⟨rfl,mm',hg,R,d2,hr,rfl⟩:=h2
       obtain ⟨es',g1,g2⟩:=hW.entries hes hr
       obtain ⟨en',k1,k2,k3⟩:=entryAt_rel g2 s en hen
       have hback:(s :: seen).reverse.toArray.back? = some s:=by simp
       refine ⟨.tuple #[en'.key,en'.val],?_,.tuple (.cons ?_ (.cons k3 .nil))⟩
       ·have hfind:es'.find? (fun x=>x.born == s) = some en':=by rw [← Array.find?_toList]; exact k1
        simp only [Instr.entry,Nat.add_zero,Sem.run_bind,mY hg,Result.andThen_ok,hback,rH g1]
        rw [hcl]
        simp only [bne_self_eq_false,Bool.false_eq_true,if_false,hfind]
        rfl
       ·rw [← k2]; exact eH m _ hpk
     ·cases e
   ·cases e
  ·cases e
 ·cases e

theorem rAssert_rel {ty xt:TypeId} {ok:Bool} {x x' v:Value} (hx:VR m x x') (e:rAssert P ty ok x = some v):∃ v',(Instr.typeAssert x' xt ty ok).run P w = .ok v' w ∧ VR m v v':=by
 unfold rAssert at e
 split at e
 ·rename_i t u
  cases hx with
  | @iface _ _ u' hv =>
   split at e
   ·cases e
   ·rename_i d hnd hd
    cases hb:Nat.beq t ty with
    | false=>rw [hb] at e; cases e
    | true =>
     rw [hb,cond_true] at e
     obtain rfl:=Nat.eq_of_beq_eq_true hb
     cases e
     have hrun:(Instr.typeAssert (.iface t u') xt t ok).run P w = .ok (if ok then .tuple #[u',.bool true] else u') w:=by
      simp only [Instr.typeAssert,Sem.run_bind,bU hd,Result.andThen_ok]
      cases d with
      | interface ms=>exact absurd rfl (hnd _)
      | _=>simp
     refine ⟨_,hrun,?_⟩
     cases ok with
     | true=>exact .tuple (.cons hv (.cons (.bool true) .nil))
     | false=>exact hv
   ·cases e
 ·cases e

theorem aread_rel (hW:WR P m w0 h w) (hT:TR m t n a.tmps) {o:Oper} {v:Value} (e:dE P t h o = some v) :
  ∃ v',(execOp a.eval o).run P w = .ok (.value v') w ∧ VR m v v':=by
 have hx:=fun x=>eP (P:=P) hT hW.glob x
 have hgr:=fun e=>gV hT hW.glob o (v:=v) e w
 unfold dE at e
 split at e
 ·rename_i x ho; cases e; exact ⟨_,by simp [execOp,ho],hx x⟩
 ·rename_i x ho; cases e; exact ⟨_,by simp [execOp,ho],hx x⟩
 ·rename_i c p q ho
  obtain ⟨v',g1,g2⟩:=rPick_rel (P:=P) (w:=w) (hx p) (hx q) (hx c) e
  exact ⟨v',by simp only [execOp,ho]; exact g1,g2⟩
 ·rename_i ty x ho
  obtain ⟨v',g1,g2⟩:=rLoad_rel hW (hx x) e
  exact ⟨v',by simp only [execOp,ho]; exact eX g1,g2⟩
 ·rename_i x ho
  exact rNilCheck_rel (hx x) e o a.eval x ho rfl
 ·rename_i s x f ho
  obtain ⟨v',g1,g2⟩:=rFieldAddr_rel (w:=w) (hx x) e
  exact ⟨v',by simp only [execOp,ho]; exact eX g1,g2⟩
 ·rename_i s x f ho
  obtain ⟨v',g1,g2⟩:=rField_rel (w:=w) (hx x) e
  exact ⟨v',by simp only [execOp,ho]; exact eX g1,g2⟩
 ·rename_i ty x ix ho
  obtain ⟨v',g1,g2⟩:=rIndexAddr_rel (w:=w) (hx x) (hx ix) e
  exact ⟨v',by simp only [execOp,ho]; exact eX g1,g2⟩
 ·rename_i ty x ix ho
  exact rIndex_rel hT hW.glob ho e
 ·rename_i ty x lo hi ho
  exact rSlice_rel hW hT ho e
 ·rename_i ty x ix ok ho
  exact rLookup_rel hW hT ho e
 ·rename_i x i ho
  obtain ⟨v',g1,g2⟩:=rExtract_rel (P:=P) (w:=w) (hx x) e
  exact ⟨v',by simp only [execOp,ho]; exact eX g1,g2⟩
 ·rename_i ty x ho
  obtain ⟨v',g1,g2⟩:=rIface_rel (P:=P) (w:=w) (hx x) e
  exact ⟨v',by simp only [execOp,ho]; exact eX g1,g2⟩
 ·rename_i fn first captured ho
  cases hf:isFuncFn fn with
  | false=>rw [hf] at e; cases e
  | true =>
   rw [hf,cond_true] at e
   cases e
   cases fn with
   | func f =>
    refine ⟨.func (.func f) (first.map a.eval) (captured.map a.eval),by simp [execOp,ho,Instr.makeFunc],.func f ?_ ?_⟩
    ·simpa using wL (P:=P) hT hW.glob first.toList
    ·simpa using wL (P:=P) hT hW.glob captured.toList
   | _=>cases hf
 ·rename_i ty parts ho
  obtain ⟨v',g1,g2⟩:=rBuild_rel (P:=P) (w:=w) (parts_rel hT hW.glob parts.toList) e
  refine ⟨v',?_,g2⟩
  simp only [execOp,ho]
  refine eX ?_
  have hp:(parts.map fun p=>(p.1,a.eval p.2)) = (parts.toList.map fun p=>(p.1,a.eval p.2)).toArray:=by
   apply Array.toList_inj.1
   simp
  rw [← g1,← hp]
 ·rename_i op ty x y yt ho
  exact rBin_rel hT hW.glob ho e
 ·rename_i op ty x ho
  exact rUn_rel hT hW.glob ho e
 ·rename_i src dst x ho
  exact rConv_rel hW hT ho e
 ·rename_i c ho
  unfold rCall at e
  split at e
  ·rename_i hc
   split at e
   ·rename_i x ty tys ha ht
    exact rLen_rel hW hT ho hc ha ht e
   ·cases e
  ·exact hgr e
  ·exact hgr e
  ·exact hgr e
  ·cases e
 ·rename_i it ho
  obtain ⟨v',g1,g2⟩:=rEntry_rel hW (hx it) e
  exact ⟨v',by simp only [execOp,ho]; exact eX g1,g2⟩
 ·rename_i x xt ty ok ho
  obtain ⟨v',g1,g2⟩:=rAssert_rel (xt:=xt) (w:=w) (hx x) e
  exact ⟨v',by simp only [execOp,ho]; exact eX g1,g2⟩
 ·cases e

end
end Go.Ev

/- The heap turns: new blocks, cells written, objects set. -/
namespace Go.Ev
open Go.RowKit

section
variable {P:Program} {m:M} {w0:Base} {w:World} {h:AHeap}

def M.put (m:M) (b:Nat) (x:Nat × Nat):M:=⟨fun c=>if c = b then some x else m c,m.sp⟩

theorem M.put_self (m:M) (b:Nat) (x:Nat × Nat):(m.put b x) b = some x:=by
 unfold M.put
 simp only [if_pos]

theorem M.le_put {m:M} {b:Nat} (hb:m b = none) (x:Nat × Nat):M.le m (m.put b x):=by
 refine ⟨?_,fun _ _ h=>h⟩
 intro c y hc
 unfold M.put
 by_cases e:c = b
 ·subst e; rw [hb] at hc; cases hc
 ·simp only [if_neg e]; exact hc

theorem heap_alloc_new (w:World) (x:Obj):(w.alloc x).heap[w.heap.size]? = some x:=by
 show (w.heap.push x)[w.heap.size]? = some x
 simp

/-- A new block, of whatever kind. -/
theorem WR.new (hW:WR P m w0 h w) (o:AObj) (x:Obj) (fams':T (List Nat)) (hro:isRo o = false)
  (hor:OR (m.put h.nx (w.heap.size,0)) (w.alloc x) w.heap.size 0 o)
  (hff:∀ f,f < h.nx → fams'.get f = h.fams.get f) (hfo:∀ c f,o = .cells c f false → f = h.nx ∧ ∃ l,fams'.get h.nx = some l ∧ h.nx ∈ l)
  (hfn:∀ f,fams'.get f = some [] → h.fams.get f = some []) :
  WR P (m.put h.nx (w.heap.size,0)) w0 ⟨T.set (h.nx + 1) h.bl h.nx o,h.nx + 1,fams'⟩ (w.alloc x):=by
 have hnx:=hW.fresh h.nx (Nat.le_refl _)
 have hle:=M.le_put hnx.1 (w.heap.size,0)
 have hget:∀ b,(T.set (h.nx + 1) h.bl h.nx o).get b = if b = h.nx then some o else h.bl.get b:=fun b=>T.get_set _ _ _ _ _ (Nat.lt_succ_self _)
 have hold:∀ b o',h.bl.get b = some o' → b ≠ h.nx:=fun b o' e hb=>by subst hb; rw [hnx.2] at e; cases e
 have hm:∀ b,b ≠ h.nx → (m.put h.nx (w.heap.size,0)) b = m b:=fun b e=>by unfold M.put; simp only [if_neg e]
 have hm1:(m.put h.nx (w.heap.size,0)) h.nx = some (w.heap.size,0):=by unfold M.put; simp only [if_pos]
 refine ⟨?_,?_,fun b hb=>hW.spn b (by have hb':h.nx + 1 ≤ b:=hb; omega),?_,?_,?_,?_,?_,?_,?_,?_,?_,?_⟩
 ·intro b o' e
  simp only [hget] at e
  by_cases hb:b = h.nx
  ·subst hb
   rw [if_pos rfl] at e
   cases e
   exact ⟨_,_,hm1,hor,fun _=>by have:=hW.below.size; omega,fun hr=>by rw [hro] at hr; cases hr⟩
  ·rw [if_neg hb] at e
   obtain ⟨B,d,h1,h2,h3⟩:=hW.obj b o' e
   refine ⟨B,d,by rw [hm b hb]; exact h1,OR.mono hle (OR.frame ?_ h2),h3⟩
   exact Below.heap_alloc _ _ _ (hW.dom _ _ _ h1)
 ·intro b hb
  have hb':h.nx + 1 ≤ b:=hb
  have:=hW.fresh b (by omega)
  refine ⟨by rw [hm b (by omega)]; exact this.1,?_⟩
  show (T.set (h.nx + 1) h.bl h.nx o).get b = none
  rw [hget,if_neg (by omega)]
  exact this.2
 ·intro b c f ro e
  simp only [hget] at e
  by_cases hb:b = h.nx
  ·subst hb
   rw [if_pos rfl] at e
   cases e
   cases ro with
   | true=>cases hro
   | false=>rw [(hfo c f rfl).1]; exact hW.spn _ (Nat.le_refl _)
  ·rw [if_neg hb] at e
   exact hW.spf _ _ _ _ e
 ·intro b B d z E e es
  have hb:b ≠ h.nx:=fun hb=>by
   subst hb
   have:=hW.spn h.nx (Nat.le_refl _)
   have es':m.sp h.nx = some (z,E):=es
   rw [this] at es'
   cases es'
  rw [hm b hb] at e
  obtain ⟨k1,k2⟩:=hW.spr b B d z E e es
  have hBs:=hW.dom _ _ _ e
  have hblk:(w.alloc x).heap[B]? = w.heap[B]?:=Below.heap_alloc _ _ _ hBs
  refine ⟨fun j j1 j2=>?_,?_⟩
  ·have:=k1 j j1 j2
   rw [World.cell?_of_block (w:=w) (a:=⟨B,j,none⟩) hblk,World.frozen?_of_block (w:=w) (a:=⟨B,j,none⟩) hblk]
   exact this
  ·show ∀ v,fams'.get b = some v → v = [z]
   rw [hff b]
   ·exact k2
   ·rcases Nat.lt_or_ge b h.nx with hlt|hge
    ·exact hlt
    ·have:=(hW.fresh b hge).1
     rw [this] at e
     cases e
 ·intro b B d e
  have hs:(w.alloc x).heap.size = w.heap.size + 1:=by show (w.heap.push x).size = _; simp
  rw [hs]
  by_cases hb:b = h.nx
  ·subst hb; rw [hm1] at e; cases e; omega
  ·rw [hm b hb] at e
   have:=hW.dom _ _ _ e
   omega
 ·intro b₁ b₂ o₁ o₂ B d₁ d₂ e1 e2 f1 f2 hne
  simp only [hget] at e1 e2
  by_cases h1:b₁ = h.nx
  ·subst h1
   rw [hm1] at f1
   cases f1
   have h2:b₂ ≠ h.nx:=fun e=>hne e.symm
   rw [hm b₂ h2] at f2
   have:=hW.dom _ _ _ f2
   omega
  ·by_cases h2:b₂ = h.nx
   ·subst h2
    rw [hm1] at f2
    cases f2
    rw [hm b₁ h1] at f1
    have:=hW.dom _ _ _ f1
    omega
   ·rw [if_neg h1] at e1
    rw [if_neg h2] at e2
    rw [hm _ h1] at f1
    rw [hm _ h2] at f2
    exact hW.apart _ _ _ _ _ _ _ e1 e2 f1 f2 hne
 ·intro b c f e hc
  simp only [hget] at e
  by_cases hb:b = h.nx
  ·subst hb
   rw [if_pos rfl] at e
   cases e
   obtain ⟨rfl,l,h1,h2⟩:=hfo c f rfl
   exact ⟨l,h1,h2⟩
  ·rw [if_neg hb] at e
   obtain ⟨l,h1,h2⟩:=hW.kin b c f e hc
   exact ⟨l,by rw [hff f (hW.fam _ _ _ _ e)]; exact h1,h2⟩
 ·intro b c f ro e
  simp only [hget] at e
  by_cases hb:b = h.nx
  ·subst hb
   rw [if_pos rfl] at e
   cases e
   cases ro with
   | true=>cases hro
   | false=>have:=(hfo c f rfl).1; show f < h.nx + 1; omega
  ·rw [if_neg hb] at e
   have:=hW.fam _ _ _ _ e
   show f < h.nx + 1
   omega
 ·exact hW.below.alloc hW.below.size x
 ·intro g hg
  have:=hW.glob g hg
  have hne:g ≠ h.nx:=fun e=>by subst e; rw [hnx.1] at this; cases this
  rw [hm g hne]
  exact this
 ·intro r er
  obtain ⟨r1,r2,r3,r4,r5⟩:=hW.res r (hfn r er)
  refine ⟨Nat.lt_succ_of_lt r1,by rw [hm r (by omega)]; exact r2,by simp only [hget]; rw [if_neg (by omega)]; exact r3,r4,fun b c f ro e=>?_⟩
  simp only [hget] at e
  by_cases hb:b = h.nx
  ·rw [if_pos hb] at e
   cases e
   cases ro with
   | true=>cases hro
   | false=>have:=(hfo c f rfl).1; omega
  ·rw [if_neg hb] at e
   exact r5 b c f ro e
 ·intro B y e
  obtain ⟨k1,k2,k3⟩:=hW.park B y e
  have hB:B < w.heap.size:=(Array.getElem?_eq_some_iff.1 k2).1
  refine ⟨k1,(Below.heap_alloc _ _ _ hB).trans k2,fun b o' d e1 e2=>?_⟩
  simp only [hget] at e1
  by_cases hb:b = h.nx
  ·subst hb
   rw [hm1] at e2
   cases e2
   omega
  ·rw [if_neg hb] at e1
   rw [hm b hb] at e2
   exact k3 b o' d e1 e2

theorem oJ (hW:WR P m w0 h w) {o:AObj} {K:Nat → AHeap → Bool} (e:newO h o K = true) (x:Obj) (hro:isRo o = false) (hfam:famOf o = none)
  (hor:∀ m':M,M.le m m' → OR m' (w.alloc x) w.heap.size 0 o) :
  ∃ m' h',M.le m m' ∧ m' h.nx = some (w.heap.size,0) ∧ WR P m' w0 h' (w.alloc x) ∧ K h.nx h' = true:=by
 unfold newO at e
 simp only [T.setK_eq,bP] at e
 have hle:=M.le_put (hW.fresh h.nx (Nat.le_refl _)).1 (w.heap.size,0)
 refine ⟨_,_,hle,by unfold M.put; simp only [if_pos],hW.new o x h.fams hro (hor _ hle) (fun _ _=>rfl) (fun c f ho=>?_) (fun _ k=>k),e⟩
 subst ho
 cases hfam

theorem wM (hW:WR P m w0 h w) {c:List Value} {K:Nat → AHeap → Bool} (e:newC h c K = true) (c':Array Value) (el:TypeId) (hc:LR m c c'.toList) (h1:∀ u ∈ c'.toList,oneB u = true) :
  ∃ m' h',M.le m m' ∧ m' h.nx = some (w.heap.size,0) ∧ WR P m' w0 h' (w.alloc (.cells c' el)) ∧ K h.nx h' = true:=by
 unfold newC at e
 simp only [fL_eq,T.setK_eq,bP] at e
 have hle:=M.le_put (hW.fresh h.nx (Nat.le_refl _)).1 (w.heap.size,0)
 refine ⟨_,_,hle,by unfold M.put; simp only [if_pos],hW.new (.cells c h.nx false) (.cells c' el) _ rfl ?_ (fun f hf=>?_) (fun c0 f ho=>?_) (fun f hf=>?_),e⟩
 ·intro i v hv
  obtain ⟨v',g1,g2⟩:=hc.get i v hv
  have hb:=heap_alloc_new w (.cells c' el)
  refine ⟨v',?_,g2.mono hle,h1 v' (List.mem_of_getElem? g1),fun _=>?_⟩
  ·simp only [World.cell?,hb,Nat.zero_add]
   simpa using g1
  ·simp only [World.frozen?,hb]
   simp
 ·rw [T.get_set _ _ _ _ _ (Nat.lt_succ_self _),if_neg (by omega)]
 ·cases ho
  refine ⟨rfl,[h.nx],?_,by simp⟩
  rw [T.get_set _ _ _ _ _ (Nat.lt_succ_self _),if_pos rfl]
 ·rw [T.get_set _ _ _ _ _ (Nat.lt_succ_self _)] at hf
  split at hf
  ·cases hf
  ·exact hf

def AHeap.addAt (h:AHeap) (c:List Value) (r:Nat):AHeap:=⟨T.set (r + 1) h.bl r (.cells c r false),h.nx,T.set (r + 1) h.fams r [r]⟩

/-- A new block of cells, under a number set aside for it. -/
theorem WR.newAt (hW:WR P m w0 h w) {r:Nat} (hr:h.fams.get r = some []) {c:List Value} (c':Array Value) (el:TypeId) (hc:LR m c c'.toList) (h1:∀ u ∈ c'.toList,oneB u = true) :
  WR P (m.put r (w.heap.size,0)) w0 (h.addAt c r) (w.alloc (.cells c' el)):=by
 obtain ⟨q1,q2,q3,q4,q5⟩:=hW.res r hr
 have hle:=M.le_put q2 (w.heap.size,0)
 have hget:∀ b,(h.addAt c r).bl.get b = if b = r then some (.cells c r false) else h.bl.get b:=fun b=>T.get_set _ _ _ _ _ (Nat.lt_succ_self _)
 have hgf:∀ b,(h.addAt c r).fams.get b = if b = r then some [r] else h.fams.get b:=fun b=>T.get_set _ _ _ _ _ (Nat.lt_succ_self _)
 have hm:∀ b,b ≠ r → (m.put r (w.heap.size,0)) b = m b:=fun b e=>by unfold M.put; simp only [if_neg e]
 have hm1:(m.put r (w.heap.size,0)) r = some (w.heap.size,0):=by unfold M.put; simp only [if_pos]
 have hnx:(h.addAt c r).nx = h.nx:=rfl
 refine ⟨?_,?_,fun b hb=>hW.spn b hb,?_,?_,?_,?_,?_,?_,?_,?_,?_,?_⟩
 ·intro b o' e
  rw [hget] at e
  by_cases hb:b = r
  ·subst hb
   rw [if_pos rfl] at e
   cases e
   refine ⟨_,_,hm1,?_,fun _=>by have:=hW.below.size; omega,fun hr=>by cases hr⟩
   intro i v hv
   obtain ⟨v',g1,g2⟩:=hc.get i v hv
   have hb:=heap_alloc_new w (.cells c' el)
   refine ⟨v',?_,g2.mono hle,h1 v' (List.mem_of_getElem? g1),fun _=>?_⟩
   ·simp only [World.cell?,hb,Nat.zero_add]
    simpa using g1
   ·simp only [World.frozen?,hb]
    simp
  ·rw [if_neg hb] at e
   obtain ⟨B,d,h1,h2,h3⟩:=hW.obj b o' e
   refine ⟨B,d,by rw [hm b hb]; exact h1,OR.mono hle (OR.frame ?_ h2),h3⟩
   exact Below.heap_alloc _ _ _ (hW.dom _ _ _ h1)
 ·intro b hb
  rw [hnx] at hb
  have:=hW.fresh b hb
  refine ⟨by rw [hm b (by omega)]; exact this.1,?_⟩
  rw [hget,if_neg (by omega)]
  exact this.2
 ·intro b c f ro e
  rw [hget] at e
  by_cases hb:b = r
  ·rw [if_pos hb] at e
   cases e
   exact q4
  ·rw [if_neg hb] at e
   exact hW.spf _ _ _ _ e
 ·intro b B d z E e es
  have es':m.sp b = some (z,E):=es
  have hb:b ≠ r:=fun hb=>by
   subst hb
   rw [q4] at es'
   cases es'
  rw [hm b hb] at e
  obtain ⟨k1,k2⟩:=hW.spr b B d z E e es'
  have hBs:=hW.dom _ _ _ e
  have hblk:(w.alloc (.cells c' el)).heap[B]? = w.heap[B]?:=Below.heap_alloc _ _ _ hBs
  refine ⟨fun j j1 j2=>?_,?_⟩
  ·have:=k1 j j1 j2
   rw [World.cell?_of_block (w:=w) (a:=⟨B,j,none⟩) hblk,World.frozen?_of_block (w:=w) (a:=⟨B,j,none⟩) hblk]
   exact this
  ·intro v hv
   rw [hgf,if_neg hb] at hv
   exact k2 v hv
 ·intro b B d e
  have hs:(w.alloc (.cells c' el)).heap.size = w.heap.size + 1:=by show (w.heap.push _).size = _; simp
  rw [hs]
  by_cases hb:b = r
  ·subst hb; rw [hm1] at e; cases e; omega
  ·rw [hm b hb] at e
   have:=hW.dom _ _ _ e
   omega
 ·intro b₁ b₂ o₁ o₂ B d₁ d₂ e1 e2 f1 f2 hne
  rw [hget] at e1 e2
  by_cases h1:b₁ = r
  ·subst h1
   rw [hm1] at f1
   cases f1
   have h2:b₂ ≠ b₁:=fun e=>hne e.symm
   rw [hm b₂ h2] at f2
   have:=hW.dom _ _ _ f2
   omega
  ·by_cases h2:b₂ = r
   ·subst h2
    rw [hm1] at f2
    cases f2
    rw [hm b₁ h1] at f1
    have:=hW.dom _ _ _ f1
    omega
   ·rw [if_neg h1] at e1
    rw [if_neg h2] at e2
    rw [hm _ h1] at f1
    rw [hm _ h2] at f2
    exact hW.apart _ _ _ _ _ _ _ e1 e2 f1 f2 hne
 ·intro b c f e hc
  rw [hget] at e
  by_cases hb:b = r
  ·rw [if_pos hb] at e
   cases e
   exact ⟨[r],by rw [hgf,if_pos rfl],by rw [hb]; simp⟩
  ·rw [if_neg hb] at e
   obtain ⟨l,h1,h2⟩:=hW.kin b c f e hc
   exact ⟨l,by rw [hgf,if_neg (q5 _ _ _ _ e)]; exact h1,h2⟩
 ·intro b c f ro e
  rw [hget] at e
  rw [hnx]
  by_cases hb:b = r
  ·rw [if_pos hb] at e
   cases e
   exact q1
  ·rw [if_neg hb] at e
   exact hW.fam _ _ _ _ e
 ·exact hW.below.alloc hW.below.size _
 ·intro g hg
  have:=hW.glob g hg
  have hne:g ≠ r:=fun e=>by subst e; rw [q2] at this; cases this
  rw [hm g hne]
  exact this
 ·intro s er
  rw [hgf] at er
  by_cases hs:s = r
  ·rw [if_pos hs] at er; cases er
  ·rw [if_neg hs] at er
   obtain ⟨r1,r2,r3,r4,r5⟩:=hW.res s er
   refine ⟨r1,by rw [hm s hs]; exact r2,by rw [hget,if_neg hs]; exact r3,r4,fun b c f ro e=>?_⟩
   rw [hget] at e
   by_cases hb:b = r
   ·rw [if_pos hb] at e
    cases e
    exact fun e=>hs e.symm
   ·rw [if_neg hb] at e
    exact r5 b c f ro e
 ·intro B y e
  obtain ⟨k1,k2,k3⟩:=hW.park B y e
  have hB:B < w.heap.size:=(Array.getElem?_eq_some_iff.1 k2).1
  refine ⟨k1,(Below.heap_alloc _ _ _ hB).trans k2,fun b o' d e1 e2=>?_⟩
  rw [hget] at e1
  by_cases hb:b = r
  ·subst hb
   rw [hm1] at e2
   cases e2
   omega
  ·rw [if_neg hb] at e1
   rw [hm b hb] at e2
   exact k3 b o' d e1 e2

/-- A number is set aside. -/
theorem WR.reserve (hW:WR P m w0 h w):WR P m w0 ⟨h.bl,h.nx + 1,T.set (h.nx + 1) h.fams h.nx []⟩ w:=by
 have hgf:∀ b,(T.set (h.nx + 1) h.fams h.nx []).get b = if b = h.nx then some [] else h.fams.get b:=fun b=>T.get_set _ _ _ _ _ (Nat.lt_succ_self _)
 have hn:=hW.fresh h.nx (Nat.le_refl _)
 refine ⟨hW.obj,fun b hb=>hW.fresh b (by have hb':h.nx + 1 ≤ b:=hb; omega),fun b hb=>hW.spn b (by have hb':h.nx + 1 ≤ b:=hb; omega),hW.spf,?_,hW.dom,hW.apart,?_,?_,hW.below,hW.glob,?_,hW.park⟩
 ·intro b B d z E e es
  obtain ⟨k1,k2⟩:=hW.spr b B d z E e es
  refine ⟨k1,fun v hv=>?_⟩
  have hb:b ≠ h.nx:=fun hb=>by rw [hb,hn.1] at e; cases e
  simp only [hgf] at hv
  rw [if_neg hb] at hv
  exact k2 v hv
 ·intro b c f e hc
  obtain ⟨l,h1,h2⟩:=hW.kin b c f e hc
  have:f < h.nx:=hW.fam _ _ _ _ e
  exact ⟨l,by simp only [hgf]; rw [if_neg (by omega)]; exact h1,h2⟩
 ·intro b c f ro e
  have:f < h.nx:=hW.fam _ _ _ _ e
  show f < h.nx + 1
  omega
 ·intro s er
  simp only [hgf] at er
  by_cases hs:s = h.nx
  ·subst hs
   refine ⟨Nat.lt_succ_self _,hn.1,hn.2,hW.spn _ (Nat.le_refl _),fun b c f ro e=>?_⟩
   have:f < h.nx:=hW.fam _ _ _ _ e
   omega
  ·rw [if_neg hs] at er
   obtain ⟨r1,r2,r3,r4,r5⟩:=hW.res s er
   exact ⟨Nat.lt_succ_of_lt r1,r2,r3,r4,r5⟩

theorem resGo_rel:∀ (l:List Nat) {h:AHeap} {ids:List (Nat × Nat)} {K:List (Nat × Nat) → AHeap → Bool},WR P m w0 h w → resGo l h ids K = true → ∃ ids' h',WR P m w0 h' w ∧ K ids' h' = true
 | [],h,ids,K,hW,e=>⟨ids,h,hW,e⟩
 | i :: l,h,ids,K,hW,e=>by
  simp only [resGo,bP,T.setK_eq] at e
  exact resGo_rel l hW.reserve e

/-! ## Cells are written -/
theorem l7 (b:Nat):∀ (vs:List Value) (o:Nat) (w:World) (k:Nat),k ≠ b → (w.setCells b o vs).heap[k]? = w.heap[k]?
 | [],_,_,_,_=>rfl
 | v :: r,o,w,k,hk=>by
  rw [World.setCells,l7 b r (o + 1) _ k hk,Below.heap_setCell _ _ _ _ hk]

theorem size_setCells (b:Nat):∀ (vs:List Value) (o:Nat) (w:World),(w.setCells b o vs).heap.size = w.heap.size
 | [],_,_=>rfl
 | v :: r,o,w=>by
  rw [World.setCells,size_setCells b r (o + 1)]
  simp [World.setCell]

theorem below_setCells {B0:Nat} {a:World} (b:Nat) (hb:B0 ≤ b):∀ (vs:List Value) (o:Nat) (w:World),Below B0 a w → Below B0 a (w.setCells b o vs)
 | [],_,_,k=>k
 | v :: r,o,w,k=>by
  rw [World.setCells]
  exact below_setCells b hb r (o + 1) _ (k.setCell (p:=⟨b,o,none⟩) hb v)

def kill (l:List Nat) (b:Nat) (bl:T AObj):T AObj:=kQ l b bl id

theorem iF {β:Type} (b:Nat):∀ (l:List Nat) (bl:T AObj) (K:T AObj → β),kQ l b bl K = K (kill l b bl)
 | [],bl,K=>rfl
 | x :: l,bl,K=>by
  simp only [kill,kQ]
  cases hx:Nat.beq x b with
  | true=>simp only [cond_true]; rw [iF b l,iF b l bl id]; rfl
  | false =>
   simp only [cond_false]
   cases hg:bl.get x with
   | none=>simp only; rw [iF b l,iF b l bl id]; rfl
   | some o =>
    cases o with
    | cells c f ro=>simp only; rw [T.setK_eq,T.setK_eq]; rw [iF b l,iF b l _ id]; rfl
    | _=>simp only; rw [iF b l,iF b l bl id]; rfl

/-- A block as it may be read behind a kill. -/
def dead:AObj → AObj
 | .cells _ f ro=>.cells [] f ro
 | o=>o

theorem iW (b:Nat):∀ (l:List Nat) (bl:T AObj) (k:Nat),(kill l b bl).get k = if k ∈ l ∧ k ≠ b then (bl.get k).map dead else bl.get k
 | [],bl,k=>by simp [kill,kQ]
 | x :: l,bl,k=>by
  have step:∀ bl',(kill l b bl').get k = if k ∈ l ∧ k ≠ b then (bl'.get k).map dead else bl'.get k:=fun bl'=>iW b l bl' k
  by_cases hx:x = b
  ·subst hx
   have:kill (x :: l) x bl = kill l x bl:=by simp [kill,kQ]
   rw [this,step]
   by_cases hk:k = x
   ·subst hk; simp
   ·simp [hk]
  ·have hbeq:Nat.beq x b = false:=by
    cases e:Nat.beq x b with
    | false=>rfl
    | true=>exact absurd (Nat.eq_of_beq_eq_true e) hx
   have hdd:∀ o:Option AObj,(o.map dead).map dead = o.map dead:=by
    intro o
    cases o with
    | none=>rfl
    | some o=>cases o<;>rfl
   have hall:∀ bl',(∀ j,bl'.get j = if j = x then (bl.get j).map dead else bl.get j) → (kill l b bl').get k = if k ∈ x :: l ∧ k ≠ b then (bl.get k).map dead else bl.get k:=by
    intro bl' hbl
    rw [step,hbl]
    by_cases hk:k = x
    ·subst hk
     simp only [if_true,List.mem_cons,true_or,true_and,hdd]
     rw [if_pos hx]
     split<;>rfl
    ·simp [hk]
   cases hg:bl.get x with
   | none =>
    have e1:kill (x :: l) b bl = kill l b bl:=by simp [kill,kQ,hbeq,hg]
    rw [e1]
    refine hall bl fun j=>?_
    by_cases hj:j = x
    ·subst hj; simp [hg]
    ·simp [hj]
   | some o =>
    cases o with
    | cells c f ro =>
     have e1:kill (x :: l) b bl = kill l b (T.set (x + 1) bl x (.cells [] f ro)):=by
      simp only [kill,kQ,hbeq,hg,cond_false]
      rw [T.setK_eq]
     rw [e1]
     refine hall _ fun j=>?_
     rw [T.get_set _ _ _ _ _ (Nat.lt_succ_self _)]
     by_cases hj:j = x
     ·subst hj; simp [hg,dead]
     ·simp [hj]
    | map es c =>
     have e1:kill (x :: l) b bl = kill l b bl:=by simp [kill,kQ,hbeq,hg]
     rw [e1]
     refine hall bl fun j=>?_
     by_cases hj:j = x
     ·subst hj; simp [hg,dead]
     ·simp [hj]
    | loop _ _ _ _ _ _ _ _ =>
     have e1:kill (x :: l) b bl = kill l b bl:=by simp [kill,kQ,hbeq,hg]
     rw [e1]
     refine hall bl fun j=>?_
     by_cases hj:j = x
     ·subst hj; simp [hg,dead]
     ·simp [hj]
    | deferred _ =>
     have e1:kill (x :: l) b bl = kill l b bl:=by simp [kill,kQ,hbeq,hg]
     rw [e1]
     refine hall bl fun j=>?_
     by_cases hj:j = x
     ·subst hj; simp [hg,dead]
     ·simp [hj]
    | gone =>
     have e1:kill (x :: l) b bl = kill l b bl:=by simp [kill,kQ,hbeq,hg]
     rw [e1]
     refine hall bl fun j=>?_
     by_cases hj:j = x
     ·subst hj; simp [hg,dead]
     ·simp [hj]
    | iter _ _ _ _ =>
     have e1:kill (x :: l) b bl = kill l b bl:=by simp [kill,kQ,hbeq,hg]
     rw [e1]
     refine hall bl fun j=>?_
     by_cases hj:j = x
     ·subst hj; simp [hg,dead]
     ·simp [hj]
    | tab _ =>
     have e1:kill (x :: l) b bl = kill l b bl:=by simp [kill,kQ,hbeq,hg]
     rw [e1]
     refine hall bl fun j=>?_
     by_cases hj:j = x
     ·subst hj; simp [hg,dead]
     ·simp [hj]

theorem dead_fam (o:AObj):famOf (dead o) = famOf o:=by cases o<;>rfl
theorem uN (o:AObj):isRo (dead o) = isRo o:=by cases o<;>rfl
theorem dead_or {w:World} {B d:Nat} {o:AObj} (k:OR m w B d o):OR m w B d (dead o):=by
 cases o with
 | cells c f ro=>intro i v e; simp at e
 | _=>exact k

theorem splice_get:∀ (c:List Value) (off:Nat) (new:List Value),off + new.length ≤ c.length → ∀ i,(spliceL c off new)[i]? = if off ≤ i ∧ i < off + new.length then new[i - off]? else c[i]?
 | c,off,[],_,i=>by
  simp only [spliceL,List.length_nil,Nat.add_zero]
  rw [if_neg (by omega)]
 | [],off,v :: l,hl,i=>by simp at hl
 | x :: c,0,v :: l,hl,i=>by
  simp only [List.length_cons] at hl
  cases i with
  | zero=>simp [spliceL]
  | succ i =>
   have:=splice_get c 0 l (by omega) i
   simp only [spliceL,List.getElem?_cons_succ,this,List.length_cons]
   simp only [Nat.zero_le,true_and,Nat.zero_add,Nat.sub_zero,Nat.add_lt_add_iff_right]
   rfl
 | x :: c,off + 1,v :: l,hl,i=>by
  simp only [List.length_cons] at hl
  cases i with
  | zero=>simp [spliceL]
  | succ i =>
   have:=splice_get c off (v :: l) (by simp only [List.length_cons]; omega) i
   simp only [spliceL,List.getElem?_cons_succ,this,List.length_cons]
   have e:i + 1 - (off + 1) = i - off:=by omega
   rw [e]
   by_cases h1:off ≤ i ∧ i < off + (l.length + 1)
   ·rw [if_pos h1,if_pos (by omega)]
   ·rw [if_neg h1,if_neg (by omega)]

end
end Go.Ev

/- The heap turns, continued; single operations that write. -/
namespace Go.Ev
open Go.RowKit

section
variable {P:Program} {m:M} {w0:Base} {w:World} {h:AHeap} {t:T Value} {n:Nat} {a:Act}

/-- Cells of block b are written; what shares them is read no more. -/
theorem WR.store (hW:WR P m w0 h w) {b off fam B d:Nat} {c new new':List Value} (hg:h.bl.get b = some (.cells c fam false)) (hm:m b = some (B,d))
  (hn:LR m new new') (h1:∀ u ∈ new',oneB u = true) (hl:off + new.length ≤ c.length) (bl':T AObj) (fams':T (List Nat))
  (hb:bl'.get b = some (.cells (spliceL c off new) fam false))
  (ho:∀ k,k ≠ b → bl'.get k = h.bl.get k ∨ (bl'.get k = (h.bl.get k).map dead))
  (hsh:∀ k o B' d',k ≠ b → h.bl.get k = some o → m k = some (B',d') → B' = B → bl'.get k = (h.bl.get k).map dead)
  (hf:∀ f,f ≠ fam → fams'.get f = h.fams.get f) (hfb:∃ l,fams'.get fam = some l ∧ b ∈ l)
  (hfk:∀ k c' ,k ≠ b → bl'.get k = some (.cells c' fam false) → c' ≠ [] → ∃ l,fams'.get fam = some l ∧ k ∈ l) :
  WR P m w0 ⟨bl',h.nx,fams'⟩ (w.setCells B (off + d) new'):=by
 obtain ⟨B',d',g1,g2,g3,_⟩:=hW.obj b _ hg
 rw [hm] at g1
 cases g1
 have hB:=g3 rfl
 have hcell:∀ j,j < new'.length → (w.cell? ⟨B,off + d + j,none⟩).isSome = true:=by
  intro j hj
  have hj':off + j < c.length:=by rw [← hn.length] at hj; omega
  obtain ⟨v',k1,_⟩:=g2 (off + j) c[off + j] (List.getElem?_eq_getElem hj')
  rw [show off + d + j = d + (off + j) by omega,k1]
  rfl
 have hfr:∀ k o,bl'.get k = some o → ∃ o0,h.bl.get k = some o0 ∧ famOf o = famOf o0 ∧ isRo o = isRo o0:=by
  intro k o e
  by_cases hk:k = b
  ·subst hk
   rw [hb] at e
   cases e
   exact ⟨_,hg,rfl,rfl⟩
  ·rcases ho k hk with h2|h2
   ·exact ⟨o,by rw [← h2]; exact e,rfl,rfl⟩
   ·rw [h2] at e
    cases hg2:h.bl.get k with
    | none=>rw [hg2] at e; cases e
    | some o0=>rw [hg2] at e; cases e; exact ⟨o0,rfl,dead_fam _,uN _⟩
 refine ⟨?_,?_,hW.spn,?_,?_,?_,?_,?_,?_,?_,?_,?_,?_⟩
 ·intro k o e
  by_cases hk:k = b
  ·subst hk
   simp only [hb] at e
   cases e
   refine ⟨B,d,hm,?_,g3,fun hr=>by cases hr⟩
   intro i v hv
   rw [splice_get c off new hl] at hv
   by_cases hi:off ≤ i ∧ i < off + new.length
   ·rw [if_pos hi] at hv
    obtain ⟨v',k1,k2⟩:=hn.get _ _ hv
    have hj:i - off < new'.length:=(List.getElem?_eq_some_iff.1 k1).1
    refine ⟨v',?_,k2,h1 v' (List.mem_of_getElem? k1),fun _=>?_⟩
    ·have:=World.cell?_setCells_in B new' (off + d) w hcell (i - off) hj
     rw [show d + i = off + d + (i - off) by omega,this]
     rw [← k1,List.getElem?_eq_getElem hj]
    ·rw [World.frozen?_setCells]
     have hi':i < c.length:=by omega
     obtain ⟨_,_,_,_,k5⟩:=g2 i c[i] (List.getElem?_eq_getElem hi')
     exact k5 rfl
   ·rw [if_neg hi] at hv
    obtain ⟨v',k1,k2,k3,k4⟩:=g2 i v hv
    refine ⟨v',?_,k2,k3,fun hr=>?_⟩
    ·rw [World.cell?_setCells_out B new' (off + d) w ⟨B,d + i,none⟩ (fun _ _=>by
      have:=hn.length
      show d + i < off + d ∨ off + d + new'.length ≤ d + i
      omega)]
     exact k1
    ·rw [World.frozen?_setCells]
     exact k4 hr
  ·have e':bl'.get k = some o:=e
   have hbase:∃ o0,h.bl.get k = some o0 ∧ (o = o0 ∨ o = dead o0):=by
    rcases ho k hk with h2|h2
    ·exact ⟨o,by rw [← h2]; exact e',.inl rfl⟩
    ·rw [h2] at e'
     cases hg2:h.bl.get k with
     | none=>rw [hg2] at e'; cases e'
     | some o0=>rw [hg2] at e'; cases e'; exact ⟨o0,rfl,.inr rfl⟩
   obtain ⟨o0,q1,q2⟩:=hbase
   obtain ⟨B2,d2,k1,k2,k3,k4⟩:=hW.obj k o0 q1
   refine ⟨B2,d2,k1,?_,?_,?_⟩
   ·by_cases hBB:B2 = B
    ·have h3:=hsh k o0 B2 d2 hk q1 k1 hBB
     rw [q1] at h3
     have h4:some o = some (dead o0):=e'.symm.trans h3
     cases h4
     cases o0 with
     | cells c0 f0 r0=>intro i v e; simp at e
     | map es cl =>
      exfalso
      subst hBB
      rcases hW.apart _ _ _ _ _ _ _ q1 hg k1 hm hk with ⟨hr,_⟩|⟨f,hff,_⟩
      ·cases hr
      ·cases hff
     | loop _ _ _ _ _ _ _ _ =>
      exfalso
      subst hBB
      rcases hW.apart _ _ _ _ _ _ _ q1 hg k1 hm hk with ⟨hr,_⟩|⟨f,hff,_⟩
      ·cases hr
      ·cases hff
     | deferred _ =>
      exfalso
      subst hBB
      rcases hW.apart _ _ _ _ _ _ _ q1 hg k1 hm hk with ⟨hr,_⟩|⟨f,hff,_⟩
      ·cases hr
      ·cases hff
     | gone =>
      exfalso
      subst hBB
      rcases hW.apart _ _ _ _ _ _ _ q1 hg k1 hm hk with ⟨hr,_⟩|⟨f,hff,_⟩
      ·cases hr
      ·cases hff
     | iter _ _ _ _ =>
      exfalso
      subst hBB
      rcases hW.apart _ _ _ _ _ _ _ q1 hg k1 hm hk with ⟨hr,_⟩|⟨f,hff,_⟩
      ·cases hr
      ·cases hff
     | tab _ =>
      exfalso
      subst hBB
      have r1:=k4 rfl
      omega
    ·have h5:OR m (w.setCells B (off + d) new') B2 d2 o0:=OR.frame (l7 B new' (off + d) w B2 hBB) k2
     rcases q2 with rfl|rfl
     ·exact h5
     ·exact dead_or h5
   ·rcases q2 with rfl|rfl
    ·exact k3
    ·rw [uN]; exact k3
   ·rcases q2 with rfl|rfl
    ·exact k4
    ·rw [uN]; exact k4
 ·intro k hk
  refine ⟨(hW.fresh k hk).1,?_⟩
  have h2:=(hW.fresh k hk).2
  have hkb:k ≠ b:=fun e=>by subst e; rw [hg] at h2; cases h2
  show bl'.get k = none
  rcases ho k hkb with h3|h3<;>rw [h3,h2]<;>rfl
 ·intro k c' f ro e
  obtain ⟨o0,q1,q2,_⟩:=hfr k _ e
  cases o0 with
  | cells c0 f0 r0=>cases q2; exact hW.spf _ _ _ _ q1
  | _=>cases q2
 ·intro k B2 d2 z E e es
  obtain ⟨k1,k2⟩:=hW.spr k B2 d2 z E e es
  refine ⟨fun j j1 j2=>?_,?_⟩
  ·obtain ⟨k3,k4⟩:=k1 j j1 j2
   refine ⟨World.isSome_setCells B new' (off + d) w _ k3,?_⟩
   rw [World.frozen?_setCells]
   exact k4
  ·show ∀ v,fams'.get k = some v → v = [z]
   rw [hf k]
   ·exact k2
   ·intro hkf
    subst hkf
    have:=hW.spf _ _ _ _ hg
    rw [es] at this
    cases this
 ·intro k B2 d2 e
  rw [size_setCells]
  exact hW.dom _ _ _ e
 ·intro b₁ b₂ o₁ o₂ B2 d₁ d₂ e1 e2 f1 f2 hne
  obtain ⟨p1,q1,r1,s1⟩:=hfr b₁ o₁ e1
  obtain ⟨p2,q2,r2,s2⟩:=hfr b₂ o₂ e2
  rw [r1,r2,s1,s2]
  exact hW.apart _ _ _ _ _ _ _ q1 q2 f1 f2 hne
 ·intro k c' f e hc
  have e':bl'.get k = some (.cells c' f false):=e
  by_cases hff:f = fam
  ·subst hff
   by_cases hk:k = b
   ·subst hk; exact hfb
   ·exact hfk k c' hk e' hc
  ·have hk:k ≠ b:=fun hk=>by subst hk; rw [hb] at e'; cases e'; exact hff rfl
   have h3:h.bl.get k = some (.cells c' f false):=by
    rcases ho k hk with h2|h2
    ·rw [← h2]; exact e'
    ·rw [h2] at e'
     cases hg2:h.bl.get k with
     | none=>rw [hg2] at e'; cases e'
     | some o0 =>
      rw [hg2] at e'
      cases o0 with
      | cells c0 f0 r0=>simp only [Option.map_some,dead,Option.some.injEq,AObj.cells.injEq] at e'; exact absurd e'.1.symm hc
      | _=>cases e'
   obtain ⟨l,g4,g5⟩:=hW.kin k c' f h3 hc
   exact ⟨l,by rw [hf f hff]; exact g4,g5⟩
 ·intro k c' f ro e
  have e':bl'.get k = some (.cells c' f ro):=e
  by_cases hk:k = b
  ·subst hk
   rw [hb] at e'
   cases e'
   exact hW.fam _ _ _ _ hg
  ·rcases ho k hk with h2|h2
   ·rw [h2] at e'; exact hW.fam _ _ _ _ e'
   ·rw [h2] at e'
    cases hg2:h.bl.get k with
    | none=>rw [hg2] at e'; cases e'
    | some o0 =>
     rw [hg2] at e'
     cases o0 with
     | cells c0 f0 r0=>cases e'; exact hW.fam _ _ _ _ hg2
     | _=>cases e'
 ·exact below_setCells B hB new' (off + d) w hW.below
 ·exact hW.glob
 ·intro r er
  have er':fams'.get r = some []:=er
  have hrf:r ≠ fam:=fun e=>by
   subst e
   obtain ⟨l,k1,k2⟩:=hfb
   rw [er'] at k1
   cases k1
   cases k2
  rw [hf r hrf] at er'
  obtain ⟨r1,r2,r3,r4,r5⟩:=hW.res r er'
  refine ⟨r1,r2,?_,r4,fun k c' f ro e=>?_⟩
  ·have hkb:r ≠ b:=fun e=>by subst e; rw [hg] at r3; cases r3
   show bl'.get r = none
   rcases ho r hkb with h3|h3<;>rw [h3,r3]<;>rfl
  ·obtain ⟨o0,q1,q2,_⟩:=hfr k _ e
   cases o0 with
   | cells c0 f0 r0=>cases q2; exact r5 _ _ _ _ q1
   | _=>cases q2
 ·intro B' y e
  obtain ⟨k1,k2,k3⟩:=hW.park B' y e
  have hne:B' ≠ B:=fun e=>by subst e; exact k3 b _ d hg hm
  refine ⟨k1,(l7 B new' (off + d) w B' hne).trans k2,fun k o d' e1 e2=>?_⟩
  obtain ⟨o0,q1,_,_⟩:=hfr k o e1
  exact k3 k o0 d' q1 e2

theorem qQ (hW:WR P m w0 h w) {b off B d:Nat} {new new':List Value} {K:AHeap → Bool} (e:gY h b off new K = true) (hm:m b = some (B,d))
  (hn:LR m new new') (h1:∀ u ∈ new',oneB u = true) :
  ∃ h',WR P m w0 h' (w.setCells B (off + d) new') ∧ K h' = true ∧ w.there B (off + d) new'.length:=by
 unfold gY at e
 split at e
 ·cases hn
  exact ⟨h,hW,e,fun j hj=>by simp at hj⟩
 ·rename_i v l
  generalize hnew:v :: l = new at *
  split at e
  ·rename_i c fam hg
   unfold jC at e
   cases hb:Nat.ble (Nat.add off new.length) c.length with
   | false=>rw [hb] at e; cases e
   | true =>
    rw [hb,cond_true,dJ] at e
    have hl:off + new.length ≤ c.length:=Nat.le_of_ble_eq_true hb
    obtain ⟨B',d',g1,g2,g3,_⟩:=hW.obj b _ hg
    rw [hm] at g1
    cases g1
    have hcne:c ≠ []:=by intro hc; subst hc; rw [← hnew] at hl; simp at hl
    have hthere:w.there B (off + d) new'.length:=by
     intro j hj
     have hj':off + j < c.length:=by rw [← hn.length] at hj; omega
     obtain ⟨v',k1,_,_,k4⟩:=g2 (off + j) c[off + j] (List.getElem?_eq_getElem hj')
     rw [show off + d + j = d + (off + j) by omega,k1]
     exact ⟨rfl,k4 rfl⟩
    obtain ⟨kl,hk1,hk2⟩:=hW.kin b c fam hg hcne
    have shares:∀ k o B' d',k ≠ b → h.bl.get k = some o → m k = some (B',d') → B' = B → (∃ c0,o = .cells c0 fam false):=by
     intro k o B' d' hk hgk hmk hBB
     subst hBB
     rcases hW.apart _ _ _ _ _ _ _ hgk hg hmk hm hk with ⟨_,hr⟩|⟨f,hf1,hf2⟩
     ·cases hr
     ·cases hf2
      cases o with
      | cells c0 f0 r0 =>
       cases hf1
       cases r0 with
       | false=>exact ⟨c0,rfl⟩
       | true =>
        obtain ⟨B2,d2,k1,_,_,k4⟩:=hW.obj k _ hgk
        rw [hmk] at k1
        cases k1
        have:=k4 rfl
        have:=g3 rfl
        omega
      | _=>cases hf1
    split at e
    ·rename_i x hfx
     rw [T.setK_eq] at e
     rw [hk1] at hfx
     cases hfx
     have hxb:b = x:=by simpa using hk2
     subst hxb
     have hgetb:∀ k,(T.set (b + 1) h.bl b (.cells (spliceL c off new) fam false)).get k = if k = b then some (.cells (spliceL c off new) fam false) else h.bl.get k:=
      fun k=>T.get_set _ _ _ _ _ (Nat.lt_succ_self _)
     refine ⟨_,hW.store hg hm hn h1 hl _ h.fams (by rw [hgetb,if_pos rfl]) (fun k hk=>.inl (by rw [hgetb,if_neg hk])) (fun k o B' d' hk hgk hmk hBB=>?_) (fun _ _=>rfl) ⟨_,hk1,by simp⟩ (fun k c' hk hgk hc'=>?_),e,hthere⟩
     ·obtain ⟨c0,rfl⟩:=shares k o B' d' hk hgk hmk hBB
      rw [hgetb,if_neg hk,hgk]
      by_cases hc0:c0 = []
      ·subst hc0; rfl
      ·obtain ⟨l2,p1,p2⟩:=hW.kin k c0 fam hgk hc0
       rw [hk1] at p1
       cases p1
       simp at p2
       exact absurd p2 hk
     ·rw [hgetb,if_neg hk] at hgk
      exact hW.kin k c' fam hgk hc'
    ·rename_i l2 hnot hfx
     rw [iF,T.setK_eq,T.setK_eq] at e
     rw [hk1] at hfx
     cases hfx
     have hgetb:∀ k,(T.set (b + 1) (kill kl b h.bl) b (.cells (spliceL c off new) fam false)).get k = if k = b then some (.cells (spliceL c off new) fam false) else (kill kl b h.bl).get k:=
      fun k=>T.get_set _ _ _ _ _ (Nat.lt_succ_self _)
     have hgetf:∀ f,(T.set (fam + 1) h.fams fam [b]).get f = if f = fam then some [b] else h.fams.get f:=fun f=>T.get_set _ _ _ _ _ (Nat.lt_succ_self _)
     have hkill:∀ k o B' d',k ≠ b → h.bl.get k = some o → m k = some (B',d') → B' = B → (kill kl b h.bl).get k = (h.bl.get k).map dead:=by
      intro k o B' d' hk hgk hmk hBB
      obtain ⟨c0,rfl⟩:=shares k o B' d' hk hgk hmk hBB
      rw [iW]
      by_cases hc0:c0 = []
      ·subst hc0
       rw [hgk]
       split<;>rfl
      ·obtain ⟨l3,p1,p2⟩:=hW.kin k c0 fam hgk hc0
       rw [hk1] at p1
       cases p1
       rw [if_pos ⟨p2,hk⟩]
     refine ⟨_,hW.store hg hm hn h1 hl _ _ (by rw [hgetb,if_pos rfl]) (fun k hk=>?_) (fun k o B' d' hk hgk hmk hBB=>?_) (fun f hf=>by rw [hgetf,if_neg hf]) ⟨[b],by rw [hgetf,if_pos rfl],by simp⟩ (fun k c' hk hgk hc'=>?_),e,hthere⟩
     ·rw [hgetb,if_neg hk,iW]
      split
      ·exact .inr rfl
      ·exact .inl rfl
     ·rw [hgetb,if_neg hk]
      exact hkill k o B' d' hk hgk hmk hBB
     ·exfalso
      rw [hgetb,if_neg hk,iW] at hgk
      split at hgk
      ·cases hg2:h.bl.get k with
       | none=>rw [hg2] at hgk; cases hgk
       | some o0 =>
        rw [hg2] at hgk
        cases o0 with
        | cells c0 f0 r0=>simp only [Option.map_some,dead,Option.some.injEq,AObj.cells.injEq] at hgk; exact hc' hgk.1.symm
        | _=>cases hgk
      ·rename_i hnk
       obtain ⟨l3,p1,p2⟩:=hW.kin k c' fam hgk hc'
       rw [hk1] at p1
       cases p1
       exact hnk ⟨p2,hk⟩
    ·cases e
  ·cases e

/-! ## Objects that are no cells -/
theorem OR.nocell {R d:Nat} {o:AObj} (k:OR m w R d o) (ho:noCells o = true) (j:Nat):w.cell? ⟨R,j,none⟩ = none:=by
 cases o with
 | cells _ _ _=>cases ho
 | map es c=>obtain ⟨es',g,_⟩:=k; simp [World.cell?,g]
 | loop _ _ _ _ _ _ _ _=>obtain ⟨L,g,_⟩:=k; simp [World.cell?,g]
 | deferred l=>simp only [OR] at k; simp [World.cell?,k]
 | gone=>obtain ⟨L,g⟩:=k; simp [World.cell?,g]
 | tab _=>cases ho
 | iter _ _ _ _=>obtain ⟨_,mm,g,_⟩:=k; simp [World.cell?,g]

theorem pX (hW:WR P m w0 h w) {r R d:Nat} {o o':AObj} {K:AHeap → Bool} (e:setO h r o' K = true) (hg:h.bl.get r = some o) (hm:m r = some (R,d))
  (ho:noCells o = true) (ho':famOf o' = none) (hr':isRo o' = false) (x:Obj) (hor:OR m { w with heap:=w.heap.setIfInBounds R x } R d o') :
  ∃ h',WR P m w0 h' { w with heap:=w.heap.setIfInBounds R x } ∧ K h' = true:=by
 unfold setO at e
 rw [T.setK_eq] at e
 have hget:∀ k,(T.set (r + 1) h.bl r o').get k = if k = r then some o' else h.bl.get k:=fun k=>T.get_set _ _ _ _ _ (Nat.lt_succ_self _)
 have hro:isRo o = false:=by cases o<;>first|rfl|cases ho
 have hfo:famOf o = none:=by cases o<;>first|rfl|cases ho
 obtain ⟨B',d',g1,g2,g3,_⟩:=hW.obj r _ hg
 rw [hm] at g1
 cases g1
 have hB:=g3 hro
 have hother:∀ k o2 B2 d2,k ≠ r → h.bl.get k = some o2 → m k = some (B2,d2) → B2 ≠ R:=by
  intro k o2 B2 d2 hk hgk hmk hBB
  subst hBB
  rcases hW.apart _ _ _ _ _ _ _ hgk hg hmk hm hk with ⟨_,hr⟩|⟨f,_,hf2⟩
  ·rw [hro] at hr; cases hr
  ·rw [hfo] at hf2; cases hf2
 refine ⟨⟨T.set (r + 1) h.bl r o',h.nx,h.fams⟩,⟨?_,?_,hW.spn,?_,?_,?_,?_,?_,?_,?_,?_,?_,?_⟩,e⟩
 ·intro k o2 e2
  simp only [hget] at e2
  by_cases hk:k = r
  ·subst hk
   rw [if_pos rfl] at e2
   cases e2
   exact ⟨R,d,hm,hor,fun _=>hB,fun hr=>by rw [hr'] at hr; cases hr⟩
  ·rw [if_neg hk] at e2
   obtain ⟨B2,d2,k1,k2,k3⟩:=hW.obj k o2 e2
   refine ⟨B2,d2,k1,OR.frame ?_ k2,k3⟩
   simp only
   rw [Array.getElem?_setIfInBounds_ne (Ne.symm (hother k o2 B2 d2 hk e2 k1))]
 ·intro k hk
  refine ⟨(hW.fresh k hk).1,?_⟩
  have h2:=(hW.fresh k hk).2
  show (T.set (r + 1) h.bl r o').get k = none
  rw [hget,if_neg (fun e=>by subst e; rw [hg] at h2; cases h2)]
  exact h2
 ·intro k c f ro e2
  simp only [hget] at e2
  by_cases hk:k = r
  ·subst hk
   rw [if_pos rfl] at e2
   cases e2
   cases ho'
  ·rw [if_neg hk] at e2
   exact hW.spf _ _ _ _ e2
 ·intro k B2 d2 z E e2 es
  obtain ⟨k1,k2⟩:=hW.spr k B2 d2 z E e2 es
  refine ⟨fun j j1 j2=>?_,k2⟩
  obtain ⟨k3,k4⟩:=k1 j j1 j2
  by_cases hBR:B2 = R
  ·subst hBR
   rw [OR.nocell g2 ho j] at k3
   cases k3
  ·have hblk:(w.heap.setIfInBounds R x)[B2]? = w.heap[B2]?:=Array.getElem?_setIfInBounds_ne (fun e=>hBR e.symm)
   rw [World.cell?_of_block (w:=w) (a:=⟨B2,j,none⟩) hblk,World.frozen?_of_block (w:=w) (a:=⟨B2,j,none⟩) hblk]
   exact ⟨k3,k4⟩
 ·intro k B2 d2 e2
  have:=hW.dom _ _ _ e2
  simpa using this
 ·intro b₁ b₂ o₁ o₂ B2 d₁ d₂ e1 e2 f1 f2 hne
  simp only [hget] at e1 e2
  by_cases h1:b₁ = r
  ·subst h1
   rw [hm] at f1
   cases f1
   rw [if_neg (fun e=>hne e.symm)] at e2
   exact absurd rfl (hother b₂ o₂ _ _ (fun e=>hne e.symm) e2 f2)
  ·rw [if_neg h1] at e1
   by_cases h2:b₂ = r
   ·subst h2
    rw [hm] at f2
    cases f2
    exact absurd rfl (hother b₁ o₁ _ _ h1 e1 f1)
   ·rw [if_neg h2] at e2
    exact hW.apart _ _ _ _ _ _ _ e1 e2 f1 f2 hne
 ·intro k c f e2 hc
  simp only [hget] at e2
  by_cases hk:k = r
  ·subst hk
   rw [if_pos rfl] at e2
   cases e2
   cases ho'
  ·rw [if_neg hk] at e2
   exact hW.kin k c f e2 hc
 ·intro k c f ro e2
  simp only [hget] at e2
  by_cases hk:k = r
  ·subst hk
   rw [if_pos rfl] at e2
   cases e2
   cases ho'
  ·rw [if_neg hk] at e2
   exact hW.fam k c f ro e2
 ·exact hW.below.trans ⟨rfl,rfl,rfl,by simp,fun k hk=>by
   simp only
   rw [Array.getElem?_setIfInBounds_ne (by omega)]⟩
 ·exact hW.glob
 ·intro r0 er
  obtain ⟨r1,r2,r3,r4,r5⟩:=hW.res r0 er
  have hne:r0 ≠ r:=fun e=>by subst e; rw [hg] at r3; cases r3
  refine ⟨r1,r2,?_,r4,fun k c f ro e2=>?_⟩
  ·show (T.set (r + 1) h.bl r o').get r0 = none
   rw [hget,if_neg hne]
   exact r3
  ·simp only [hget] at e2
   by_cases hk:k = r
   ·subst hk
    rw [if_pos rfl] at e2
    cases e2
    cases ho'
   ·rw [if_neg hk] at e2
    exact r5 k c f ro e2
 ·intro B' y e3
  obtain ⟨k1,k2,k3⟩:=hW.park B' y e3
  have hne:R ≠ B':=fun e=>by subst e; exact k3 r _ d hg hm
  refine ⟨k1,(Array.getElem?_setIfInBounds_ne hne).trans k2,fun k o2 d' e1 e2=>?_⟩
  simp only [hget] at e1
  by_cases hk:k = r
  ·subst hk
   rw [hm] at e2
   cases e2
   exact hne rfl
  ·rw [if_neg hk] at e1
   exact k3 k o2 d' e1 e2

end
end Go.Ev
