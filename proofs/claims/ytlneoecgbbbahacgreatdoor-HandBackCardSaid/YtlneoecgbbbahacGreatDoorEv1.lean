/- An evaluator of closed calls, by continuation: the state, the tree, the single operations. -/
import Derived.RangeFuncIn
import Derived.KernelRfl
namespace Go.Ev

/-! ## A tree keyed by numbers -/
inductive T (α : Type) where
  | leaf
  | node (l : T α) (v : Option α) (r : T α)

def T.get {α : Type} : T α → Nat → Option α
  | .leaf, _ => none
  | .node l v r, k =>
    match k with
    | 0 => v
    | Nat.succ k => bif Nat.beq (Nat.mod k 2) 0 then l.get (Nat.div k 2) else r.get (Nat.div k 2)

def T.setK {α β : Type} : Nat → T α → Nat → α → (T α → β) → β
  | 0, t, _, _, K => K t
  | Nat.succ f, t, k, v, K =>
    match k with
    | 0 =>
      match t with
      | .leaf => K (.node .leaf (some v) .leaf)
      | .node l _ r => K (.node l (some v) r)
    | Nat.succ k =>
      match t with
      | .leaf =>
        bif Nat.beq (Nat.mod k 2) 0 then T.setK f .leaf (Nat.div k 2) v fun l => K (.node l none .leaf)
        else T.setK f .leaf (Nat.div k 2) v fun r => K (.node .leaf none r)
      | .node l x r =>
        bif Nat.beq (Nat.mod k 2) 0 then T.setK f l (Nat.div k 2) v fun l => K (.node l x r)
        else T.setK f r (Nat.div k 2) v fun r => K (.node l x r)

/-! ## The abstract heap -/
inductive AObj where
  | cells (c : List Value) (fam : Nat) (ro : Bool)
  | map (es : List MapEntry) (clock : Nat)
  | loop (state : LoopState) (pending : Option Code) (t : T Value) (n : Nat) (params : Array Tmp) (assign body : Code) (defers : Nat)
  | deferred (live : Bool)
  | gone
  | tab (c : List Value)

structure AHeap where
  bl : T AObj
  nx : Nat
  fams : T (List Nat)

/-! ## Forcing: terms that the kernel has reckoned -/
def fNat {β : Type} (n : Nat) (K : Nat → β) : β :=
  match n with
  | 0 => K 0
  | Nat.succ n => K (Nat.succ n)

def fInt {β : Type} (i : Int) (K : Int → β) : β :=
  match i with
  | .ofNat n => fNat n fun n => K (.ofNat n)
  | .negSucc n => fNat n fun n => K (.negSucc n)

def fBool {β : Type} (b : Bool) (K : Bool → β) : β :=
  match b with
  | true => K true
  | false => K false

def fBytes {β : Type} : List UInt8 → (List UInt8 → β) → β
  | [], K => K []
  | b :: l, K => fBytes l fun l => K (b :: l)

def fAddr {β : Type} (a : Addr) (K : Addr → β) : β :=
  match a with
  | ⟨b, o, none⟩ => fNat b fun b => fNat o fun o => K ⟨b, o, none⟩
  | ⟨b, o, some s⟩ => K ⟨b, o, some s⟩

mutual
def fV {β : Type} : Value → (Value → β) → β
  | .int k n, K => fInt n fun n => K (.int k n)
  | .bool b, K => fBool b fun b => K (.bool b)
  | .pointer (some a), K => fAddr a fun a => K (.pointer (some a))
  | .slice (some a) n c, K => fAddr a fun a => fNat n fun n => fNat c fun c => K (.slice (some a) n c)
  | .string ⟨⟨l⟩⟩, K => fBytes l fun l => K (.string ⟨⟨l⟩⟩)
  | .agg cs, K => fA cs fun cs => K (.agg cs)
  | .tuple cs, K => fA cs fun cs => K (.tuple cs)
  | .func f a b, K => fA a fun a => fA b fun b => K (.func f a b)
  | .iface t v, K => fV v fun v => K (.iface t v)
  | v, K => K v
def fA {β : Type} : Array Value → (Array Value → β) → β
  | ⟨l⟩, K => fL l fun l => K ⟨l⟩
def fL {β : Type} : List Value → (List Value → β) → β
  | [], K => K []
  | v :: l, K => fV v fun v => fL l fun l => K (v :: l)
end

/-- Has a list more elements than these? -/
def longL {α : Type} : Nat → List α → Bool
  | _, [] => false
  | 0, _ :: _ => true
  | Nat.succ n, _ :: l => longL n l

/-- Forcing: the commonest makes of values first; great arrays are left as they are. -/
def fV1 {β : Type} (v : Value) (K : Value → β) : β :=
  match v with
  | .int k n => fInt n fun n => K (.int k n)
  | .bool b => fBool b fun b => K (.bool b)
  | .pointer (some a) => fAddr a fun a => K (.pointer (some a))
  | .agg ⟨l⟩ => bif longL 64 l then K (.agg ⟨l⟩) else fL l fun l => K (.agg ⟨l⟩)
  | v => fV v K

/-! ## Values without addresses; equal values -/
/-- Is each of these values one that a cell holds? -/
def oneB : Value → Bool
  | .agg _ | .tuple _ => false
  | _ => true
def oneL : List Value → Bool
  | [] => true
  | v :: l => oneB v && oneL l
def oneA : Array Value → Bool
  | ⟨l⟩ => oneL l

mutual
def plainB : Value → Bool
  | .bool _ | .int _ _ | .float _ _ | .string _ | .pointer none | .map none | .chan none | .nilFunc | .nilIface => true
  | .slice none 0 0 => true
  | .iface _ v => plainB v
  | .agg cs => plainA cs && oneA cs
  | .tuple cs => plainA cs
  | .func (.func _) a b => plainA a && plainA b
  | _ => false
def plainA : Array Value → Bool
  | ⟨l⟩ => plainL l
def plainL : List Value → Bool
  | [] => true
  | v :: l => plainB v && plainL l
end

def beqI : Int → Int → Bool
  | .ofNat a, .ofNat b => Nat.beq a b
  | .negSucc a, .negSucc b => Nat.beq a b
  | _, _ => false

def beqBytes : List UInt8 → List UInt8 → Bool
  | [], [] => true
  | a :: l, b :: r => Nat.beq a.toNat b.toNat && beqBytes l r
  | _, _ => false

def beqKind : IntKind → IntKind → Bool
  | .i8, .i8 | .i16, .i16 | .i32, .i32 | .i64, .i64 | .u8, .u8 | .u16, .u16 | .u32, .u32 | .u64, .u64 => true
  | _, _ => false

def beqB : Bool → Bool → Bool
  | true, true | false, false => true
  | _, _ => false

mutual
def veq : Value → Value → Bool
  | .bool a, .bool b => beqB a b
  | .int k a, .int j b => beqKind k j && beqI a b
  | .string ⟨⟨a⟩⟩, .string ⟨⟨b⟩⟩ => beqBytes a b
  | .pointer none, .pointer none => true
  | .pointer (some ⟨b, o, none⟩), .pointer (some ⟨b', o', none⟩) => Nat.beq b b' && Nat.beq o o'
  | .slice none 0 0, .slice none 0 0 => true
  | .slice none 0 1, .slice none 0 1 => true
  | .slice (some ⟨b, o, none⟩) n c, .slice (some ⟨b', o', none⟩) n' c' => Nat.beq b b' && Nat.beq o o' && Nat.beq n n' && Nat.beq c c'
  | .map none, .map none => true
  | .map (some r), .map (some r') => Nat.beq r r'
  | .nilFunc, .nilFunc => true
  | .nilIface, .nilIface => true
  | .func (.func f) a b, .func (.func g) c d => Nat.beq f g && veqA a c && veqA b d
  | .func (.yield f) a b, .func (.yield g) c d => Nat.beq f g && veqA a c && veqA b d
  | .agg a, .agg b => veqA a b
  | .tuple a, .tuple b => veqA a b
  | .iface t a, .iface u b => Nat.beq t u && veq a b
  | _, _ => false
def veqA : Array Value → Array Value → Bool
  | ⟨a⟩, ⟨b⟩ => veqL a b
def veqL : List Value → List Value → Bool
  | [], [] => true
  | a :: l, b :: r => veq a b && veqL l r
  | _, _ => false
end

/-! ## Computations that do not look at the world -/
def pureOf {α : Type} (P : Program) : Sem α → Option α
  | .pure a => some a
  | .program k => pureOf P (k P)
  | .mark _ k => pureOf P k
  | _ => none

/-- A value that stands for whatever value: no operation takes it. -/
def bad : Value := .complex .f32 0 0

def tget (t : T Value) (i : Nat) : Value := match t.get i with | some v => v | none => undef

def ev (P : Program) (t : T Value) : Operand → Value
  | .tmp i => tget t i
  | .const v => bif plainB v then v else bad
  | .global g => bif Nat.blt g P.globals.size then .pointer (some ⟨g, 0, none⟩) else bad
  | .func f => .func (.func f) #[] #[]

def evL (P : Program) (t : T Value) : List Operand → List Value
  | [] => []
  | x :: l => ev P t x :: evL P t l

def isAggB : TypeDesc → Bool
  | .struct _ | .array _ _ => true
  | _ => false

/-- The part of type `ty` at `off` of a row of cells. -/
def partL (P : Program) (ty : TypeId) (c : List Value) (off : Nat) : Option Value :=
  match P.underlying ty, P.info? ty with
  | some d, some i =>
    bif isAggB d then
      bif Nat.ble (Nat.add off i.size) c.length then some (.agg ⟨(c.drop off).take i.size⟩) else none
    else c[off]?
  | _, _ => none

def okV : Value → Bool
  | .complex _ _ _ | .tuple _ => false
  | _ => true

def okP : List (Nat × Value) → Bool
  | [] => true
  | p :: l => okV p.2 && okP l

def natOf : Int → Option Nat
  | .ofNat n => some n
  | _ => none

/-- The upper, the lower bound of a slice expression. -/
def hiOf (len cap : Nat) : Option Value → Option Nat
  | none => some len
  | some (.int _ (.ofNat n)) => bif Nat.ble n cap then some n else none
  | _ => none

def loOf (hh : Nat) : Option Value → Option Nat
  | none => some 0
  | some (.int _ (.ofNat n)) => bif Nat.ble n hh then some n else none
  | _ => none

/-- The bounds of a slice expression that has no third index. -/
def bounds (len cap : Nat) (lo hi : Option Value) : Option (Nat × Nat) :=
  match hiOf len cap hi with
  | none => none
  | some h => (match loOf h lo with | none => none | some l => some (l, h))

def findKeyL (P : Program) (kt : TypeId) (k : Value) (es : List MapEntry) : Option (Option (Nat × Value)) := pureOf P (Instr.findKey kt k es)

/-- Comparing with nil. -/
def nilEq : TypeDesc → Value → Value → Option Bool
  | .slice _, .slice none 0 0, .slice none 0 0 => some true
  | .slice _, .slice none 0 0, .slice (some _) _ _ => some false
  | .slice _, .slice (some _) _ _, .slice none 0 0 => some false
  | .pointer _, .pointer none, .pointer b => some b.isNone
  | .pointer _, .pointer (some _), .pointer none => some false
  | .map _ _, .map none, .map b => some b.isNone
  | .map _ _, .map (some _), .map none => some false
  | .func _ _ _, .nilFunc, .func _ _ _ => some false
  | .func _ _ _, .func _ _ _, .nilFunc => some false
  | _, _, _ => none

def nilEqT (P : Program) (ty : TypeId) (x y : Value) : Option Bool :=
  match P.underlying ty with
  | some d => nilEq d x y
  | none => none

/-- By the model's own operation, where all operands bear no address. -/
def ground (P : Program) (t : T Value) (o : Oper) : Option Value :=
  bif plainL (evL P t o.op.operands.toList) then
    match pureOf P (execOp (ev P t) o) with
    | some (.value v) => bif plainB v then some v else none
    | _ => none
  else none

/-- Integers, as they are compared and wrapped by the kernel's own numbers. -/
def leI : Int → Int → Bool
  | .ofNat a, .ofNat b => Nat.ble a b
  | .negSucc _, .ofNat _ => true
  | .ofNat _, .negSucc _ => false
  | .negSucc a, .negSucc b => Nat.ble b a

def wrapF (k : IntKind) (n : Int) : Int :=
  match k with
  | .i64 =>
    match n with
    | .ofNat m => bif Nat.blt m 9223372036854775808 then .ofNat m else IntKind.i64.wrap (.ofNat m)
    | .negSucc m => bif Nat.blt m 9223372036854775808 then .negSucc m else IntKind.i64.wrap (.negSucc m)
  | k => k.wrap n

def fastBin (op : BinOp) (k : IntKind) (a b : Int) : Option Value :=
  match op with
  | .add => some (.int k (wrapF k (Int.add a b)))
  | .sub => some (.int k (wrapF k (Int.sub a b)))
  | .mul => some (.int k (wrapF k (Int.mul a b)))
  | .eql => some (.bool (beqI a b))
  | .neq => some (.bool (!(beqI a b)))
  | .lss => some (.bool (!(leI b a)))
  | .leq => some (.bool (leI a b))
  | .gtr => some (.bool (!(leI a b)))
  | .geq => some (.bool (leI b a))
  | _ => none

def isFuncFn : Fn → Bool
  | .func _ => true
  | _ => false

def rPick (a b : Value) : Value → Option Value
  | .bool true => some a
  | .bool false => some b
  | _ => none

def cellsOf : Option AObj → Option (List Value)
  | some (.cells c _ _) => some c
  | _ => none

def rLoad (P : Program) (h : AHeap) (ty : TypeId) : Value → Option Value
  | .pointer (some ⟨b, off, none⟩) =>
    match cellsOf (h.bl.get b) with
    | some c => partL P ty c off
    | none => none
  | _ => none

def rNilCheck : Value → Option Value
  | .pointer (some a) => some (.pointer (some a))
  | .func (.func f) a b => some (.func (.func f) a b)
  | .func (.yield f) a b => some (.func (.yield f) a b)
  | _ => none

def fieldOf (P : Program) (s : TypeId) (f : Nat) : Option (Nat × TypeId) :=
  match P.underlying s with
  | some (.struct fields) => (match fields[f]? with | some fd => some (fd.offset, fd.type) | none => none)
  | _ => none

def sizeB (P : Program) (ty : TypeId) : Option Nat :=
  match P.info? ty with
  | some i => some i.size
  | none => none

def rFieldAddr (P : Program) (s : TypeId) (f : Nat) : Value → Option Value
  | .pointer (some ⟨b, off, none⟩) =>
    match fieldOf P s f with
    | some (fo, ft) =>
      match sizeB P ft with
      | some (Nat.succ _) => some (.pointer (some ⟨b, Nat.add off fo, none⟩))
      | _ => none
    | none => none
  | _ => none

def rField (P : Program) (s : TypeId) (f : Nat) : Value → Option Value
  | .agg cs =>
    match fieldOf P s f with
    | some (fo, ft) => partL P ft cs.toList fo
    | none => none
  | _ => none

def arrOf (P : Program) (ty : TypeId) : Option (Nat × TypeId) :=
  match P.underlying ty with
  | some (.array len e) => some (len, e)
  | _ => none

def slOf (P : Program) (ty : TypeId) : Option TypeId :=
  match P.underlying ty with
  | some (.slice e) => some e
  | _ => none

def rAt (P : Program) (e : TypeId) (b off i len : Nat) : Option Value :=
  bif Nat.blt i len then
    match sizeB P e with
    | some sz => some (.pointer (some ⟨b, Nat.add off (Nat.mul i sz), none⟩))
    | none => none
  else none

def rIndexAddr (P : Program) (ty : TypeId) (x : Value) : Value → Option Value
  | .int _ (.ofNat i) =>
    match x with
    | .pointer (some ⟨b, off, none⟩) =>
      match arrOf P ty with
      | some (len, e) => rAt P e b off i len
      | none => none
    | .slice (some ⟨b, off, none⟩) len _ =>
      match slOf P ty with
      | some e => rAt P e b off i len
      | none => none
    | _ => none
  | _ => none

def isStrTy (P : Program) (ty : TypeId) : Bool :=
  match P.underlying ty with
  | some .string => true
  | _ => false

def rIndexAgg (P : Program) (ty : TypeId) (cs : Array Value) : Value → Option Value
  | .int _ (.ofNat i) =>
    match arrOf P ty with
    | some (len, e) =>
      bif Nat.blt i len then
        match sizeB P e with
        | some sz => partL P e cs.toList (Nat.mul i sz)
        | none => none
      else none
    | none => none
  | _ => none

def rIndexStr (P : Program) (ty : TypeId) (l : List UInt8) : Value → Option Value
  | .int _ (.ofNat i) =>
    bif isStrTy P ty then (match l[i]? with | some b => some (.int .u8 (.ofNat b.toNat)) | none => none) else none
  | _ => none

def rIndex (P : Program) (t : T Value) (o : Oper) (ty : TypeId) (ix : Value) : Value → Option Value
  | .agg cs => rIndexAgg P ty cs ix
  | .string ⟨⟨l⟩⟩ => rIndexStr P ty l ix
  | _ => ground P t o

/-- A slice without capacity, of whatever array. -/
def emptyS : Value := .slice none 0 1

/-- May a slice of elements of sz cells over block b be cut from its middle, or grow? A block that an append made knows the size of its elements. -/
def zOk (h : AHeap) (b sz : Nat) : Bool :=
  match h.bl.get b with
  | some (.cells _ fam _) =>
    bif Nat.beq fam b then true
    else (match h.fams.get b with | some [z] => Nat.beq z sz | _ => false)
  | _ => false

def rSlice1 (ok : Bool) (b off cap sz : Nat) : Option (Nat × Nat) → Option Value
  | some (l, h') =>
    bif Nat.blt l cap && (Nat.beq l 0 || ok) then some (.slice (some ⟨b, Nat.add off (Nat.mul l sz), none⟩) (Nat.sub h' l) (Nat.sub cap l))
    else bif Nat.beq cap l && Nat.beq h' l then some emptyS else none
  | none => none

def rSlice0 (v : Value) : Option (Nat × Nat) → Option Value
  | some _ => some v
  | none => none

def rSliceN (P : Program) (ty : TypeId) (lo hi : Option Value) (v : Value) : Option Value :=
  match slOf P ty with
  | some e => (match sizeB P e with | some _ => rSlice0 v (bounds 0 0 lo hi) | none => none)
  | none => none

def rSliceS (P : Program) (h : AHeap) (ty : TypeId) (lo hi : Option Value) (b off len cap : Nat) : Option Value :=
  match slOf P ty with
  | some e => (match sizeB P e with | some sz => rSlice1 (zOk h b sz) b off cap sz (bounds len cap lo hi) | none => none)
  | none => none

def rSliceA (P : Program) (ty : TypeId) (lo hi : Option Value) (b off : Nat) : Option Value :=
  match arrOf P ty with
  | some (n, e) => (match sizeB P e with | some sz => rSlice1 true b off n sz (bounds n n lo hi) | none => none)
  | none => none

def rSlice (P : Program) (t : T Value) (h : AHeap) (o : Oper) (ty : TypeId) (lo hi : Option Operand) : Value → Option Value
  | .slice none 0 0 => rSliceN P ty (lo.map (ev P t)) (hi.map (ev P t)) (.slice none 0 0)
  | .slice none 0 1 => rSliceN P ty (lo.map (ev P t)) (hi.map (ev P t)) emptyS
  | .slice (some ⟨b, off, none⟩) len cap => rSliceS P h ty (lo.map (ev P t)) (hi.map (ev P t)) b off len cap
  | .pointer (some ⟨b, off, none⟩) => rSliceA P ty (lo.map (ev P t)) (hi.map (ev P t)) b off
  | .string _ => ground P t o
  | _ => none

def zeroOf (P : Program) (ty : TypeId) : Option Value :=
  match P.info? ty with
  | some i => match i.zero with | some z => bif plainB z && okV z then some z else none | none => none
  | none => none

def mapOf (P : Program) (ty : TypeId) : Option (TypeId × TypeId) :=
  match P.underlying ty with
  | some (.map k e) => some (k, e)
  | _ => none

def entriesOf : Option AObj → Option (List MapEntry × Nat)
  | some (.map es clock) => some (es, clock)
  | _ => none

/-- Where a key without addresses stands among the entries: `some none` where it does not. -/
def findK (P : Program) (empty : Bool) (kt : TypeId) (k : Value) (es : List MapEntry) : Option (Option (Nat × Value)) :=
  bif plainB k then
    match pureOf P (Instr.checkKey empty 10000 kt k) with
    | some _ => findKeyL P kt k es
    | none => none
  else none

def rLookup1 (ok : Bool) (z : Option Value) : Option (Option (Nat × Value)) → Option Value
  | some (some (_, v)) => (match z with | some _ => some (bif ok then .tuple #[v, .bool true] else v) | none => none)
  | some none => (match z with | some z => some (bif ok then .tuple #[z, .bool false] else z) | none => none)
  | none => none

def rLookup (P : Program) (t : T Value) (h : AHeap) (o : Oper) (ty : TypeId) (ix : Value) (ok : Bool) : Value → Option Value
  | .map (some r) =>
    match mapOf P ty, entriesOf (h.bl.get r) with
    | some (kt, et), some (es, _) => rLookup1 ok (zeroOf P et) (findK P es.isEmpty kt ix es)
    | _, _ => none
  | _ => ground P t o

def rExtract (i : Nat) : Value → Option Value
  | .tuple vs => vs[i]?
  | _ => none

def rIface (P : Program) (ty : TypeId) (v : Value) : Option Value :=
  match P.underlying ty with
  | some (.interface _) => none
  | some _ => some (.iface ty v)
  | none => none

/-- Where the fields of a struct lie, and of how many cells they are. -/
def placesL (P : Program) : List Field → Option (List (Nat × Nat))
  | [] => some []
  | f :: l =>
    match sizeB P f.type, placesL P l with
    | some sz, some ps => some ((f.offset, sz) :: ps)
    | _, _ => none

def fillA (place : Nat → Option (Nat × Nat)) (z : Value) (parts : List (Nat × Value)) : Option Value :=
  bif okP parts then
    match Instr.fill place z.cells parts with
    | some cs => some (.agg cs)
    | none => none
  else none

def rBuild (P : Program) (ty : TypeId) (parts : List (Nat × Value)) : Option Value :=
  match zeroOf P ty, P.underlying ty with
  | some z, some (.struct fields) => (match placesL P fields.toList with | some ps => fillA (fun k => ps[k]?) z parts | none => none)
  | some z, some (.array _ e) => (match sizeB P e with | some sz => fillA (fun k => some (k * sz, sz)) z parts | none => none)
  | _, _ => none

def rBin2 (P : Program) (t : T Value) (o : Oper) (op : BinOp) : Option Bool → Option Value
  | some b =>
    match op with
    | .eql => some (.bool b)
    | .neq => some (.bool (!b))
    | _ => none
  | none => ground P t o

def rBin1 (P : Program) (t : T Value) (o : Oper) (op : BinOp) (k : IntKind) (a : Int) : Value → Option Value
  | .int k' b =>
    bif beqKind k k' then (match fastBin op k a b with | some v => some v | none => ground P t o) else none
  | _ => none

def rBin (P : Program) (t : T Value) (o : Oper) (op : BinOp) (ty : TypeId) (y : Value) : Value → Option Value
  | .int k a => rBin1 P t o op k a y
  | x => rBin2 P t o op (nilEqT P ty x y)

def rUn (P : Program) (t : T Value) (o : Oper) (op : UnOp) : Value → Option Value
  | .bool b => (match op with | .not => some (.bool (!b)) | _ => none)
  | _ => ground P t o

def bytesGo : List Value → List UInt8 → Option Value
  | [], acc => some (.string ⟨⟨acc.reverse⟩⟩)
  | .int .u8 (.ofNat k) :: l, acc => bif Nat.blt k 256 then bytesGo l (UInt8.ofNat k :: acc) else none
  | _, _ => none

def bytesOf (l : List Value) (n : Nat) : Option Value :=
  bif Nat.beq l.length n then bytesGo l [] else none

def isBytesTy (P : Program) (src dst : TypeId) : Bool :=
  match slOf P src with
  | some e => (match P.underlying e with | some (.int .u8) => isStrTy P dst | _ => false)
  | none => false

def rConvInt (P : Program) (t : T Value) (o : Oper) (src dst : TypeId) (n : Int) : Option Value :=
  match P.underlying src, P.underlying dst with
  | some _, some (.int k) => some (.int k (wrapF k n))
  | _, _ => ground P t o

def rConv (P : Program) (t : T Value) (h : AHeap) (o : Oper) (src dst : TypeId) : Value → Option Value
  | .int _ n => rConvInt P t o src dst n
  | .slice (some ⟨b, off, none⟩) n _ =>
    bif isBytesTy P src dst then
      match cellsOf (h.bl.get b) with
      | some c => bytesOf ((c.drop off).take n) n
      | none => none
    else none
  | _ => ground P t o

def isSlTy (P : Program) (ty : TypeId) : Bool :=
  match slOf P ty with
  | some _ => true
  | none => false

def rLen (P : Program) (t : T Value) (h : AHeap) (o : Oper) (ty : TypeId) : Value → Option Value
  | .slice _ n _ => bif isSlTy P ty then some (.int .i64 (.ofNat n)) else none
  | .string ⟨⟨l⟩⟩ => bif isStrTy P ty then some (.int .i64 (.ofNat l.length)) else none
  | .map (some r) =>
    match mapOf P ty, entriesOf (h.bl.get r) with
    | some _, some (es, _) => some (.int .i64 (.ofNat es.length))
    | _, _ => none
  | _ => ground P t o

def rCall (P : Program) (t : T Value) (h : AHeap) (o : Oper) (c : Call) : Option Value :=
  match c.callee with
  | .builtin .len =>
    match c.args.toList, c.argTypes.toList with
    | [x], ty :: _ => rLen P t h o ty (ev P t x)
    | _, _ => none
  | .builtin .min => ground P t o
  | .builtin .max => ground P t o
  | _ => none

/-- An operation that only reads. -/
def aread (P : Program) (t : T Value) (h : AHeap) (o : Oper) : Option Value :=
  match o.op with
  | .move x => some (ev P t x)
  | .assign x => some (ev P t x)
  | .pick c a b => rPick (ev P t a) (ev P t b) (ev P t c)
  | .load ty a => rLoad P h ty (ev P t a)
  | .nilCheck x => rNilCheck (ev P t x)
  | .fieldAddr s x f => rFieldAddr P s f (ev P t x)
  | .field s x f => rField P s f (ev P t x)
  | .indexAddr ty x ix => rIndexAddr P ty (ev P t x) (ev P t ix)
  | .index ty x ix => rIndex P t o ty (ev P t ix) (ev P t x)
  | .slice ty x lo hi none => rSlice P t h o ty lo hi (ev P t x)
  | .lookup ty x ix ok => rLookup P t h o ty (ev P t ix) ok (ev P t x)
  | .extract x i => rExtract i (ev P t x)
  | .makeInterface ty x => rIface P ty (ev P t x)
  | .makeFunc fn first captured => bif isFuncFn fn then some (.func fn ⟨evL P t first.toList⟩ ⟨evL P t captured.toList⟩) else none
  | .build ty parts => rBuild P ty (parts.toList.map fun p => (p.1, ev P t p.2))
  | .binOp op ty x y _ => rBin P t o op ty (ev P t y) (ev P t x)
  | .unOp op _ x => rUn P t o op (ev P t x)
  | .convert src dst x => rConv P t h o src dst (ev P t x)
  | .call c => rCall P t h o c
  | _ => none

end Go.Ev
