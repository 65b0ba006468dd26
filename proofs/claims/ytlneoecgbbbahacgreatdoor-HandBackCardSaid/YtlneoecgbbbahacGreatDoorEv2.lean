/- An evaluator of closed calls: operations that write, regions, code. -/
import Derived.Test.YtlneoecgbbbahacGreatDoorEv1
namespace Go.Ev

def fSpine {α β : Type} : List α → (List α → β) → β
  | [], K => K []
  | a :: l, K => fSpine l fun l => K (a :: l)

def spliceL : List Value → Nat → List Value → List Value
  | c, _, [] => c
  | [], _, _ :: _ => []
  | _ :: c, 0, v :: n => v :: spliceL c 0 n
  | x :: c, Nat.succ k, v :: n => x :: spliceL c k (v :: n)

def killK {β : Type} : List Nat → Nat → T AObj → (T AObj → β) → β
  | [], _, bl, K => K bl
  | m :: l, b, bl, K =>
    bif Nat.beq m b then killK l b bl K
    else
      match bl.get m with
      | some (.cells _ fam ro) => T.setK (Nat.succ m) bl m (.cells [] fam ro) fun bl => killK l b bl K
      | _ => killK l b bl K

/-- A new block that is no row of cells. -/
def newO (h : AHeap) (o : AObj) (K : Nat → AHeap → Bool) : Bool :=
  T.setK (Nat.succ h.nx) h.bl h.nx o fun bl => fNat (Nat.succ h.nx) fun nx => K h.nx ⟨bl, nx, h.fams⟩

/-- A new row of cells, in a family of its own. -/
def newC (h : AHeap) (c : List Value) (K : Nat → AHeap → Bool) : Bool :=
  fL c fun c =>
  T.setK (Nat.succ h.nx) h.bl h.nx (.cells c h.nx false) fun bl =>
  T.setK (Nat.succ h.nx) h.fams h.nx [h.nx] fun fams =>
  fNat (Nat.succ h.nx) fun nx => K h.nx ⟨bl, nx, fams⟩

/-- Writing cells: what else may share them is read no more. -/
def storeC1 (h : AHeap) (b off : Nat) (new c : List Value) (fam : Nat) (K : AHeap → Bool) : Bool :=
  bif Nat.ble (Nat.add off new.length) c.length then
    fSpine (spliceL c off new) fun c' =>
    match h.fams.get fam with
    | some [_] => T.setK (Nat.succ b) h.bl b (.cells c' fam false) fun bl => K ⟨bl, h.nx, h.fams⟩
    | some l =>
      killK l b h.bl fun bl =>
      T.setK (Nat.succ b) bl b (.cells c' fam false) fun bl =>
      T.setK (Nat.succ fam) h.fams fam [b] fun fams => K ⟨bl, h.nx, fams⟩
    | none => false
  else false

def storeC (h : AHeap) (b off : Nat) (new : List Value) (K : AHeap → Bool) : Bool :=
  match new with
  | [] => K h
  | v :: l =>
    match h.bl.get b with
    | some (.cells c fam false) => storeC1 h b off (v :: l) c fam K
    | _ => false

def setO (h : AHeap) (r : Nat) (o : AObj) (K : AHeap → Bool) : Bool :=
  T.setK (Nat.succ r) h.bl r o fun bl => K ⟨bl, h.nx, h.fams⟩

def isDig (P : Program) (src dst : TypeId) : Bool :=
  match P.underlying src, P.underlying dst with
  | some .string, some (.slice _) => true
  | _, _ => false

/-- Operations that write, make memory, or call. -/
def isW (P : Program) : Op → Bool
  | .alloc _ | .box _ _ | .buildSlice _ _ _ | .store _ _ _ | .insert _ _ _ _ | .makeMap _ _ | .makeSlice _ _ _ | .mapUpdate _ _ _ _ | .mapEntry _ _ _ | .entryStore _ _ _ _ => true
  | .convert src dst _ => isDig P src dst
  | .call c =>
    match c.callee with
    | .builtin .append | .builtin .copy | .builtin .delete | .builtin .clear => true
    | .builtin _ => false
    | _ => true
  | _ => false

/-- The cells of the first n elements that are appended or copied. -/
def srcCells (h : AHeap) (size : Nat) : Value → Option (List Value × Nat)
  | .slice none 0 0 => some ([], 0)
  | .slice none 0 1 => some ([], 0)
  | .slice (some ⟨b, off, none⟩) n _ =>
    match h.bl.get b with
    | some (.cells c _ _) =>
      bif Nat.ble (Nat.add off (Nat.mul n size)) c.length then some ((c.drop off).take (Nat.mul n size), n) else none
    | _ => none
  | .string s => bif Nat.beq size 1 then some (s.data.toList.map fun b => .int .u8 b.toNat, s.size) else none
  | _ => none

abbrev KV := Value → AHeap → Bool

def bigNat : Nat := 1000000

def numOk (P : Program) (elem : TypeId) (n : Nat) : Bool :=
  match P.info? elem, zeroOf P elem with
  | some inf, some z => Nat.blt n bigNat && (Nat.blt inf.bytes bigNat && Nat.beq z.cells.size inf.size)
  | _, _ => false

/-- A new row whose capacity nobody knows: its family's number, then its own. -/
def growN (h : AHeap) (sz : Nat) (c : List Value) (K : Nat → AHeap → Bool) : Bool :=
  fSpine c fun c =>
  fNat (Nat.succ h.nx) fun b =>
  T.setK (Nat.succ b) h.bl b (.cells c h.nx false) fun bl =>
  T.setK (Nat.succ h.nx) h.fams h.nx [b] fun fams =>
  T.setK (Nat.succ b) fams b [sz] fun fams =>
  fNat (Nat.succ b) fun nx => K b ⟨bl, nx, fams⟩

def appendNil (P : Program) (h : AHeap) (elem : TypeId) (sz : Nat) (new : List Value) (n : Nat) (K : KV) : Bool :=
  bif Nat.beq n 0 then K (.slice none 0 0) h
  else bif numOk P elem n then growN h sz new fun b h => K (.slice (some ⟨b, 0, none⟩) n n) h else false

def growH (h : AHeap) (b fam sz : Nat) (l : List Nat) (c0 c' : List Value) (K : AHeap → Bool) : Bool :=
  fSpine c' fun c' =>
  fSpine c0 fun c0 =>
  killK l b h.bl fun bl =>
  T.setK (Nat.succ b) bl b (.cells c0 fam false) fun bl =>
  T.setK (Nat.succ h.nx) bl h.nx (.cells c' fam false) fun bl =>
  T.setK (Nat.succ fam) h.fams fam [h.nx, b] fun fams =>
  T.setK (Nat.succ h.nx) fams h.nx [sz] fun fams =>
  fNat (Nat.succ h.nx) fun nx => K ⟨bl, nx, fams⟩

def appendGrow (P : Program) (h : AHeap) (elem : TypeId) (sz : Nat) (b off len : Nat) (new : List Value) (n : Nat) (K : KV) : Bool :=
  match h.bl.get b with
  | some (.cells c fam false) =>
    bif Nat.ble (Nat.add off (Nat.mul len sz)) c.length && (numOk P elem (Nat.add len n) && zOk h b sz) then
      match h.fams.get fam with
      | none => false
      | some l =>
        growH h b fam sz l (c.take (Nat.add off (Nat.mul len sz))) ((c.drop off).take (Nat.mul len sz) ++ new) fun h' =>
        fNat (Nat.add len n) fun k => K (.slice (some ⟨h.nx, 0, none⟩) k k) h'
    else false
  | _ => false

def appendA (P : Program) (h : AHeap) (elem : TypeId) (s x : Value) (K : KV) : Bool :=
  match sizeB P elem with
  | none => false
  | some sz =>
    match srcCells h sz x with
    | none => false
    | some (new, n) =>
      match s with
      | .slice none 0 0 => appendNil P h elem sz new n K
      | .slice (some ⟨b, off, none⟩) len cap =>
        bif Nat.ble (Nat.add len n) cap then
          storeC h b (Nat.add off (Nat.mul len sz)) new fun h => K (.slice (some ⟨b, off, none⟩) (Nat.add len n) cap) h
        else appendGrow P h elem sz b off len new n K
      | _ => false

def modE (es : List MapEntry) (i : Nat) (f : MapEntry → MapEntry) : List MapEntry :=
  match es, i with
  | [], _ => []
  | e :: es, 0 => f e :: es
  | e :: es, Nat.succ i => e :: modE es i f

def sameKeyAt (es : List MapEntry) (i : Nat) (k : Value) : Bool :=
  match es[i]? with
  | some e => Instr.sameBits 10000 e.key k
  | none => false

def findBorn (es : List MapEntry) (b : Nat) (i : Nat) : Option Nat :=
  match es with
  | [] => none
  | e :: es => bif Nat.beq e.born b then some i else findBorn es b (Nat.succ i)

def repl (z : List Value) : Nat → List Value → List Value
  | 0, acc => acc
  | Nat.succ n, acc => repl z n (z ++ acc)

abbrev CallT := Value → List Value → AHeap → KV → Bool

def ptrK (K : KV) (b : Nat) (h : AHeap) : Bool := K (.pointer (some ⟨b, 0, none⟩)) h

def wAlloc (P : Program) (h : AHeap) (e : TypeId) (K : KV) : Bool :=
  match zeroOf P e with
  | some z => newC h z.cells.toList (ptrK K)
  | none => false

def wBox (h : AHeap) (v : Value) (K : KV) : Bool :=
  bif okV v then newC h v.cells.toList (ptrK K) else false

def wSlice1 (h : AHeap) (len : Nat) (cs : Option (Array Value)) (K : KV) : Bool :=
  match cs with
  | some cs => newC h cs.toList fun b h => K (.slice (some ⟨b, 0, none⟩) len len) h
  | none => false

def wBuildSlice (P : Program) (h : AHeap) (ty : TypeId) (len : Nat) (parts : List (Nat × Value)) (K : KV) : Bool :=
  match slOf P ty with
  | some e =>
    match sizeB P e, zeroOf P e with
    | some sz, some z =>
      bif okP parts && (Nat.ble (Nat.mul len sz) 16777216 && Nat.beq z.cells.size sz) then
        wSlice1 h len (Instr.fill (fun k => some (k * sz, sz)) ⟨repl z.cells.toList len []⟩ parts) K
      else false
    | _, _ => false
  | none => false

def wStore (P : Program) (h : AHeap) (ty : TypeId) (x : Value) (K : KV) : Value → Bool
  | .pointer (some ⟨b, off, none⟩) =>
    match sizeB P ty with
    | some sz => bif okV x && Nat.beq x.cells.size sz then storeC h b off x.cells.toList fun h => K undef h else false
    | none => false
  | _ => false

def wMakeMap (h : AHeap) (K : KV) : Bool := newO h (.map [] 0) fun r h => K (.map (some r)) h

def isIntV : Value → Bool
  | .int _ _ => true
  | _ => false

def wMakeSlice1 (P : Program) (h : AHeap) (e : TypeId) (l c : Nat) (K : KV) : Bool :=
  match P.info? e, zeroOf P e with
  | some ei, some z =>
    bif Nat.ble l c && (Nat.blt c bigNat && (Nat.blt ei.bytes bigNat && Nat.beq z.cells.size ei.size)) then
      newC h (repl z.cells.toList c []) fun b h => K (.slice (some ⟨b, 0, none⟩) l c) h
    else false
  | _, _ => false

def wMakeSlice (P : Program) (h : AHeap) (ty : TypeId) (l c : Value) (K : KV) : Bool :=
  match slOf P ty, l, c with
  | some e, .int .i64 (.ofNat l), .int .i64 (.ofNat c) => wMakeSlice1 P h e l c K
  | _, _, _ => false

def setMap (h : AHeap) (r clock : Nat) (es : List MapEntry) (K : AHeap → Bool) : Bool :=
  fSpine es fun es => setO h r (.map es clock) K

def wMapUpdate1 (h : AHeap) (r : Nat) (k x : Value) (es : List MapEntry) (clock : Nat) (K : KV) : Option (Option (Nat × Value)) → Bool
  | some (some (i, _)) => bif sameKeyAt es i k then setMap h r clock (modE es i fun e => { key := k, val := x, born := e.born }) fun h => K undef h else false
  | some none => fNat (Nat.succ clock) fun c => setMap h r c (es ++ [⟨k, x, clock⟩]) fun h => K undef h
  | none => false

def wMapUpdate (P : Program) (h : AHeap) (ty : TypeId) (k x : Value) (K : KV) : Value → Bool
  | .map (some r) =>
    match mapOf P ty, entriesOf (h.bl.get r) with
    | some (kt, _), some (es, clock) => bif okV x then wMapUpdate1 h r k x es clock K (findK P false kt k es) else false
    | _, _ => false
  | _ => false

def wMapEntry1 (h : AHeap) (r : Nat) (k : Value) (z : Option Value) (es : List MapEntry) (clock : Nat) (K : KV) : Option (Option (Nat × Value)) → Bool
  | some (some (i, v)) =>
    match es[i]? with
    | some e => bif sameKeyAt es i k then setMap h r clock (modE es i fun e => { key := k, val := e.val, born := e.born }) fun h => K (.tuple #[v, .int .i64 (.ofNat e.born)]) h else false
    | none => false
  | some none =>
    match z with
    | some z => fNat (Nat.succ clock) fun c => setMap h r c (es ++ [⟨k, z, clock⟩]) fun h => K (.tuple #[z, .int .i64 (.ofNat clock)]) h
    | none => false
  | none => false

def wMapEntry (P : Program) (h : AHeap) (ty : TypeId) (k : Value) (K : KV) : Value → Bool
  | .map (some r) =>
    match mapOf P ty, entriesOf (h.bl.get r) with
    | some (kt, et), some (es, clock) => wMapEntry1 h r k (zeroOf P et) es clock K (findK P false kt k es)
    | _, _ => false
  | _ => false

def wEntryStore1 (h : AHeap) (r : Nat) (x : Value) (es : List MapEntry) (clock : Nat) (K : KV) : Option Nat → Bool
  | some i => setMap h r clock (modE es i fun e => { key := e.key, val := x, born := e.born }) fun h => K undef h
  | none => false

def wEntryStore (h : AHeap) (s x : Value) (K : KV) : Value → Bool
  | .map (some r) =>
    match entriesOf (h.bl.get r), s with
    | some (es, clock), .int _ (.ofNat b) => bif okV x then wEntryStore1 h r x es clock K (findBorn es b 0) else false
    | _, _ => false
  | _ => false

def isU8 (P : Program) (e : TypeId) : Bool :=
  match P.underlying e with
  | some (.int .u8) => true
  | _ => false

def wDig (P : Program) (h : AHeap) (src dst : TypeId) (K : KV) : Value → Bool
  | .string s =>
    match slOf P dst with
    | some e =>
      bif isStrTy P src && (isU8 P e && Nat.blt s.size bigNat) then
        growN h 1 (s.data.toList.map fun b => .int .u8 (.ofNat b.toNat)) fun b h => fNat s.size fun n => K (.slice (some ⟨b, 0, none⟩) n n) h
      else false
    | none => false
  | _ => false

/-- Is a value of this type what its type says: a slice, or a string? -/
def kindOk (P : Program) (ty : TypeId) : Value → Bool
  | .slice _ _ _ => (match P.underlying ty with | some (.slice _) => true | _ => false)
  | .string _ => isStrTy P ty
  | _ => false

def wAppend (P : Program) (t : T Value) (h : AHeap) (c : Call) (K : KV) : Bool :=
  match c.argTypes.toList, c.args.toList with
  | [st, xt], [s, x] =>
    match slOf P st with
    | some e => bif kindOk P xt (ev P t x) then appendA P h e (ev P t s) (ev P t x) K else false
    | none => false
  | _, _ => false

def wCall (P : Program) (call : CallT) (t : T Value) (h : AHeap) (c : Call) (K : KV) : Bool :=
  match c.callee with
  | .builtin .append => wAppend P t h c K
  | .value f => call (ev P t f) (evL P t c.args.toList) h K
  | _ => false

/-- An operation that writes; `call` is how a function value is called. -/
def awrite (P : Program) (call : CallT) (t : T Value) (h : AHeap) (o : Oper) (K : KV) : Bool :=
  match o.op with
  | .alloc e => wAlloc P h e K
  | .box _ x => wBox h (ev P t x) K
  | .buildSlice ty len parts => wBuildSlice P h ty len (parts.toList.map fun p => (p.1, ev P t p.2)) K
  | .store ty a x => wStore P h ty (ev P t x) K (ev P t a)
  | .makeMap _ none => wMakeMap h K
  | .makeMap ty (some x) => (match mapOf P ty with | some _ => bif isIntV (ev P t x) then wMakeMap h K else false | none => false)
  | .makeSlice ty l c => wMakeSlice P h ty (ev P t l) (ev P t c) K
  | .mapUpdate ty m k x => wMapUpdate P h ty (ev P t k) (ev P t x) K (ev P t m)
  | .insert ty m k x => wMapUpdate P h ty (ev P t k) (ev P t x) K (ev P t m)
  | .mapEntry ty m k => wMapEntry P h ty (ev P t k) K (ev P t m)
  | .entryStore _ m s x => wEntryStore h (ev P t s) (ev P t x) K (ev P t m)
  | .convert src dst x => wDig P h src dst K (ev P t x)
  | .call c => wCall P call t h c K
  | _ => false

/-! ## Regions -/
def wantA (t : T Value) (ops : Array Oper) : Option (Nat × Bool) → Option Bool
  | none => some true
  | some (j, want) =>
    match ops[j]? with
    | some oj =>
      match oj.dst with
      | some d =>
        match t.get d with
        | some (.bool b) => some (beqB b want)
        | some (.tuple cs) => bif Nat.beq cs.size 0 then some false else none
        | none => some false
        | _ => none
      | none => none
    | none => none

def putK (t : T Value) (n : Nat) (dst : Option Tmp) (v : Value) (K : T Value → Bool) : Bool :=
  match dst with
  | none => K t
  | some d => bif Nat.blt d n then fV1 v fun v => T.setK (Nat.succ d) t d v K else false

def runOps (P : Program) (call : CallT) (ops : Array Oper) (n : Nat) : List Oper → T Value → AHeap → (T Value → AHeap → Bool) → Bool
  | [], t, h, K => K t h
  | o :: rest, t, h, K =>
    match wantA t ops o.guard with
    | none => false
    | some false => putK t n o.dst undef fun t => runOps P call ops n rest t h K
    | some true =>
      bif isW P o.op then awrite P call t h o fun v h => putK t n o.dst v fun t => runOps P call ops n rest t h K
      else
        match aread P t h o with
        | none => false
        | some v => putK t n o.dst v fun t => runOps P call ops n rest t h K

/-- One operation of a region that draws its order: its number, itself, whether it writes, the numbers (as bits) of those that come before it in every order. -/
structure Info where
  i : Nat
  o : Oper
  w : Bool
  pre : Nat

structure Seen where
  i : Nat
  o : Oper
  t : T Value
  v : Value

def infoGo (P : Program) (ops : Array Oper) : List Oper → Nat → List Nat → List Info
  | [], _, _ => []
  | o :: rest, i, bs =>
    let m := o.after.toList.foldl (fun s e => bif Region.binds .any e then Nat.lor (Nat.lor s (Nat.pow 2 e.on)) (bs.getD e.on 0) else s) 0
    { i := i, o := o, w := isW P o.op, pre := m } :: infoGo P ops rest (Nat.succ i) (bs ++ [m])

def infos (P : Program) (ops : Array Oper) : List Info := infoGo P ops ops.toList 0 []

def tmpsOf (ops : Array Oper) (o : Oper) : List Tmp :=
  (o.op.operands.toList.filterMap fun | .tmp t => some t | _ => none) ++ (match o.guard with | some (j, _) => (match ops[j]? with | some oj => oj.dst.toList | none => []) | none => [])

/-- Two operations, the first one's number being the smaller: ordered where one writes a temporary that the other names. -/
def pairOk (ops : Array Oper) (a b : Info) : Bool :=
  Nat.testBit b.pre a.i ||
    ((match a.o.dst with | some d => !((b.o.dst == some d) || (tmpsOf ops b.o).contains d) | none => true) &&
      (match b.o.dst with | some d => !((tmpsOf ops a.o).contains d) | none => true))

def edgesOk (o : Oper) (i : Nat) : Bool := o.after.toList.all fun e => !(Region.binds .any e) || Nat.blt e.on i

def regOk (P : Program) (ops : Array Oper) : Bool :=
  let l := infos P ops
  (l.all fun a => edgesOk a.o a.i) && (l.all fun b => l.all fun a => !(Nat.blt a.i b.i) || pairOk ops a b) &&
  (l.all fun a => match a.o.guard with | none => true | some (j, _) => Nat.blt j ops.size)

def isReadOp : Op → Bool
  | .load _ _ | .lookup _ _ _ _ | .convert _ _ _ | .call _ | .slice _ _ _ _ _ => true
  | _ => false

def again (P : Program) (h : AHeap) (pre : Nat) : List Seen → Bool
  | [] => true
  | s :: l =>
    (!(isReadOp s.o.op) || Nat.testBit pre s.i ||
      (match aread P s.t h s.o with | some v => veq v s.v | none => false)) && again P h pre l

/-- Takes out the first operation that reads and is ready. -/
def pickR (done : Nat) : List Info → Option (Info × List Info)
  | [] => none
  | a :: l =>
    bif !a.w && Nat.beq (Nat.land a.pre done) a.pre then some (a, l)
    else match pickR done l with
      | some (b, l) => some (b, a :: l)
      | none => none

/-- Each one taken out. -/
def splits : List Info → List (Info × List Info)
  | [] => []
  | a :: l => (a, l) :: (splits l).map fun p => (p.1, a :: p.2)

/-- The operations that write and are ready: any of them can come next. -/
def wreadies (done : Nat) (l : List Info) : List (Info × List Info) := (splits l).filter fun p => p.1.w && Nat.beq (Nat.land p.1.pre done) p.1.pre

def allB {α : Type} : List α → (α → Bool) → Bool
  | [], _ => true
  | a :: l, f =>
    match l with
    | [] => f a
    | b :: r => f a && allB (b :: r) f

def drawGo (P : Program) (call : CallT) (ops : Array Oper) (n : Nat) : Nat → List Info → Nat → List Seen → T Value → AHeap → (T Value → AHeap → Bool) → Bool
  | 0, _, _, _, _, _, _ => false
  | Nat.succ f, todo, done, hist, t, h, K =>
    match pickR done todo with
    | some (a, rest) =>
      match wantA t ops a.o.guard with
      | none => false
      | some false => putK t n a.o.dst undef fun t => fNat (Nat.lor done (Nat.pow 2 a.i)) fun done => drawGo P call ops n f rest done hist t h K
      | some true =>
        match aread P t h a.o with
        | none => false
        | some v => fV1 v fun v => putK t n a.o.dst v fun t' => fNat (Nat.lor done (Nat.pow 2 a.i)) fun done =>
          drawGo P call ops n f rest done ({ i := a.i, o := a.o, t := t, v := v } :: hist) t' h K
    | none =>
      match wreadies done todo with
      | [] => (match todo with | [] => K t h | _ => false)
      | p :: ps => allB (p :: ps) fun ar =>
        match wantA t ops ar.1.o.guard with
        | none => false
        | some false => putK t n ar.1.o.dst undef fun t => fNat (Nat.lor done (Nat.pow 2 ar.1.i)) fun done => drawGo P call ops n f ar.2 done hist t h K
        | some true =>
          awrite P call t h ar.1.o fun v h' => bif again P h' ar.1.pre hist then
            putK t n ar.1.o.dst v fun t => fNat (Nat.lor done (Nat.pow 2 ar.1.i)) fun done => drawGo P call ops n f ar.2 done hist t h' K
          else false

/-- Can of two operations that write either come first? -/
def manyW (P : Program) (ops : Array Oper) : Bool :=
  let l := (infos P ops).filter fun a => a.w
  l.any fun b => l.any fun a => Nat.blt a.i b.i && !(Nat.testBit b.pre a.i)

/-- Where ways meet again: what comes behind is asked apart, so that it is reckoned once. -/
def joinK (many : Bool) (K : T Value → AHeap → Bool) : T Value → AHeap → Bool :=
  bif many then fun t h => bif K t h then true else false else K

def runRegion (P : Program) (call : CallT) (ops : Array Oper) (draw : Bool) (n : Nat) (t : T Value) (h : AHeap) (K : T Value → AHeap → Bool) : Bool :=
  bif draw then
    bif regOk P ops then drawGo P call ops n (Nat.succ ops.size) (infos P ops) 0 [] t h (joinK (manyW P ops) K) else false
  else runOps P call ops n ops.toList t h K

/-! ## Code and calls -/
abbrev KT := Exit → T Value → AHeap → List Nat → Bool

def setArgs {β : Type} : List Value → Nat → T Value → (T Value → β) → β
  | [], _, t, K => K t
  | v :: l, i, t, K => fV1 v fun v => T.setK (Nat.succ i) t i v fun t => setArgs l (Nat.succ i) t K

def setParams {β : Type} : List Tmp → List Value → T Value → (T Value → β) → β
  | p :: ps, v :: vs, t, K => fV1 v fun v => T.setK (Nat.succ p) t p v fun t => setParams ps vs t K
  | _, _, t, K => K t

def resA (P : Program) (h : AHeap) (t : T Value) : List ResultVar → Option (List Value)
  | [] => some []
  | .tmp i :: l =>
    match resA P h t l with
    | some vs => some (ev P t (.tmp i) :: vs)
    | none => none
  | .cell i ty :: l =>
    match ev P t (.tmp i) with
    | .pointer (some ⟨b, off, none⟩) =>
      match h.bl.get b with
      | some (.cells c _ _) =>
        match partL P ty c off, resA P h t l with
        | some v, some vs => some (v :: vs)
        | _, _ => none
      | _ => none
    | _ => none

def result1 : List Value → Value
  | [v] => v
  | vs => .tuple ⟨vs⟩

def endMarks (h : AHeap) : List Nat → (AHeap → Bool) → Bool
  | [], K => K h
  | d :: ds, K =>
    match h.bl.get d with
    | some (.deferred true) => setO h d (.deferred false) fun h => endMarks h ds K
    | _ => false

abbrev ExT := Nat → Option Nat → Code → T Value → AHeap → List Nat → KT → Bool

def finish (P : Program) (fn : Func) (K : KV) (e : Exit) (t : T Value) (h : AHeap) (ds : List Nat) : Bool :=
  match e with
  | .normal | .ret =>
    endMarks h ds fun h =>
    match resA P h t fn.results.toList with
    | some vs => K (result1 vs) h
    | none => false
  | _ => false

def callBody (ex : ExT) (P : Program) (fn : Func) (c : Code) (args : List Value) (h : AHeap) (K : KV) : Bool :=
  bif fn.name == "runtime.NumGoroutine" then false
  else bif Nat.ble args.length fn.ntmps then
    setArgs args 0 .leaf fun t => ex fn.ntmps none c t h [] (finish P fn K)
  else false

def callFunc1 (P : Program) (ex : ExT) (g : FuncId) (args : List Value) (h : AHeap) (K : KV) : Bool :=
  match P.funcs[g]? with
  | none => false
  | some fn =>
    match fn.body with
    | some c => callBody ex P fn c args h K
    | none =>
      bif plainL args then
        match pureOf P (callFunc g ⟨args⟩) with
        | some (.value v) => bif plainB v then K v h else false
        | _ => false
      else false

/-- Calling a function that has a body. -/
def callGo (P : Program) (ex : ExT) (f : Value) (args : List Value) (h : AHeap) (K : KV) : Bool :=
  match f with
  | .func (.func g) first captured =>
    match P.funcs[g]? with
    | none => false
    | some fn =>
      match fn.body with
      | some c => callBody ex P fn c (first.toList ++ args ++ captured.toList) h K
      | none => false
  | _ => false

def loopState (h : AHeap) (l : Nat) (st : LoopState) (pe : Option Code) (K : AHeap → Bool) : Bool :=
  match h.bl.get l with
  | some (.loop _ _ tl nl ps as bo df) => setO h l (.loop st pe tl nl ps as bo df) K
  | _ => false

def roundEnd (l : Nat) (K : KV) (e : Exit) (_ : T Value) (h : AHeap) (_ : List Nat) : Bool :=
  match e with
  | .normal => loopState h l .ready none fun h => K (.bool true) h
  | .ret => loopState h l .done (some .ret) fun h => K (.bool false) h
  | .exit id => loopState h l .done (some (.exit id)) fun h => K (.bool false) h
  | _ => false

def beginK (h : AHeap) (l : Nat) (K : AHeap → Bool) : Bool :=
  match h.bl.get l with
  | some (.loop .ready pe tl nl ps as bo df) => setO h l (.loop .busy pe tl nl ps as bo df) K
  | _ => false

def roundBody (ex : ExT) (l nl : Nat) (body : Code) (K : KV) (e : Exit) (t : T Value) (h : AHeap) (ds : List Nat) : Bool :=
  match e with
  | .normal =>
    match ds with
    | [] => beginK h l fun h => ex nl (some l) body t h [] (roundEnd l K)
    | _ => false
  | _ => false

def roundK (ex : ExT) (l : Nat) (args : List Value) (h : AHeap) (K : KV) : Bool :=
  match h.bl.get l with
  | some (.loop _ _ tl nl ps assign body _) =>
    bif Nat.beq args.length ps.size && ps.toList.all (fun p => Nat.blt p nl) then
      setParams ps.toList args tl fun t => ex nl (some l) assign t h [] (roundBody ex l nl body K)
    else false
  | _ => false

def callVal (P : Program) (ex : ExT) (f : Value) (args : List Value) (h : AHeap) (K : Value → AHeap → Bool) : Bool :=
  match f with
  | .func (.func g) first captured => callFunc1 P ex g (first.toList ++ args ++ captured.toList) h K
  | .func (.yield l) first _ => roundK ex l (first.toList ++ args) h K
  | _ => false

/-- Behind the call of the function that is ranged over. -/
def after (ex : ExT) (n : Nat) (rd : Option Nat) (t : T Value) (ds : List Nat) (K : KT) (l : Nat) (h : AHeap) : Bool :=
  match h.bl.get l with
  | some (.loop st pe _ _ _ _ _ _) =>
    match st with
    | .busy => false
    | _ =>
      setO h l .gone fun h =>
      match pe with
      | none => K .normal t h ds
      | some c => ex n rd c t h ds K
  | _ => false

def execStep (P : Program) (ex : ExT) (n : Nat) (rd : Option Nat) (c : Code) (t : T Value) (h : AHeap) (ds : List Nat) (K : KT) : Bool :=
  match c with
  | .skip => K .normal t h ds
  | .region _ ops draw => runRegion P (callVal P ex) ops draw n t h fun t h => K .normal t h ds
  | .seq a b => ex n rd a t h ds fun e t h ds => match e with | .normal => ex n rd b t h ds K | e => K e t h ds
  | .cond x a b =>
    match ev P t x with
    | .bool true => ex n rd a t h ds K
    | .bool false => ex n rd b t h ds K
    | _ => false
  | .block id b => ex n rd b t h ds fun e t h ds =>
    match e with
    | .exit id' => bif Nat.beq id' id then K .normal t h ds else K (.exit id') t h ds
    | e => K e t h ds
  | .loop b => ex n rd b t h ds fun e t h ds => match e with | .normal => ex n rd (.loop b) t h ds K | e => K e t h ds
  | .exit id => K (.exit id) t h ds
  | .ret => K .ret t h ds
  | .label _ => K .normal t h ds
  | .scope b => ex n rd b t h ds fun e t h ds => match e with | .goto _ => false | e => K e t h ds
  | .rangeFunc f ps assign body =>
    match rd with
    | none =>
      newO h (.deferred true) fun d h =>
      newO h (.loop .ready none t n ps assign body d) fun l h =>
      callGo P ex (ev P t f) [.func (.yield l) #[] #[]] h fun _ h => after ex n rd t (d :: ds) K l h
    | some r =>
      match h.bl.get r with
      | some (.loop _ _ _ _ _ _ _ d) =>
        newO h (.loop .ready none t n ps assign body d) fun l h =>
        callGo P ex (ev P t f) [.func (.yield l) #[] #[]] h fun _ h => after ex n rd t ds K l h
      | _ => false
  | _ => false

def exec (P : Program) : Nat → ExT
  | 0 => fun _ _ _ _ _ _ _ => false
  | Nat.succ f => execStep P (exec P f)

/-- Does the function f, called with these arguments, return true? -/
def truly (P : Program) (fuel : Nat) (f : FuncId) (h : AHeap) : Bool :=
  callFunc1 P (exec P fuel) f [] h fun v _ => match v with | .bool b => b | _ => false

end Go.Ev
