/- Twins of the evaluator that the kernel reckons faster: what hangs on the code alone is a closed term of a structure, whose normal form the kernel keeps. -/
import Derived.Test.YtlneoecgbbbahacGreatDoorEv3
namespace Go.Ev

structure GW (α : Type) where
  run : T α → Option α

def getC (α : Type) : Nat → Nat → GW α
  | 0, _ => ⟨fun _ => none⟩
  | Nat.succ f, k =>
    match k with
    | 0 => ⟨fun t => match t with | .leaf => none | .node _ v _ => v⟩
    | Nat.succ k =>
      bif Nat.beq (Nat.mod k 2) 0 then ⟨fun t => match t with | .leaf => none | .node l _ _ => (getC α f (Nat.div k 2)).run l⟩
      else ⟨fun t => match t with | .leaf => none | .node _ _ r => (getC α f (Nat.div k 2)).run r⟩

theorem getC_eq {α : Type} : ∀ (f k : Nat) (t : T α), k < f → (getC α f k).run t = t.get k
  | 0, _, _, h => absurd h (Nat.not_lt_zero _)
  | f + 1, 0, t, _ => by cases t <;> simp [getC, T.get]
  | f + 1, k + 1, t, h => by
    have h2 : k / 2 < f := by omega
    have ih := fun (t : T α) => getC_eq f (k / 2) t h2
    simp only [getC]
    cases hb : Nat.beq (Nat.mod k 2) 0 with
    | true =>
      simp only [cond_true]
      cases t with
      | leaf => simp [T.get]
      | node l v r => simp only [T.get, hb, cond_true]; exact ih l
    | false =>
      simp only [cond_false]
      cases t with
      | leaf => simp [T.get]
      | node l v r => simp only [T.get, hb, cond_false]; exact ih r

structure SW (α : Type) where
  run : T α → α → (T α → Bool) → Bool

def setC (α : Type) : Nat → Nat → SW α
  | 0, _ => ⟨fun t _ K => K t⟩
  | Nat.succ f, k =>
    match k with
    | 0 => ⟨fun t v K => match t with | .leaf => K (.node .leaf (some v) .leaf) | .node l _ r => K (.node l (some v) r)⟩
    | Nat.succ k =>
      bif Nat.beq (Nat.mod k 2) 0 then
        ⟨fun t v K => match t with
          | .leaf => (setC α f (Nat.div k 2)).run .leaf v fun l => K (.node l none .leaf)
          | .node l x r => (setC α f (Nat.div k 2)).run l v fun l => K (.node l x r)⟩
      else
        ⟨fun t v K => match t with
          | .leaf => (setC α f (Nat.div k 2)).run .leaf v fun r => K (.node .leaf none r)
          | .node l x r => (setC α f (Nat.div k 2)).run r v fun r => K (.node l x r)⟩

theorem setC_eq {α : Type} : ∀ (f k : Nat) (t : T α) (v : α) (K : T α → Bool), (setC α f k).run t v K = T.setK f t k v K
  | 0, _, _, _, _ => by simp [setC, T.setK]
  | f + 1, 0, t, v, K => by cases t <;> simp [setC, T.setK]
  | f + 1, k + 1, t, v, K => by
    have ih := fun t K => setC_eq f (Nat.div k 2) t v K
    simp only [setC, T.setK]
    cases hb : Nat.beq (Nat.mod k 2) 0 with
    | true => cases t <;> simp only [cond_true] <;> exact ih _ _
    | false => cases t <;> simp only [cond_false] <;> exact ih _ _

/-! ## Operands -/
structure EW where
  run : T Value → Value

def evC (P : Program) (x : Operand) : EW :=
  match x with
  | .tmp i => ⟨fun t => match (getC Value (Nat.succ i) i).run t with | some v => v | none => undef⟩
  | .const v => bif plainB v then ⟨fun _ => v⟩ else ⟨fun _ => bad⟩
  | .global g => bif Nat.blt g P.globals.size then ⟨fun _ => .pointer (some ⟨g, 0, none⟩)⟩ else ⟨fun _ => bad⟩
  | .func f => ⟨fun _ => .func (.func f) #[] #[]⟩

theorem evC_eq (P : Program) (x : Operand) (t : T Value) : (evC P x).run t = ev P t x := by
  cases x with
  | tmp i =>
    simp only [evC, ev, tget, getC_eq (Nat.succ i) i t (Nat.lt_succ_self i)]
    cases t.get i <;> rfl
  | const v => simp only [evC, ev]; cases plainB v <;> rfl
  | global g => simp only [evC, ev]; cases Nat.blt g P.globals.size <;> rfl
  | func f => rfl

structure LW where
  run : T Value → List Value

def evLC (P : Program) : List Operand → LW
  | [] => ⟨fun _ => []⟩
  | x :: l => ⟨fun t => (evC P x).run t :: (evLC P l).run t⟩

theorem evLC_eq (P : Program) (t : T Value) : ∀ l, (evLC P l).run t = evL P t l
  | [] => rfl
  | x :: l => by simp only [evLC, evL, evC_eq, evLC_eq P t l]

/-! ## Reads -/
structure RW where
  run : T Value → AHeap → Option Value

structure FB where
  run : IntKind → Int → Int → Option Value

def fastC (op : BinOp) : FB :=
  match op with
  | .add => ⟨fun k a b => some (.int k (wrapF k (Int.add a b)))⟩
  | .sub => ⟨fun k a b => some (.int k (wrapF k (Int.sub a b)))⟩
  | .mul => ⟨fun k a b => some (.int k (wrapF k (Int.mul a b)))⟩
  | .eql => ⟨fun _ a b => some (.bool (beqI a b))⟩
  | .neq => ⟨fun _ a b => some (.bool (!(beqI a b)))⟩
  | .lss => ⟨fun _ a b => some (.bool (!(leI b a)))⟩
  | .leq => ⟨fun _ a b => some (.bool (leI a b))⟩
  | .gtr => ⟨fun _ a b => some (.bool (!(leI a b)))⟩
  | .geq => ⟨fun _ a b => some (.bool (leI b a))⟩
  | _ => ⟨fun _ _ _ => none⟩

theorem fastC_eq (op : BinOp) (k : IntKind) (a b : Int) : (fastC op).run k a b = fastBin op k a b := by cases op <;> rfl

def binC2 (P : Program) (t : T Value) (o : Oper) (op : BinOp) (k : IntKind) (a : Int) : Value → Option Value
  | .int k' b => bif beqKind k k' then (match (fastC op).run k a b with | some v => some v | none => ground P t o) else none
  | _ => none

def binC (P : Program) (t : T Value) (o : Oper) (op : BinOp) (ty : TypeId) (y : Value) : Value → Option Value
  | .int k a => binC2 P t o op k a y
  | x => rBin2 P t o op (nilEqT P ty x y)

theorem binC_eq (P : Program) (t : T Value) (o : Oper) (op : BinOp) (ty : TypeId) (x y : Value) : binC P t o op ty y x = rBin P t o op ty y x := by
  unfold binC rBin
  cases x <;> first | rfl | (unfold binC2 rBin1; cases y <;> first | rfl | (simp only [fastC_eq]; rfl))

def faddrC (fo : Nat) : Value → Option Value
  | .pointer (some ⟨b, off, none⟩) => some (.pointer (some ⟨b, Nat.add off fo, none⟩))
  | _ => none

def faddrW (P : Program) (x : Operand) : Option (Nat × TypeId) → RW
  | some (fo, ft) =>
    match sizeB P ft with
    | some (Nat.succ _) => ⟨fun t _ => faddrC fo ((evC P x).run t)⟩
    | _ => ⟨fun _ _ => none⟩
  | none => ⟨fun _ _ => none⟩

theorem faddrW_eq (P : Program) (s : TypeId) (x : Operand) (f : Nat) (t : T Value) (h : AHeap) : (faddrW P x (fieldOf P s f)).run t h = rFieldAddr P s f (ev P t x) := by
  cases hf : fieldOf P s f with
  | none =>
    simp only [faddrW, rFieldAddr, hf]
    try (split <;> rfl)
  | some p =>
    obtain ⟨fo, ft⟩ := p
    cases hs : sizeB P ft with
    | none =>
      simp only [faddrW, rFieldAddr, hf, hs]
      try (split <;> rfl)
    | some k =>
      cases k with
      | zero =>
        simp only [faddrW, rFieldAddr, hf, hs]
        try (split <;> rfl)
      | succ k =>
        simp only [faddrW, rFieldAddr, hf, hs, evC_eq]
        generalize ev P t x = v
        cases v <;> rfl

/-! ## Rows of cells, walked no further than they must -/
def grab : List Value → Nat → Option (List Value)
  | _, 0 => some []
  | [], Nat.succ _ => none
  | x :: l, Nat.succ n =>
    match grab l n with
    | some r => some (x :: r)
    | none => none
theorem grab_eq : ∀ (l : List Value) (n : Nat), grab l n = bif Nat.ble n l.length then some (l.take n) else none
  | l, 0 => by
    have : Nat.ble 0 l.length = true := Nat.ble_eq_true_of_le (Nat.zero_le _)
    simp only [grab, this, cond_true, List.take_zero]
  | [], n + 1 => rfl
  | x :: l, n + 1 => by
    simp only [grab, grab_eq l n, List.length_cons, List.take_succ_cons]
    have : Nat.ble (n + 1) (l.length + 1) = Nat.ble n l.length := rfl
    rw [this]
    cases Nat.ble n l.length <;> rfl

structure PLW where
  run : List Value → Nat → Option Value
def partW (P : Program) (ty : TypeId) : PLW :=
  match P.underlying ty, P.info? ty with
  | some d, some i =>
    bif isAggB d then
      match i.size with
      | 0 => ⟨fun c off => partL P ty c off⟩
      | Nat.succ n => ⟨fun c off => match grab (c.drop off) (Nat.succ n) with | some r => some (.agg ⟨r⟩) | none => none⟩
    else ⟨fun c off => c[off]?⟩
  | _, _ => ⟨fun _ _ => none⟩
theorem partW_eq (P : Program) (ty : TypeId) (c : List Value) (off : Nat) : (partW P ty).run c off = partL P ty c off := by
  unfold partW
  cases hd : P.underlying ty with
  | none => simp only [partL, hd]
  | some d =>
    cases hi : P.info? ty with
    | none => simp only [partL, hd, hi]
    | some i =>
      simp only
      cases ha : isAggB d with
      | false => simp only [partL, hd, hi, ha, cond_false]
      | true =>
        simp only [cond_true]
        cases hz : i.size with
        | zero => rfl
        | succ n =>
          simp only [partL, hd, hi, ha, cond_true, hz, grab_eq, List.length_drop]
          have : Nat.ble (Nat.succ n) (c.length - off) = Nat.ble (Nat.add off (n + 1)) c.length := by
            rw [Bool.eq_iff_iff, Nat.ble_eq, Nat.ble_eq]
            show n + 1 ≤ c.length - off ↔ off + (n + 1) ≤ c.length
            omega
          rw [this]
          cases Nat.ble (Nat.add off (n + 1)) c.length <;> rfl

def loadF (w : PLW) (h : AHeap) : Value → Option Value
  | .pointer (some ⟨b, off, none⟩) =>
    match cellsOf (h.bl.get b) with
    | some c => w.run c off
    | none => none
  | _ => none
theorem loadF_eq (P : Program) (ty : TypeId) (h : AHeap) (v : Value) : loadF (partW P ty) h v = rLoad P h ty v := by
  unfold loadF rLoad
  simp only [partW_eq]
  first | rfl | (split <;> first | rfl | (split <;> rfl))

def overK : List Value → List Value → (List Value → Bool) → Bool
  | c, [], K => K c
  | [], _ :: _, _ => false
  | _ :: c, v :: n, K => overK c n fun l => K (v :: l)
def spliceK : List Value → Nat → List Value → (List Value → Bool) → Bool
  | c, 0, n, K => overK c n K
  | [], Nat.succ _, _, _ => false
  | x :: c, Nat.succ k, n, K => spliceK c k n fun l => K (x :: l)
theorem overK_eq : ∀ (c n : List Value) (K : List Value → Bool), overK c n K = bif Nat.ble n.length c.length then K (spliceL c 0 n) else false
  | c, [], K => by cases c <;> rfl
  | [], _ :: _, K => rfl
  | x :: c, v :: n, K => by
    simp only [overK, overK_eq c n, List.length_cons, spliceL]
    rfl
theorem spliceK_eq : ∀ (c : List Value) (k : Nat) (v : Value) (n : List Value) (K : List Value → Bool), spliceK c k (v :: n) K = bif Nat.ble (Nat.add k (v :: n).length) c.length then K (spliceL c k (v :: n)) else false
  | c, 0, v, n, K => by
    simp only [spliceK, overK_eq]
    rw [show Nat.add 0 (v :: n).length = (v :: n).length from Nat.zero_add _]
  | [], k + 1, v, n, K => by
    simp only [spliceK]
    have : Nat.ble (Nat.add (k + 1) (v :: n).length) ([] : List Value).length = false := by
      cases h : Nat.ble (Nat.add (k + 1) (v :: n).length) ([] : List Value).length with
      | false => rfl
      | true => have := Nat.le_of_ble_eq_true h; simp at this
    rw [this]; rfl
  | x :: c, k + 1, v, n, K => by
    simp only [spliceK, spliceK_eq c k v n, List.length_cons, spliceL]
    have : Nat.ble (Nat.add (k + 1) (n.length + 1)) (c.length + 1) = Nat.ble (Nat.add k (n.length + 1)) c.length := by
      rw [Bool.eq_iff_iff, Nat.ble_eq, Nat.ble_eq]
      show k + 1 + (n.length + 1) ≤ c.length + 1 ↔ k + (n.length + 1) ≤ c.length
      omega
    rw [this]

def storeF (h : AHeap) (b off : Nat) (new : List Value) (K : AHeap → Bool) : Bool :=
  match new with
  | [] => K h
  | v :: l =>
    match h.bl.get b with
    | some (.cells c fam false) =>
      spliceK c off (v :: l) fun c' =>
      match h.fams.get fam with
      | some [_] => T.setK (Nat.succ b) h.bl b (.cells c' fam false) fun bl => K ⟨bl, h.nx, h.fams⟩
      | some l =>
        killK l b h.bl fun bl =>
        T.setK (Nat.succ b) bl b (.cells c' fam false) fun bl =>
        T.setK (Nat.succ fam) h.fams fam [b] fun fams => K ⟨bl, h.nx, fams⟩
      | none => false
    | _ => false
theorem storeF_eq (h : AHeap) (b off : Nat) (new : List Value) (K : AHeap → Bool) : storeF h b off new K = storeC h b off new K := by
  unfold storeF storeC
  cases new with
  | nil => rfl
  | cons v l =>
    simp only
    cases hg : h.bl.get b with
    | none => rfl
    | some o =>
      cases o with
      | cells c fam ro =>
        cases ro with
        | true => rfl
        | false =>
          simp only [spliceK_eq, storeC1, fSpine_eq]
          cases h.fams.get fam with
          | none => rfl
          | some l =>
            match l with
            | [] => rfl
            | [_] => rfl
            | _ :: _ :: _ => rfl
      | _ => rfl

def lenIs : List Value → Nat → Bool
  | [], 0 => true
  | _ :: l, Nat.succ n => lenIs l n
  | _, _ => false
theorem lenIs_eq : ∀ (l : List Value) (n : Nat), lenIs l n = Nat.beq l.length n
  | [], 0 => rfl
  | [], _ + 1 => rfl
  | _ :: _, 0 => rfl
  | _ :: l, n + 1 => by simp only [lenIs, lenIs_eq l n, List.length_cons]; rfl

def wStoreF (h : AHeap) (x : Value) (K : KV) : Option Nat → Value → Bool
  | some sz, .pointer (some ⟨b, off, none⟩) => bif okV x && lenIs x.cells.toList sz then storeF h b off x.cells.toList fun h => K undef h else false
  | _, _ => false
theorem wStoreF_eq (P : Program) (h : AHeap) (ty : TypeId) (x : Value) (K : KV) (v : Value) : wStoreF h x K (sizeB P ty) v = wStore P h ty x K v := by
  cases v with
  | pointer a =>
    cases a with
    | none => cases sizeB P ty <;> rfl
    | some a =>
      obtain ⟨b, off, sp⟩ := a
      cases sp with
      | none =>
        cases hs : sizeB P ty with
        | none => simp only [wStoreF, wStore, hs]
        | some sz => simp only [wStoreF, wStore, hs, storeF_eq, lenIs_eq, Array.length_toList]
      | some _ => cases sizeB P ty <;> rfl
  | _ => cases sizeB P ty <;> rfl

def loadW (w : PLW) (e : EW) : RW := ⟨fun t h => loadF w h (e.run t)⟩

def areadC (P : Program) (o : Oper) : RW :=
  match o.op with
  | .move x => ⟨fun t _ => some ((evC P x).run t)⟩
  | .assign x => ⟨fun t _ => some ((evC P x).run t)⟩
  | .pick c a b => ⟨fun t _ => rPick ((evC P a).run t) ((evC P b).run t) ((evC P c).run t)⟩
  | .load ty a => loadW (partW P ty) (evC P a)
  | .fieldAddr s x f => faddrW P x (fieldOf P s f)
  | .indexAddr ty x ix => ⟨fun t _ => rIndexAddr P ty ((evC P x).run t) ((evC P ix).run t)⟩
  | .extract x i => ⟨fun t _ => rExtract i ((evC P x).run t)⟩
  | .binOp op ty x y _ => ⟨fun t _ => binC P t o op ty ((evC P y).run t) ((evC P x).run t)⟩
  | .unOp op _ x => ⟨fun t _ => rUn P t o op ((evC P x).run t)⟩
  | .index ty x ix => ⟨fun t _ => rIndex P t o ty ((evC P ix).run t) ((evC P x).run t)⟩
  | .call c => ⟨fun t h => rCall P t h o c⟩
  | _ => ⟨fun t h => aread P t h o⟩

theorem areadC_eq (P : Program) (o : Oper) (t : T Value) (h : AHeap) : (areadC P o).run t h = aread P t h o := by
  unfold areadC
  split <;> rename_i ho <;> try rfl
  all_goals simp only [aread, ho, evC_eq, binC_eq, faddrW_eq, loadW, loadF_eq]

/-! ## Writes -/
structure WW where
  run : CallT → T Value → AHeap → KV → Bool

def allocW : Option Value → WW
  | some z => ⟨fun _ _ h K => newC h z.cells.toList (ptrK K)⟩
  | none => ⟨fun _ _ _ _ => false⟩

def callW (P : Program) (o : Oper) (c : Call) : WW :=
  match c.callee with
  | .value f => ⟨fun call t h K => call ((evC P f).run t) ((evLC P c.args.toList).run t) h K⟩
  | _ => ⟨fun call t h K => awrite P call t h o K⟩

def storeW (sz : Option Nat) (a x : EW) : WW :=
  match sz with
  | none => ⟨fun _ _ _ _ => false⟩
  | some n => ⟨fun _ t h K => wStoreF h (x.run t) K (some n) (a.run t)⟩

def awriteC (P : Program) (o : Oper) : WW :=
  match o.op with
  | .alloc e => allocW (zeroOf P e)
  | .box _ x => ⟨fun _ t h K => wBox h ((evC P x).run t) K⟩
  | .store ty a x => storeW (sizeB P ty) (evC P a) (evC P x)
  | .call c => callW P o c
  | _ => ⟨fun call t h K => awrite P call t h o K⟩

theorem awriteC_eq (P : Program) (o : Oper) (call : CallT) (t : T Value) (h : AHeap) (K : KV) : (awriteC P o).run call t h K = awrite P call t h o K := by
  unfold awriteC
  split <;> rename_i ho <;> try rfl
  · simp only [awrite, ho, wAlloc]
    cases zeroOf P _ <;> rfl
  · simp only [awrite, ho, evC_eq]
  · rename_i ty a x
    simp only [awrite, ho]
    rw [← wStoreF_eq]
    cases sizeB P ty with
    | none => simp only [storeW, wStoreF]
    | some n => simp only [storeW, evC_eq]
  · unfold callW
    split
    · rename_i hc
      simp only [awrite, ho, wCall, hc, evC_eq, evLC_eq]
    · rfl

/-! ## Regions -/
structure PW where
  run : Nat → T Value → Value → (T Value → Bool) → Bool

def putC (dst : Option Tmp) : PW :=
  match dst with
  | none => ⟨fun _ t _ K => K t⟩
  | some d => ⟨fun n t v K => bif Nat.blt d n then fV1 v fun v => (setC Value (Nat.succ d) d).run t v K else false⟩

theorem putC_eq (dst : Option Tmp) (n : Nat) (t : T Value) (v : Value) (K : T Value → Bool) : (putC dst).run n t v K = putK t n dst v K := by
  cases dst with
  | none => rfl
  | some d => simp only [putC, putK, setC_eq]

structure OW where
  run : CallT → Nat → T Value → AHeap → (T Value → AHeap → Bool) → Bool

def readGo (o : Oper) (n : Nat) (t : T Value) (h : AHeap) (K : T Value → AHeap → Bool) : Option Value → Bool
  | none => false
  | some v => (putC o.dst).run n t v fun t => K t h

def opGo (P : Program) (o : Oper) : OW :=
  bif isW P o.op then ⟨fun call n t h K => (awriteC P o).run call t h fun v h => (putC o.dst).run n t v fun t => K t h⟩
  else ⟨fun _ n t h K => readGo o n t h K ((areadC P o).run t h)⟩

def opG (ops : Array Oper) (o : Oper) (w : OW) : OW :=
  ⟨fun call n t h K =>
    match wantA t ops o.guard with
    | none => false
    | some false => (putC o.dst).run n t undef fun t => K t h
    | some true => w.run call n t h K⟩

def opC (P : Program) (ops : Array Oper) (o : Oper) : OW :=
  match o.guard with
  | none => opGo P o
  | some _ => opG ops o (opGo P o)

def opsC (P : Program) (ops : Array Oper) : List Oper → OW
  | [] => ⟨fun _ _ t h K => K t h⟩
  | o :: rest => ⟨fun call n t h K => (opC P ops o).run call n t h fun t h => (opsC P ops rest).run call n t h K⟩

theorem opGo_eq (P : Program) (o : Oper) (call : CallT) (n : Nat) (t : T Value) (h : AHeap) (K : T Value → AHeap → Bool) :
    (opGo P o).run call n t h K = bif isW P o.op then awrite P call t h o fun v h => putK t n o.dst v fun t => K t h
      else match aread P t h o with | none => false | some v => putK t n o.dst v fun t => K t h := by
  unfold opGo
  cases isW P o.op with
  | true => simp only [cond_true, awriteC_eq, putC_eq]
  | false =>
    simp only [cond_false, areadC_eq]
    unfold readGo
    cases aread P t h o <;> simp only [putC_eq]

theorem opsC_eq (P : Program) (ops : Array Oper) (call : CallT) (n : Nat) (K : T Value → AHeap → Bool) : ∀ (l : List Oper) (t : T Value) (h : AHeap), (opsC P ops l).run call n t h K = runOps P call ops n l t h K
  | [], t, h => rfl
  | o :: rest, t, h => by
    have ih := opsC_eq P ops call n K rest
    simp only [opsC, runOps, ih]
    unfold opC
    cases hg : o.guard with
    | none =>
      simp only [opGo_eq, wantA]
      cases isW P o.op <;> cases aread P t h o <;> rfl
    | some g =>
      simp only [opG, hg, opGo_eq, putC_eq]
      cases wantA t ops (some g) with
      | none => rfl
      | some b => cases b <;> rfl

/-! ## Regions that draw their order -/
def againC (P : Program) (h : AHeap) (pre : Nat) : List Seen → Bool
  | [] => true
  | s :: l =>
    (!(isReadOp s.o.op) || Nat.testBit pre s.i ||
      (match (areadC P s.o).run s.t h with | some v => veq v s.v | none => false)) && againC P h pre l

theorem againC_eq (P : Program) (h : AHeap) (pre : Nat) : ∀ l, againC P h pre l = again P h pre l
  | [] => rfl
  | s :: l => by
    simp only [againC, again, areadC_eq, againC_eq P h pre l]
    cases aread P s.t h s.o <;> rfl

structure DW where
  run : CallT → Nat → List Seen → T Value → AHeap → (T Value → AHeap → Bool) → Bool

def drawR (P : Program) (ops : Array Oper) (a : Info) (next : DW) : DW :=
  ⟨fun call n hist t h K =>
    match wantA t ops a.o.guard with
    | none => false
    | some false => (putC a.o.dst).run n t undef fun t => next.run call n hist t h K
    | some true =>
      match (areadC P a.o).run t h with
      | none => false
      | some v => fV1 v fun v => (putC a.o.dst).run n t v fun t' => next.run call n ({ i := a.i, o := a.o, t := t, v := v } :: hist) t' h K⟩

def drawW (P : Program) (ops : Array Oper) (a : Info) (next : DW) : DW :=
  ⟨fun call n hist t h K =>
    match wantA t ops a.o.guard with
    | none => false
    | some false => (putC a.o.dst).run n t undef fun t => next.run call n hist t h K
    | some true =>
      (awriteC P a.o).run call t h fun v h' => bif againC P h' a.pre hist then
        (putC a.o.dst).run n t v fun t => next.run call n hist t h' K
      else false⟩

def allC : List DW → DW
  | [] => ⟨fun _ _ _ _ _ _ => true⟩
  | a :: l =>
    match l with
    | [] => a
    | b :: r => ⟨fun call n hist t h K => a.run call n hist t h K && (allC (b :: r)).run call n hist t h K⟩

theorem allC_eq {α : Type} (g : α → DW) (call : CallT) (n : Nat) (hist : List Seen) (t : T Value) (h : AHeap) (K : T Value → AHeap → Bool) : ∀ l : List α, (allC (l.map g)).run call n hist t h K = allB l fun a => (g a).run call n hist t h K
  | [] => rfl
  | [a] => rfl
  | a :: b :: r => by
    have := allC_eq g call n hist t h K (b :: r)
    simp only [List.map_cons] at this ⊢
    simp only [allC, allB, this]

def drawC (P : Program) (ops : Array Oper) : Nat → List Info → Nat → DW
  | 0, _, _ => ⟨fun _ _ _ _ _ _ => false⟩
  | Nat.succ f, todo, done =>
    match pickR done todo with
    | some (a, rest) => drawR P ops a (fNat (Nat.lor done (Nat.pow 2 a.i)) fun done => drawC P ops f rest done)
    | none =>
      match wreadies done todo with
      | [] => (match todo with | [] => ⟨fun _ _ _ t h K => K t h⟩ | _ => ⟨fun _ _ _ _ _ _ => false⟩)
      | p :: ps => allC ((p :: ps).map fun ar => drawW P ops ar.1 (fNat (Nat.lor done (Nat.pow 2 ar.1.i)) fun done => drawC P ops f ar.2 done))

theorem drawC_eq (P : Program) (ops : Array Oper) (call : CallT) (n : Nat) (K : T Value → AHeap → Bool) : ∀ (f : Nat) (todo : List Info) (done : Nat) (hist : List Seen) (t : T Value) (h : AHeap),
    (drawC P ops f todo done).run call n hist t h K = drawGo P call ops n f todo done hist t h K
  | 0, _, _, _, _, _ => rfl
  | f + 1, todo, done, hist, t, h => by
    have ih := fun rest d hist t h => drawC_eq P ops call n K f rest d hist t h
    simp only [drawC, drawGo]
    cases pickR done todo with
    | some x =>
      obtain ⟨a, rest⟩ := x
      simp only [drawR, fNat_eq, fV1_eq, putC_eq, areadC_eq, ih]
      cases wantA t ops a.o.guard with
      | none => rfl
      | some b => cases b <;> rfl
    | none =>
      simp only
      cases wreadies done todo with
      | nil => cases todo <;> rfl
      | cons p ps =>
        simp only [allC_eq]
        congr 1
        funext ar
        simp only [drawW, fNat_eq, putC_eq, awriteC_eq, againC_eq, ih]
        cases wantA t ops ar.1.o.guard with
        | none => rfl
        | some b => cases b <;> rfl

def regionC (P : Program) (ops : Array Oper) (draw : Bool) : OW :=
  match draw with
  | true =>
    bif regOk P ops then ⟨fun call n t h K => (drawC P ops (Nat.succ ops.size) (infos P ops) 0).run call n [] t h (joinK (manyW P ops) K)⟩
    else ⟨fun _ _ _ _ _ => false⟩
  | false => opsC P ops ops.toList

theorem regionC_eq (P : Program) (ops : Array Oper) (draw : Bool) (call : CallT) (n : Nat) (t : T Value) (h : AHeap) (K : T Value → AHeap → Bool) : (regionC P ops draw).run call n t h K = runRegion P call ops draw n t h K := by
  cases draw with
  | true =>
    simp only [regionC, runRegion, cond_true]
    cases regOk P ops with
    | true => simp only [cond_true, drawC_eq]
    | false => rfl
  | false => simp only [regionC, runRegion, cond_false, opsC_eq]

/-! ## Code and calls -/
structure CW where
  run : ExT → List Value → AHeap → KV → Bool

def bodyC (P : Program) (fn : Func) (c : Code) : CW :=
  bif fn.name == "runtime.NumGoroutine" then ⟨fun _ _ _ _ => false⟩
  else fNat fn.ntmps fun k => ⟨fun ex args h K => bif Nat.ble args.length k then setArgs args 0 .leaf fun t => ex k none c t h [] (finish P fn K) else false⟩

def callC (P : Program) (g : FuncId) : CW :=
  match P.funcs[g]? with
  | none => ⟨fun _ _ _ _ => false⟩
  | some fn =>
    match fn.body with
    | some c => bodyC P fn c
    | none => ⟨fun ex args h K => callFunc1 P ex g args h K⟩

theorem callC_eq (P : Program) (g : FuncId) (ex : ExT) (args : List Value) (h : AHeap) (K : KV) : (callC P g).run ex args h K = callFunc1 P ex g args h K := by
  unfold callC
  cases hf : P.funcs[g]? with
  | none => simp only [callFunc1, hf]
  | some fn =>
    simp only
    cases hb : fn.body with
    | none => rfl
    | some c =>
      simp only [callFunc1, hf, hb]
      unfold callBody bodyC
      cases (fn.name == "runtime.NumGoroutine") with
      | true => rfl
      | false => simp only [cond_false, fNat_eq]

def callValC (P : Program) (ex : ExT) (f : Value) (args : List Value) (h : AHeap) (K : Value → AHeap → Bool) : Bool :=
  match f with
  | .func (.func g) first captured => (callC P g).run ex (first.toList ++ args ++ captured.toList) h K
  | .func (.yield l) first _ => roundK ex l (first.toList ++ args) h K
  | _ => false

theorem callValC_eq (P : Program) (ex : ExT) : callValC P ex = callVal P ex := by
  funext f args h K
  unfold callValC callVal
  split <;> simp only [callC_eq]

structure XW where
  run : ExT → Nat → Option Nat → T Value → AHeap → List Nat → KT → Bool

def stepC (P : Program) (c : Code) : XW :=
  match c with
  | .skip => ⟨fun _ _ _ t h ds K => K .normal t h ds⟩
  | .region _ ops draw => ⟨fun ex n _ t h ds K => (regionC P ops draw).run (callValC P ex) n t h fun t h => K .normal t h ds⟩
  | .seq a b => ⟨fun ex n rd t h ds K => ex n rd a t h ds fun e t h ds => match e with | .normal => ex n rd b t h ds K | e => K e t h ds⟩
  | .cond x a b => ⟨fun ex n rd t h ds K =>
    match (evC P x).run t with
    | .bool true => ex n rd a t h ds K
    | .bool false => ex n rd b t h ds K
    | _ => false⟩
  | .loop b => ⟨fun ex n rd t h ds K => ex n rd b t h ds fun e t h ds => match e with | .normal => ex n rd (.loop b) t h ds K | e => K e t h ds⟩
  | .exit id => ⟨fun _ _ _ t h ds K => K (.exit id) t h ds⟩
  | .ret => ⟨fun _ _ _ t h ds K => K .ret t h ds⟩
  | c => ⟨fun ex n rd t h ds K => execStep P ex n rd c t h ds K⟩

theorem stepC_eq (P : Program) (c : Code) (ex : ExT) (n : Nat) (rd : Option Nat) (t : T Value) (h : AHeap) (ds : List Nat) (K : KT) : (stepC P c).run ex n rd t h ds K = execStep P ex n rd c t h ds K := by
  cases c with
  | region id ops draw => simp only [stepC, execStep, regionC_eq, callValC_eq]
  | cond x a b =>
    simp only [stepC, execStep, evC_eq]
    rfl
  | _ => rfl

structure EXW where
  run : ExT

def execW (P : Program) : Nat → EXW
  | 0 => ⟨fun _ _ _ _ _ _ _ => false⟩
  | Nat.succ f => ⟨fun n rd c t h ds K => (stepC P c).run (execW P f).run n rd t h ds K⟩

theorem execW_eq (P : Program) : ∀ f, (execW P f).run = exec P f
  | 0 => rfl
  | f + 1 => by
    funext n rd c t h ds K
    simp only [execW, exec, stepC_eq, execW_eq P f]

def trulyC (P : Program) (fuel : Nat) (f : FuncId) (h : AHeap) : Bool :=
  (callC P f).run (execW P fuel).run [] h fun v _ => match v with | .bool b => b | _ => false

theorem trulyC_eq (P : Program) (fuel : Nat) (f : FuncId) (h : AHeap) : trulyC P fuel f h = truly P fuel f h := by
  unfold trulyC truly
  rw [callC_eq, execW_eq]
  rfl

end Go.Ev
