/- Rules by which a region is run by rewriting: one for each operation. -/
import Derived.Test.YtlneoecgbbbahacGreatDoorEv26
namespace Go.Ev
open Go.RowKit

section
variable {P : Program} {call : CallT} {ops : Array Oper} {n : Nat} {rest : List Oper} {t : T Value} {h : AHeap} {KR : T Value → AHeap → Bool} {d : Nat} {ty : TypeId} {pos : String} {af : Array Edge}

/-- Behind an operation whose value is v. -/
def putR (P : Program) (call : CallT) (ops : Array Oper) (n : Nat) (rest : List Oper) (dst : Option Tmp) (t : T Value) (v : Value) (h : AHeap) (KR : T Value → AHeap → Bool) : Bool :=
  putK t n dst v fun t => runOps P call ops n rest t h KR

theorem putR_some (v : Value) (hd : d < n) : putR P call ops n rest (some d) t v h KR = runOps P call ops n rest (T.set (d + 1) t d v) h KR := by
  have : Nat.blt d n = true := by simpa [Nat.blt_eq] using hd
  simp only [putR, putK, this, cond_true, fV1_eq, T.setK_eq]
theorem putR_none (v : Value) : putR P call ops n rest none t v h KR = runOps P call ops n rest t h KR := (rfl)

def optR (o : Option Value) (P : Program) (call : CallT) (ops : Array Oper) (n : Nat) (rest : List Oper) (dst : Option Tmp) (t : T Value) (h : AHeap) (KR : T Value → AHeap → Bool) : Bool :=
  match o with
  | some v => putR P call ops n rest dst t v h KR
  | none => false
theorem optR_some (v : Value) (dst : Option Tmp) : optR (some v) P call ops n rest dst t h KR = putR P call ops n rest dst t v h KR := (rfl)

/-- An operation that writes. -/
def wrR (P : Program) (call : CallT) (ops : Array Oper) (n : Nat) (rest : List Oper) (o : Op) (dst : Option Tmp) (t : T Value) (h : AHeap) (KR : T Value → AHeap → Bool) : Bool :=
  awrite P call t h { dst := dst, op := o, type := 0, pos := "", after := #[], guard := none } fun v h' => putR P call ops n rest dst t v h' KR

def opR (g : Option Bool) (w : Bool) (P : Program) (call : CallT) (ops : Array Oper) (n : Nat) (rest : List Oper) (o : Oper) (t : T Value) (h : AHeap) (KR : T Value → AHeap → Bool) : Bool :=
  match g with
  | none => false
  | some false => putR P call ops n rest o.dst t undef h KR
  | some true => bif w then awrite P call t h o fun v h' => putR P call ops n rest o.dst t v h' KR else optR (aread P t h o) P call ops n rest o.dst t h KR

theorem run_cons (o : Oper) : runOps P call ops n (o :: rest) t h KR = opR (wantA t ops o.guard) (isW P o.op) P call ops n rest o t h KR := by
  simp only [runOps, opR]
  cases wantA t ops o.guard with
  | none => rfl
  | some b =>
    cases b with
    | false => rfl
    | true =>
      cases isW P o.op with
      | true => rfl
      | false => simp only [cond_false]; cases aread P t h o <;> rfl

theorem run_nil : runOps P call ops n [] t h KR = KR t h := (rfl)

theorem want_none : wantA t ops none = some true := (rfl)
theorem opR_read (o : Oper) : opR (some true) false P call ops n rest o t h KR = optR (aread P t h o) P call ops n rest o.dst t h KR := (rfl)
theorem opR_no (w : Bool) (o : Oper) : opR (some false) w P call ops n rest o t h KR = putR P call ops n rest o.dst t undef h KR := (rfl)
theorem opR_write (dst : Option Tmp) (op : Op) (g : Option (Nat × Bool)) : opR (some true) true P call ops n rest ⟨dst, op, ty, pos, af, g⟩ t h KR = wrR P call ops n rest op dst t h KR := by
  simp only [opR, wrR, cond_true]
  cases op <;> rfl

theorem want_some {j : Nat} {w b : Bool} {oj : Oper} (h1 : ops[j]? = some oj) (h2 : oj.dst = some d) (h3 : t.get d = some (.bool b)) : wantA t ops (some (j, w)) = some (beqB b w) := by
  simp only [wantA, h1, h2, h3]

def want1 (o : Option Oper) (t : T Value) (w : Bool) : Option Bool :=
  match o with
  | some oj =>
    match oj.dst with
    | some d =>
      match t.get d with
      | some (.bool b) => some (beqB b w)
      | some (.tuple cs) => bif Nat.beq cs.size 0 then some false else none
      | none => some false
      | _ => none
    | none => none
  | none => none
def want2 (v : Option Value) (w : Bool) : Option Bool :=
  match v with
  | some (.bool b) => some (beqB b w)
  | some (.tuple cs) => bif Nat.beq cs.size 0 then some false else none
  | none => some false
  | _ => none
theorem want_guard {j : Nat} {w : Bool} : wantA t ops (some (j, w)) = want1 (ops[j]?) t w := (rfl)
theorem want1_some {op : Op} {w : Bool} {gd : Option (Nat × Bool)} : want1 (some ⟨some d, op, ty, pos, af, gd⟩) t w = want2 (t.get d) w := (rfl)
theorem want2_bool {b w : Bool} : want2 (some (.bool b)) w = some (beqB b w) := (rfl)
theorem want2_undef {w : Bool} : want2 (some undef) w = some false := (rfl)
theorem beqB_tt : beqB true true = true := (rfl)
theorem beqB_tf : beqB true false = false := (rfl)
theorem beqB_ft : beqB false true = false := (rfl)
theorem beqB_ff : beqB false false = true := (rfl)
theorem seqK_normal {R : ExT} {rd : Option Nat} {b : Code} {K : KT} {ds : List Nat} : seqK R n rd b K .normal t h ds = R n rd b t h ds K := (rfl)
theorem seqK_exit {R : ExT} {rd : Option Nat} {b : Code} {K : KT} {ds : List Nat} {id : Nat} : seqK R n rd b K (.exit id) t h ds = K (.exit id) t h ds := (rfl)
theorem seqK_ret {R : ExT} {rd : Option Nat} {b : Code} {K : KT} {ds : List Nat} : seqK R n rd b K .ret t h ds = K .ret t h ds := (rfl)
theorem blockK_normal {K : KT} {ds : List Nat} {id : Nat} : BlockK id K .normal t h ds = K .normal t h ds := (rfl)
theorem blockK_ret {K : KT} {ds : List Nat} {id : Nat} : BlockK id K .ret t h ds = K .ret t h ds := (rfl)
theorem blockK_exit {K : KT} {ds : List Nat} {id : Nat} : BlockK id K (.exit id) t h ds = K .normal t h ds := by simp [BlockK]
theorem blockK_out {K : KT} {ds : List Nat} {id i : Nat} (hi : i ≠ id) : BlockK id K (.exit i) t h ds = K (.exit i) t h ds := by
  have : Nat.beq i id = false := by cases e : Nat.beq i id with | true => exact absurd (Nat.eq_of_beq_eq_true e) hi | false => rfl
  simp [BlockK, this]
theorem cells_agg (cs : Array Value) : Value.cells (.agg cs) = cs := (rfl)

/-! ## Which operations write -/
variable {x y z : Operand} {a b : TypeId} {k : Nat}
theorem w_move : isW P (.move x) = false := (rfl)
theorem w_assign : isW P (.assign x) = false := (rfl)
theorem w_pick : isW P (.pick x y z) = false := (rfl)
theorem w_load : isW P (.load a x) = false := (rfl)
theorem w_nilCheck : isW P (.nilCheck x) = false := (rfl)
theorem w_fieldAddr : isW P (.fieldAddr a x k) = false := (rfl)
theorem w_field : isW P (.field a x k) = false := (rfl)
theorem w_indexAddr : isW P (.indexAddr a x y) = false := (rfl)
theorem w_index : isW P (.index a x y) = false := (rfl)
theorem w_slice {l u m : Option Operand} : isW P (.slice a x l u m) = false := (rfl)
theorem w_extract : isW P (.extract x k) = false := (rfl)
theorem w_bin {o : BinOp} : isW P (.binOp o a x y b) = false := (rfl)
theorem w_un {o : UnOp} : isW P (.unOp o a x) = false := (rfl)
theorem w_makeFunc {f : Fn} {p q : Array Operand} : isW P (.makeFunc f p q) = false := (rfl)
theorem w_build {p : Array (Nat × Operand)} : isW P (.build a p) = false := (rfl)
theorem w_convert : isW P (.convert a b x) = isDig P a b := (rfl)
theorem w_alloc : isW P (.alloc a) = true := (rfl)
theorem w_box : isW P (.box a x) = true := (rfl)
theorem w_store : isW P (.store a x y) = true := (rfl)
theorem w_call {f : Operand} {as : Array Operand} {ts : Array TypeId} : isW P (.call ⟨.value f, as, ts⟩) = true := (rfl)

/-! ## Operands -/
theorem ev_tmp (i : Nat) : ev P t (.tmp i) = tget t i := (rfl)
theorem ev_int (kd : IntKind) (i : Int) : ev P t (.const (.int kd i)) = .int kd i := (rfl)
theorem ev_bool (i : Bool) : ev P t (.const (.bool i)) = .bool i := (rfl)
theorem ev_str (s : ByteArray) : ev P t (.const (.string s)) = .string s := (rfl)
theorem ev_func (f : FuncId) : ev P t (.func f) = .func (.func f) #[] #[] := (rfl)

theorem tget_ne {f k : Nat} {v : Value} {i : Nat} (h1 : k < f) (h2 : i ≠ k) : tget (T.set f t k v) i = tget t i := by rw [tget_set f t k v h1, if_neg h2]
theorem tget_eq {f k : Nat} {v : Value} (h1 : k < f) : tget (T.set f t k v) k = v := by rw [tget_set f t k v h1, if_pos rfl]
theorem get_ne {α : Type} {t : T α} {f k : Nat} {v : α} {i : Nat} (h1 : k < f) (h2 : i ≠ k) : (T.set f t k v).get i = t.get i := by rw [T.get_set f t k v i h1, if_neg h2]
theorem get_eq {α : Type} {t : T α} {f k : Nat} {v : α} (h1 : k < f) : (T.set f t k v).get k = some v := by rw [T.get_set f t k v k h1, if_pos rfl]

/-! ## Reads -/
variable {dst : Option Tmp} {g : Option (Nat × Bool)}
theorem rd_move : aread P t h ⟨dst, .move x, ty, pos, af, g⟩ = some (ev P t x) := (rfl)
theorem rd_assign : aread P t h ⟨dst, .assign x, ty, pos, af, g⟩ = some (ev P t x) := (rfl)
theorem rd_pick : aread P t h ⟨dst, .pick x y z, ty, pos, af, g⟩ = rPick (ev P t y) (ev P t z) (ev P t x) := (rfl)
theorem rd_load : aread P t h ⟨dst, .load a x, ty, pos, af, g⟩ = rLoad P h a (ev P t x) := (rfl)
theorem rd_nilCheck : aread P t h ⟨dst, .nilCheck x, ty, pos, af, g⟩ = rNilCheck (ev P t x) := (rfl)
theorem rd_fieldAddr : aread P t h ⟨dst, .fieldAddr a x k, ty, pos, af, g⟩ = rFieldAddr P a k (ev P t x) := (rfl)
theorem rd_field : aread P t h ⟨dst, .field a x k, ty, pos, af, g⟩ = rField P a k (ev P t x) := (rfl)
theorem rd_indexAddr : aread P t h ⟨dst, .indexAddr a x y, ty, pos, af, g⟩ = rIndexAddr P a (ev P t x) (ev P t y) := (rfl)
theorem rd_extract : aread P t h ⟨dst, .extract x k, ty, pos, af, g⟩ = rExtract k (ev P t x) := (rfl)
theorem rd_bin {op : BinOp} : aread P t h ⟨dst, .binOp op a x y b, ty, pos, af, g⟩ = rBin P t ⟨dst, .binOp op a x y b, ty, pos, af, g⟩ op a (ev P t y) (ev P t x) := (rfl)
theorem rd_not : aread P t h ⟨dst, .unOp .not a x, ty, pos, af, g⟩ = rUn P t ⟨dst, .unOp .not a x, ty, pos, af, g⟩ .not (ev P t x) := (rfl)
/-- Whatever an operation reads. -/
theorem optR_of {o : Oper} {v : Value} (hr : aread P t h o = some v) (k : putR P call ops n rest dst t v h KR = true) : optR (aread P t h o) P call ops n rest dst t h KR = true := by rw [hr]; exact k
theorem rd_makeFunc {f : FuncId} {p q : Array Operand} : aread P t h ⟨dst, .makeFunc (.func f) p q, ty, pos, af, g⟩ = some (.func (.func f) ⟨evL P t p.toList⟩ ⟨evL P t q.toList⟩) := (rfl)
theorem un_not {o : Oper} {v : Bool} : rUn P t o .not (.bool v) = some (.bool (!v)) := (rfl)

theorem pick_t {u v : Value} : rPick u v (.bool true) = some u := (rfl)
theorem pick_f {u v : Value} : rPick u v (.bool false) = some v := (rfl)
def partO (P : Program) (a : TypeId) (off : Nat) : Option (List Value) → Option Value
  | some c => partL P a c off
  | none => none
theorem partO_some (c : List Value) (off : Nat) : partO P a off (some c) = partL P a c off := (rfl)
theorem cellsOf_some (c : List Value) (f : Nat) (ro : Bool) : cellsOf (some (.cells c f ro)) = some c := (rfl)
theorem load_ptr {B off : Nat} : rLoad P h a (.pointer (some ⟨B, off, none⟩)) = partO P a off (cellsOf (h.bl.get B)) := by
  simp only [rLoad, partO]; cases cellsOf (h.bl.get B) <;> rfl
theorem nilCheck_ptr {q : Addr} : rNilCheck (.pointer (some q)) = some (.pointer (some q)) := (rfl)
theorem extract_tuple {vs : Array Value} : rExtract k (.tuple vs) = vs[k]? := (rfl)
theorem fieldAddr_ptr {B off fo sz : Nat} {ft : TypeId} (h1 : fieldOf P a k = some (fo, ft)) (h2 : sizeB P ft = some (sz + 1)) : rFieldAddr P a k (.pointer (some ⟨B, off, none⟩)) = some (.pointer (some ⟨B, off + fo, none⟩)) := by
  simp only [rFieldAddr, h1, h2]; rfl
theorem indexAddr_arr {B off i len sz : Nat} {e : TypeId} {kd : IntKind} (h1 : arrOf P a = some (len, e)) (h2 : sizeB P e = some sz) (h3 : i < len) : rIndexAddr P a (.pointer (some ⟨B, off, none⟩)) (.int kd (i : Int)) = some (.pointer (some ⟨B, off + i * sz, none⟩)) := by
  have : Nat.blt i len = true := by simpa [Nat.blt_eq] using h3
  show rIndexAddr P a _ (.int kd (.ofNat i)) = _
  simp only [rIndexAddr, h1, rAt, this, cond_true, h2]; rfl

/-! ## Writes -/
/-- The heap behind a new row of cells. -/
def AHeap.add (h : AHeap) (c : List Value) : AHeap := ⟨T.set (h.nx + 1) h.bl h.nx (.cells c h.nx false), h.nx + 1, T.set (h.nx + 1) h.fams h.nx [h.nx]⟩
/-- The heap behind a store into a row that shares its cells with none. -/
def AHeap.upd (h : AHeap) (B : Nat) (c : List Value) (fam : Nat) : AHeap := ⟨T.set (B + 1) h.bl B (.cells c fam false), h.nx, h.fams⟩

theorem newC_add (c : List Value) (K : Nat → AHeap → Bool) : newC h c K = K h.nx (h.add c) := by
  simp only [newC, fL_eq, T.setK_eq, fNat_eq, AHeap.add]

theorem add_nx (c : List Value) : (h.add c).nx = h.nx + 1 := (rfl)
theorem add_eq (c : List Value) : (h.add c).bl.get h.nx = some (.cells c h.nx false) := get_eq (Nat.lt_succ_self _)
theorem add_ne (c : List Value) {B : Nat} (hB : B ≠ h.nx) : (h.add c).bl.get B = h.bl.get B := get_ne (Nat.lt_succ_self _) hB
theorem add_fe (c : List Value) : (h.add c).fams.get h.nx = some [h.nx] := get_eq (Nat.lt_succ_self _)
theorem add_fn (c : List Value) {B : Nat} (hB : B ≠ h.nx) : (h.add c).fams.get B = h.fams.get B := get_ne (Nat.lt_succ_self _) hB
theorem add_get (c : List Value) {B : Nat} : (h.add c).bl.get B = if B = h.nx then some (.cells c h.nx false) else h.bl.get B := T.get_set _ _ _ _ _ (Nat.lt_succ_self _)
theorem add_fget (c : List Value) {B : Nat} : (h.add c).fams.get B = if B = h.nx then some [h.nx] else h.fams.get B := T.get_set _ _ _ _ _ (Nat.lt_succ_self _)
theorem upd_nx (B : Nat) (c : List Value) (fam : Nat) : (h.upd B c fam).nx = h.nx := (rfl)
theorem upd_fams (B : Nat) (c : List Value) (fam : Nat) : (h.upd B c fam).fams = h.fams := (rfl)
theorem upd_eq (B : Nat) (c : List Value) (fam : Nat) : (h.upd B c fam).bl.get B = some (.cells c fam false) := get_eq (Nat.lt_succ_self _)
theorem upd_ne (B : Nat) (c : List Value) (fam : Nat) {A : Nat} (hA : A ≠ B) : (h.upd B c fam).bl.get A = h.bl.get A := get_ne (Nat.lt_succ_self _) hA

theorem wr_alloc {z : Value} (hz : zeroOf P a = some z) : wrR P call ops n rest (.alloc a) dst t h KR = putR P call ops n rest dst t (.pointer (some ⟨h.nx, 0, none⟩)) (h.add z.cells.toList) KR := by
  simp only [wrR, awrite, wAlloc, hz, newC_add, ptrK]
def boxR (v : Value) (P : Program) (call : CallT) (ops : Array Oper) (n : Nat) (rest : List Oper) (dst : Option Tmp) (t : T Value) (h : AHeap) (KR : T Value → AHeap → Bool) : Bool :=
  bif okV v then putR P call ops n rest dst t (.pointer (some ⟨h.nx, 0, none⟩)) (h.add v.cells.toList) KR else false
theorem wr_box : wrR P call ops n rest (.box a x) dst t h KR = boxR (ev P t x) P call ops n rest dst t h KR := by
  simp only [wrR, awrite, wBox, newC_add, ptrK, boxR]
theorem boxR_agg (cs : Array Value) : boxR (.agg cs) P call ops n rest dst t h KR = putR P call ops n rest dst t (.pointer (some ⟨h.nx, 0, none⟩)) (h.add cs.toList) KR := (rfl)
theorem boxR_int (kd : IntKind) (i : Int) : boxR (.int kd i) P call ops n rest dst t h KR = putR P call ops n rest dst t (.pointer (some ⟨h.nx, 0, none⟩)) (h.add [.int kd i]) KR := (rfl)
theorem boxR_str (v : ByteArray) : boxR (.string v) P call ops n rest dst t h KR = putR P call ops n rest dst t (.pointer (some ⟨h.nx, 0, none⟩)) (h.add [.string v]) KR := (rfl)
theorem boxR_func (f : Fn) (p q : Array Value) : boxR (.func f p q) P call ops n rest dst t h KR = putR P call ops n rest dst t (.pointer (some ⟨h.nx, 0, none⟩)) (h.add [.func f p q]) KR := (rfl)

theorem spliceL_eq : ∀ (c : List Value) (off : Nat) (l : List Value), off + l.length ≤ c.length → spliceL c off l = c.take off ++ l ++ c.drop (off + l.length)
  | [], 0, [], _ => rfl
  | _ :: _, 0, [], _ => by simp [spliceL]
  | [], off + 1, _, h => by simp at h
  | [], 0, _ :: _, h => by simp at h
  | x :: c, off + 1, [], h => by simp [spliceL]
  | x :: c, 0, v :: l, h => by
    simp only [spliceL]
    rw [spliceL_eq c 0 l (by simp only [List.length_cons] at h; omega)]
    simp only [List.take_zero, List.nil_append, List.length_cons, Nat.zero_add, List.drop_succ_cons, List.cons_append]
  | x :: c, off + 1, v :: l, h => by
    simp only [spliceL]
    rw [spliceL_eq c off (v :: l) (by simp only [List.length_cons] at h ⊢; omega)]
    simp only [List.take_succ_cons, List.cons_append, List.length_cons]
    rw [show off + 1 + (l.length + 1) = (off + (l.length + 1)) + 1 from by omega, List.drop_succ_cons]

theorem spliceL_one : ∀ (c : List Value) (off : Nat) (v : Value), spliceL c off [v] = c.set off v
  | [], _, _ => by simp [spliceL]
  | x :: c, 0, v => by simp [spliceL]
  | x :: c, off + 1, v => by simp [spliceL, spliceL_one c off v]

/-- A store of one cell. -/
def st1 (o : Option (List Nat)) (P : Program) (call : CallT) (ops : Array Oper) (n : Nat) (rest : List Oper) (dst : Option Tmp) (t : T Value) (h : AHeap) (KR : T Value → AHeap → Bool) (B off : Nat) (v : Value) (c : List Value) (fam : Nat) : Bool :=
  match o with
  | some [_] => bif Nat.blt off c.length then putR P call ops n rest dst t undef (h.upd B (c.set off v) fam) KR else false
  | _ => false
def st0 (o : Option AObj) (P : Program) (call : CallT) (ops : Array Oper) (n : Nat) (rest : List Oper) (dst : Option Tmp) (t : T Value) (h : AHeap) (KR : T Value → AHeap → Bool) (B off : Nat) (v : Value) : Bool :=
  match o with
  | some (.cells c fam false) => st1 (h.fams.get fam) P call ops n rest dst t h KR B off v c fam
  | _ => false
def stR (q v : Value) (P : Program) (call : CallT) (ops : Array Oper) (n : Nat) (rest : List Oper) (dst : Option Tmp) (t : T Value) (h : AHeap) (KR : T Value → AHeap → Bool) : Bool :=
  match q with
  | .pointer (some ⟨B, off, none⟩) => bif okV v && Nat.beq v.cells.size 1 then st0 (h.bl.get B) P call ops n rest dst t h KR B off (v.cells.getD 0 undef) else false
  | _ => false
theorem wr_store (hs : sizeB P a = some 1) (k : stR (ev P t x) (ev P t y) P call ops n rest dst t h KR = true) : wrR P call ops n rest (.store a x y) dst t h KR = true := by
  generalize hq : ev P t x = q at k
  generalize hv : ev P t y = v at k
  unfold stR at k
  split at k
  · rename_i B off
    cases h2 : (okV v && Nat.beq v.cells.size 1) with
    | false => rw [h2] at k; cases k
    | true =>
      rw [h2, cond_true] at k
      simp only [Bool.and_eq_true] at h2
      have hsz := Nat.eq_of_beq_eq_true h2.2
      have hl : v.cells.toList = [v.cells.getD 0 undef] := by
        rcases hcs : v.cells with ⟨l⟩
        rw [hcs] at hsz
        match l, hsz with
        | [u], _ => rfl
      unfold st0 at k
      split at k
      · rename_i c fam hg
        unfold st1 at k
        split at k
        · rename_i k0 hf
          cases hb : Nat.blt off c.length with
          | false => rw [hb] at k; cases k
          | true =>
            rw [hb, cond_true] at k
            have h3 : (okV v && Nat.beq v.cells.size 1) = true := by simp only [Bool.and_eq_true]; exact h2
            have h1 : Nat.ble (Nat.add off ([v.cells.getD 0 undef] : List Value).length) c.length = true := hb
            simp only [wrR, awrite, wStore, hq, hv, hs, h3, cond_true, hl, storeC, hg, storeC1, h1, fSpine_eq, hf, T.setK_eq, spliceL_one]
            exact k
        · cases k
      · cases k
  · cases k
theorem stR_int {B off : Nat} (kd : IntKind) (i : Int) : stR (.pointer (some ⟨B, off, none⟩)) (.int kd i) P call ops n rest dst t h KR = st0 (h.bl.get B) P call ops n rest dst t h KR B off (.int kd i) := (rfl)
theorem stR_bool {B off : Nat} (v : Bool) : stR (.pointer (some ⟨B, off, none⟩)) (.bool v) P call ops n rest dst t h KR = st0 (h.bl.get B) P call ops n rest dst t h KR B off (.bool v) := (rfl)
theorem stR_str {B off : Nat} (v : ByteArray) : stR (.pointer (some ⟨B, off, none⟩)) (.string v) P call ops n rest dst t h KR = st0 (h.bl.get B) P call ops n rest dst t h KR B off (.string v) := (rfl)
theorem st0_some {B off : Nat} {v : Value} {c : List Value} {fam : Nat} : st0 (some (.cells c fam false)) P call ops n rest dst t h KR B off v = st1 (h.fams.get fam) P call ops n rest dst t h KR B off v c fam := (rfl)
theorem st1_some {B off : Nat} {v : Value} {c : List Value} {fam : Nat} (hl : off < c.length) : st1 (some [k]) P call ops n rest dst t h KR B off v c fam = putR P call ops n rest dst t undef (h.upd B (c.set off v) fam) KR := by
  have : Nat.blt off c.length = true := by rw [Nat.blt_eq]; exact hl
  simp only [st1, this, cond_true]

/-- A store of a whole row. -/
theorem wr_storeN {B s : Nat} {c : List Value} {fam : Nat} {l : List Value} (hx : ev P t x = .pointer (some ⟨B, 0, none⟩)) (hy : ev P t y = .agg ⟨l⟩) (hs : sizeB P a = some s) (hne : 0 < s) (hls : l.length = s)
    (hg : h.bl.get B = some (.cells c fam false)) (hf : h.fams.get fam = some [k]) (hl : c.length = s) (kk : putR P call ops n rest dst t undef (h.upd B l fam) KR = true) :
    wrR P call ops n rest (.store a x y) dst t h KR = true := by
  have h2 : (okV (.agg ⟨l⟩) && Nat.beq (Value.cells (.agg ⟨l⟩)).size s) = true := by
    rw [show (Value.cells (.agg ⟨l⟩)).size = l.length from rfl, hls, Nat.beq_refl]; rfl
  have h1 : Nat.ble (Nat.add 0 l.length) c.length = true := Nat.ble_eq_true_of_le (by rw [hl, hls]; show 0 + s ≤ s; omega)
  cases l with
  | nil => simp at hls; omega
  | cons v0 l0 =>
    have hc : (Value.cells (.agg ⟨v0 :: l0⟩)).toList = v0 :: l0 := (rfl)
    have he : spliceL c 0 (v0 :: l0) = v0 :: l0 := by
      rw [spliceL_eq c 0 (v0 :: l0) (by rw [hl, hls]; omega), hls, List.drop_of_length_le (by omega)]
      simp
    simp only [wrR, awrite, wStore, hx, hy, hs, h2, cond_true, hc, storeC, hg, storeC1, h1, fSpine_eq, hf, T.setK_eq, he]
    exact kk

/-- A call whose result is in the table. -/
theorem wr_prim {pr : Prim} {call0 : CallT} {f : Operand} {as : Array Operand} {ts : Array TypeId} {fid : FuncId} {first captured : Array Value} {v : Value} (hf : ev P t f = .func (.func fid) first captured)
    (hp : pr fid (first.toList ++ evL P t as.toList ++ captured.toList) h = some v) (k : putR P (withPrim pr call0) ops n rest dst t v h KR = true) :
    wrR P (withPrim pr call0) ops n rest (.call ⟨.value f, as, ts⟩) dst t h KR = true := by
  simp only [wrR, awrite, wCall, hf, withPrim, hp]
  exact k

/-! ## Numbers -/
theorem leI_eq (i j : Int) : leI i j = decide (i ≤ j) := by
  rw [Bool.eq_iff_iff, decide_eq_true_iff]
  cases i with
  | ofNat i =>
    cases j with
    | ofNat j =>
      show Nat.ble i j = true ↔ (i : Int) ≤ (j : Int)
      rw [Nat.ble_eq]; omega
    | negSucc j => simp only [leI]; constructor <;> intro h <;> first | cases h | (have e : Int.ofNat i = (i : Int) := rfl; rw [e] at h; omega)
  | negSucc i =>
    cases j with
    | ofNat j =>
      simp only [leI]
      refine ⟨fun _ => ?_, fun _ => trivial⟩
      have e : Int.ofNat j = (j : Int) := (rfl)
      rw [e]; omega
    | negSucc j =>
      show Nat.ble j i = true ↔ _
      rw [Nat.ble_eq]; omega

theorem beqI_eq (i j : Int) : beqI i j = decide (i = j) := by
  rw [Bool.eq_iff_iff, decide_eq_true_iff]
  cases i with
  | ofNat i =>
    cases j with
    | ofNat j =>
      show Nat.beq i j = true ↔ (i : Int) = (j : Int)
      rw [Nat.beq_eq]; omega
    | negSucc j => simp [beqI]
  | negSucc i =>
    cases j with
    | ofNat j => simp [beqI]
    | negSucc j =>
      show Nat.beq i j = true ↔ _
      rw [Nat.beq_eq]; omega

theorem wrap64 (i : Int) (h1 : -9223372036854775808 ≤ i) (h2 : i < 9223372036854775808) : wrapF .i64 i = i := by
  cases i with
  | ofNat m =>
    have e : Int.ofNat m = (m : Int) := (rfl)
    have : Nat.blt m 9223372036854775808 = true := by rw [Nat.blt_eq]; rw [e] at h2; omega
    simp only [wrapF, this, cond_true]
  | negSucc m =>
    have : Nat.blt m 9223372036854775808 = true := by rw [Nat.blt_eq]; omega
    simp only [wrapF, this, cond_true]

variable {i j : Int} {o : Oper} {kd : IntKind}
theorem rBin_of {op : BinOp} {v : Value} (h3 : fastBin op kd i j = some v) : rBin P t o op a (.int kd j) (.int kd i) = some v := by
  have hk : beqKind kd kd = true := by cases kd <;> rfl
  simp only [rBin, rBin1, hk, cond_true, h3]
theorem bin_add (h1 : -9223372036854775808 ≤ i + j) (h2 : i + j < 9223372036854775808) : rBin P t o .add a (.int .i64 j) (.int .i64 i) = some (.int .i64 (i + j)) :=
  rBin_of (by simp only [fastBin]; rw [show Int.add i j = i + j from rfl, wrap64 _ h1 h2])
theorem bin_sub (h1 : -9223372036854775808 ≤ i - j) (h2 : i - j < 9223372036854775808) : rBin P t o .sub a (.int .i64 j) (.int .i64 i) = some (.int .i64 (i - j)) :=
  rBin_of (by simp only [fastBin]; rw [show Int.sub i j = i - j from rfl, wrap64 _ h1 h2])
theorem bin_mul (h1 : -9223372036854775808 ≤ i * j) (h2 : i * j < 9223372036854775808) : rBin P t o .mul a (.int .i64 j) (.int .i64 i) = some (.int .i64 (i * j)) :=
  rBin_of (by simp only [fastBin]; rw [show Int.mul i j = i * j from rfl, wrap64 _ h1 h2])
theorem bin_lss : rBin P t o .lss a (.int kd j) (.int kd i) = some (.bool (decide (i < j))) :=
  rBin_of (by simp only [fastBin, leI_eq]; congr 2; by_cases h : j ≤ i <;> simp [h] <;> omega)
theorem bin_leq : rBin P t o .leq a (.int kd j) (.int kd i) = some (.bool (decide (i ≤ j))) := rBin_of (by simp only [fastBin, leI_eq])
theorem bin_gtr : rBin P t o .gtr a (.int kd j) (.int kd i) = some (.bool (decide (j < i))) :=
  rBin_of (by simp only [fastBin, leI_eq]; congr 2; by_cases h : i ≤ j <;> simp [h] <;> omega)
theorem bin_geq : rBin P t o .geq a (.int kd j) (.int kd i) = some (.bool (decide (j ≤ i))) := rBin_of (by simp only [fastBin, leI_eq])
theorem bin_eql : rBin P t o .eql a (.int kd j) (.int kd i) = some (.bool (decide (i = j))) := rBin_of (by simp only [fastBin, beqI_eq])
theorem bin_neq : rBin P t o .neq a (.int kd j) (.int kd i) = some (.bool (!decide (i = j))) := rBin_of (by simp only [fastBin, beqI_eq])

/-! ## Operations by the model's own text -/
theorem eqGuard_free {op : BinOp} {x' y' : Operand} {u v : Value} (hn : ∀ q, u ≠ q ∨ q ≠ .nilIface) : eqGuard op a x y u v = eqGuard op a x' y' u v := by
  unfold eqGuard
  cases u <;> cases v <;> first | rfl | (exact absurd (hn .nilIface) (by simp))

theorem optR_of' {o : Option Value} {v : Value} (hr : o = some v) (k : putR P call ops n rest dst t v h KR = true) : optR o P call ops n rest dst t h KR = true := by rw [hr]; exact k
theorem rd_bin_const {op : BinOp} {u v r : Value} (hx : ev P t x = u) (hy : ev P t y = v) (hu : plainB u = true) (hv : plainB v = true) (hn : ∀ q, u ≠ q ∨ q ≠ .nilIface)
    (hr : aread P .leaf ⟨.leaf, 0, .leaf⟩ ⟨none, .binOp op a (.const u) (.const v) b, 0, "", #[], none⟩ = some r) : aread P t h ⟨dst, .binOp op a x y b, ty, pos, af, g⟩ = some r := by
  have hu' : ev P (.leaf) (.const u) = u := by simp only [ev, hu, cond_true]
  have hv' : ev P (.leaf) (.const v) = v := by simp only [ev, hv, cond_true]
  have hg : ∀ o o' : Oper, o.op = .binOp op a x y b → o'.op = .binOp op a (.const u) (.const v) b → ground P t o = ground P .leaf o' := by
    intro o o' ho ho'
    unfold ground
    rw [ho, ho']
    have e1 : evL P t (Op.operands (.binOp op a x y b)).toList = [u, v] := by simp only [Op.operands, evL, hx, hy]
    have e2 : evL P .leaf (Op.operands (.binOp op a (.const u) (.const v) b)).toList = [u, v] := by simp only [Op.operands, evL, hu', hv']
    have e3 : execOp (ev P t) o = execOp (ev P .leaf) o' := by
      simp only [execOp, ho, ho', hx, hy, hu', hv']
      rw [eqGuard_free (x := x) (y := y) (x' := .const u) (y' := .const v) hn]
    rw [e1, e2, e3]
  rw [← hr]
  have e := hg ⟨dst, .binOp op a x y b, ty, pos, af, g⟩ ⟨none, .binOp op a (.const u) (.const v) b, 0, "", #[], none⟩ rfl rfl
  simp only [aread, hx, hy, hu', hv']
  unfold rBin rBin1 rBin2
  rw [e]

theorem optR_bin {op : BinOp} {u v r : Value} {dst' : Option Tmp} (hx : ev P t x = u) (hy : ev P t y = v) (hu : plainB u = true) (hv : plainB v = true) (hn : ∀ q, u ≠ q ∨ q ≠ .nilIface)
    (hr : aread P .leaf ⟨.leaf, 0, .leaf⟩ ⟨none, .binOp op a (.const u) (.const v) b, 0, "", #[], none⟩ = some r) (k : putR P call ops n rest dst t r h KR = true) :
    optR (rBin P t ⟨dst', .binOp op a x y b, ty, pos, af, g⟩ op a v u) P call ops n rest dst t h KR = true := by
  have e := rd_bin_const (dst := dst') (ty := ty) (pos := pos) (af := af) (g := g) (h := h) hx hy hu hv hn hr
  rw [rd_bin, hx, hy] at e
  rw [e]
  exact k

/-- A call of a function that is run itself. -/
theorem wr_inline {R : ExT} {pr : Prim} {f : Operand} {as : Array Operand} {ts : Array TypeId} {fid : FuncId} {first captured : Array Value} {fn : Func} {c : Code} (hf : ev P t f = .func (.func fid) first captured)
    (hp : pr fid (first.toList ++ evL P t as.toList ++ captured.toList) h = none) (hfn : P.funcs[fid]? = some fn) (hb : fn.body = some c) (hname : (fn.name == "runtime.NumGoroutine") = false) (hlen : Nat.ble (first.toList ++ evL P t as.toList ++ captured.toList).length fn.ntmps = true)
    (k : R fn.ntmps none c (argsT (first.toList ++ evL P t as.toList ++ captured.toList)) h [] (finish P fn fun v h' => putR P (withPrim pr (callVal P R)) ops n rest dst t v h' KR) = true) :
    wrR P (withPrim pr (callVal P R)) ops n rest (.call ⟨.value f, as, ts⟩) dst t h KR = true := by
  simp only [wrR, awrite, wCall, hf, withPrim, hp, callVal, callFunc1, hfn, hb, callBody, hname, cond_false, hlen, cond_true]
  rw [setArgs_id]
  exact k

theorem rd_slice {l u : Option Operand} : aread P t h ⟨dst, .slice a x l u none, ty, pos, af, g⟩ = rSlice P t h ⟨dst, .slice a x l u none, ty, pos, af, g⟩ a l u (ev P t x) := (rfl)
theorem indexAddr_sl {B off i len cap sz : Nat} {e : TypeId} {kd : IntKind} (h1 : slOf P a = some e) (h2 : sizeB P e = some sz) (h3 : i < len) : rIndexAddr P a (.slice (some ⟨B, off, none⟩) len cap) (.int kd (i : Int)) = some (.pointer (some ⟨B, off + i * sz, none⟩)) := by
  have : Nat.blt i len = true := by simpa [Nat.blt_eq] using h3
  show rIndexAddr P a _ (.int kd (.ofNat i)) = _
  simp only [rIndexAddr, h1, rAt, this, cond_true, h2]; rfl
theorem w_len {as : Array Operand} {ts : Array TypeId} : isW P (.call ⟨.builtin .len, as, ts⟩) = false := (rfl)
theorem rd_len : aread P t h ⟨dst, .call ⟨.builtin .len, #[x], #[a]⟩, ty, pos, af, g⟩ = rLen P t h ⟨dst, .call ⟨.builtin .len, #[x], #[a]⟩, ty, pos, af, g⟩ a (ev P t x) := (rfl)
theorem len_sl {q : Option Addr} {len cap : Nat} {o : Oper} (hs : isSlTy P a = true) : rLen P t h o a (.slice q len cap) = some (.int .i64 (len : Int)) := by simp only [rLen, hs, cond_true]; rfl
theorem rd_build {p : Array (Nat × Operand)} : aread P t h ⟨dst, .build a p, ty, pos, af, g⟩ = rBuild P a (p.toList.map fun q => (q.1, ev P t q.2)) := (rfl)
theorem evL_cons {l : List Operand} : evL P t (x :: l) = ev P t x :: evL P t l := (rfl)
theorem evL_nil : evL P t [] = [] := (rfl)
end

/-! ## Rows of a table -/
def RowOk (P : Program) (g : FuncId) (l : List Value) (v : Value) : Prop :=
  plainL l = true ∧ plainB v = true ∧ (∃ fn c, P.funcs[g]? = some fn ∧ fn.body = some c ∧ (fn.name == "runtime.NumGoroutine") = false) ∧
    ∀ w : World, P.globals.size ≤ w.heap.size → Calls P g l.toArray w fun e w' => e = .returned v ∧ Below w.heap.size w w'

theorem row_of {P : Program} (hmix : P.follows .mixedOrders = true) {pr : Prim} (hp : PrimSound P pr) {g : FuncId} {fn : Func} {c : Code} (hf : P.funcs[g]? = some fn) (hb : fn.body = some c) (hname : (fn.name == "runtime.NumGoroutine") = false)
    {args : List Value} {v : Value} (hpl : plainL args = true) (hlen : Nat.ble args.length fn.ntmps = true) (hv : plainB v = true)
    (run : ∀ R : ExT, Ev.Steps P pr R → ∀ K : KV, (∀ h, K v h = true) → R fn.ntmps none c (argsT args) ⟨.leaf, P.globals.size, .leaf⟩ [] (finish P fn K) = true) : RowOk P g args v := by
  refine ⟨hpl, hv, ⟨fn, c, hf, hb, hname⟩, fun w hw => ?_⟩
  refine (calls_of (Post := fun u => u = v) hf hb hname hpl hlen (fun u e => e ▸ hv) (run (exA P) (steps_exA hmix hp) _ fun h => @decide_eq_true _ (Classical.propDecidable _) rfl) hw).mono ?_
  rintro e w' ⟨u, rfl, rfl, hB⟩
  exact ⟨rfl, hB⟩

def noPrim : Prim := fun _ _ _ => none
theorem noPrim_sound (P : Program) : PrimSound P noPrim := fun _ _ _ _ e => by cases e

theorem RowOk.prim {P : Program} {g : FuncId} {l : List Value} {v : Value} (k : RowOk P g l v) (h : AHeap) : plainB v = true ∧ (∃ fn c, P.funcs[g]? = some fn ∧ fn.body = some c ∧ (fn.name == "runtime.NumGoroutine") = false) ∧
    ∀ (m : M) (w0 w : World) (l' : List Value), WR P m w0 h w → LR m l l' → Calls P g l'.toArray w fun e w' => e = .returned v ∧ Below w.heap.size w w' := by
  obtain ⟨k1, k2, k3, k4⟩ := k
  refine ⟨k2, k3, fun m w0 w l' hW hl => ?_⟩
  have := plainL_eq _ _ k1 hl
  subst this
  exact k4 w (wr_globals hW)

/-- A list of booleans. -/
def bools : List Value → Option (List Bool)
  | [] => some []
  | .bool b :: l => (match bools l with | some r => some (b :: r) | none => none)
  | _ => none
theorem bools_eq : ∀ (vs : List Value) (l : List Bool), bools vs = some l → vs = l.map .bool
  | [], l, e => by simp only [bools, Option.some.injEq] at e; subst e; rfl
  | v :: vs, l, e => by
    unfold bools at e
    split at e
    · rename_i h; cases h
    · rename_i b r h
      cases h
      split at e
      · rename_i r hr
        cases e
        rw [bools_eq vs r hr]; rfl
      · cases e
    · cases e
theorem plainL_bools : ∀ l : List Bool, plainL (l.map .bool) = true
  | [] => rfl
  | b :: l => by simp only [List.map_cons, plainL, plainL_bools l]; rfl
theorem oneL_bools : ∀ l : List Bool, oneL (l.map .bool) = true
  | [] => rfl
  | b :: l => by simp only [List.map_cons, oneL, oneL_bools l]; rfl
theorem plain_bools (l : List Bool) : plainB (.agg ⟨l.map .bool⟩) = true := by
  simp only [plainB, plainA, oneA, plainL_bools, oneL_bools]; rfl
end Go.Ev
