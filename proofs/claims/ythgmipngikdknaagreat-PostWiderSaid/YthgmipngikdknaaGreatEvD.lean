import Derived.Test.YthgmipngikdknaaGreatEvC
import Derived.Orders
import Derived.ChangeArms
import Derived.ChangeSlices
import Derived.ChangeStays
import Derived.ChangeOld
import Derived.ChangeShapes
import Derived.Below
/- Rules by which a region is run by rewriting: one for each operation. -/
namespace Go.Ev
open Go.RowKit

section
variable {P:Program} {call:CallT} {ops:Array Oper} {n:Nat} {rest:List Oper} {t:T Value} {h:AHeap} {KR:T Value → AHeap → Bool} {d:Nat} {ty:TypeId} {pos:String} {af:Array Edge}

/-- Behind an operation whose value is v. -/
def jA (P:Program) (call:CallT) (ops:Array Oper) (n:Nat) (rest:List Oper) (dst:Option Tmp) (t:T Value) (v:Value) (h:AHeap) (KR:T Value → AHeap → Bool):Bool:=
 iV t n dst v fun t=>jP P call ops n rest t h KR

theorem putR_some (v:Value) (hd:d < n):jA P call ops n rest (some d) t v h KR = jP P call ops n rest (T.set (d + 1) t d v) h KR:=by
 have:Nat.blt d n = true:=by simpa [Nat.blt_eq] using hd
 simp only [jA,iV,this,cond_true,aZ,T.setK_eq]
theorem putR_none (v:Value):jA P call ops n rest none t v h KR = jP P call ops n rest t h KR:=(rfl)

def optR (o:Option Value) (P:Program) (call:CallT) (ops:Array Oper) (n:Nat) (rest:List Oper) (dst:Option Tmp) (t:T Value) (h:AHeap) (KR:T Value → AHeap → Bool):Bool:=
 match o with
 | some v=>jA P call ops n rest dst t v h KR
 | none=>false
theorem optR_some (v:Value) (dst:Option Tmp):optR (some v) P call ops n rest dst t h KR = jA P call ops n rest dst t v h KR:=(rfl)

/-- An operation that writes. -/
def wrR (P:Program) (call:CallT) (ops:Array Oper) (n:Nat) (rest:List Oper) (o:Op) (dst:Option Tmp) (t:T Value) (h:AHeap) (KR:T Value → AHeap → Bool):Bool:=
 bI P call t h { dst:=dst,op:=o,type:=0,pos:= "",after:=#[],guard:=none } fun v h'=>jA P call ops n rest dst t v h' KR

def opR (g:Option Bool) (w:Bool) (P:Program) (call:CallT) (ops:Array Oper) (n:Nat) (rest:List Oper) (o:Oper) (t:T Value) (h:AHeap) (KR:T Value → AHeap → Bool):Bool:=
 match g with
 | none=>false
 | some false=>jA P call ops n rest o.dst t undef h KR
 | some true=>bif w then bI P call t h o fun v h'=>jA P call ops n rest o.dst t v h' KR else optR (dE P t h o) P call ops n rest o.dst t h KR

theorem run_cons (o:Oper):jP P call ops n (o :: rest) t h KR = opR (fB t ops o.guard) (isW P o.op) P call ops n rest o t h KR:=by
 simp only [jP,opR]
 cases fB t ops o.guard with
 | none=>rfl
 | some b =>
  cases b with
  | false=>rfl
  | true =>
   cases isW P o.op with
   | true=>rfl
   | false=>simp only [cond_false]; cases dE P t h o<;>rfl

theorem run_nil:jP P call ops n [] t h KR = KR t h:=(rfl)

theorem want_none:fB t ops none = some true:=(rfl)
theorem opR_read (o:Oper):opR (some true) false P call ops n rest o t h KR = optR (dE P t h o) P call ops n rest o.dst t h KR:=(rfl)
theorem opR_no (w:Bool) (o:Oper):opR (some false) w P call ops n rest o t h KR = jA P call ops n rest o.dst t undef h KR:=(rfl)
theorem opR_write (dst:Option Tmp) (op:Op) (g:Option (Nat × Bool)):opR (some true) true P call ops n rest ⟨dst,op,ty,pos,af,g⟩ t h KR = wrR P call ops n rest op dst t h KR:=by
 simp only [opR,wrR,cond_true]
 cases op<;>rfl

def want1 (o:Option Oper) (t:T Value) (w:Bool):Option Bool:=
 match o with
 | some oj =>
  match oj.dst with
  | some d =>
   match t.get d with
   | some (.bool b)=>some (beqB b w)
   | some (.tuple cs)=>bif Nat.beq cs.size 0 then some false else none
   | none=>some false
   | _=>none
  | none=>none
 | none=>none
def want2 (v:Option Value) (w:Bool):Option Bool:=
 match v with
 | some (.bool b)=>some (beqB b w)
 | some (.tuple cs)=>bif Nat.beq cs.size 0 then some false else none
 | none=>some false
 | _=>none
theorem want_guard {j:Nat} {w:Bool}:fB t ops (some (j,w)) = want1 (ops[j]?) t w:=(rfl)
theorem want1_some {op:Op} {w:Bool} {gd:Option (Nat × Bool)}:want1 (some ⟨some d,op,ty,pos,af,gd⟩) t w = want2 (t.get d) w:=(rfl)
theorem want2_bool {b w:Bool}:want2 (some (.bool b)) w = some (beqB b w):=(rfl)
theorem want2_undef {w:Bool}:want2 (some undef) w = some false:=(rfl)
theorem beqB_tt:beqB true true = true:=(rfl)
theorem beqB_tf:beqB true false = false:=(rfl)
theorem beqB_ft:beqB false true = false:=(rfl)
theorem beqB_ff:beqB false false = true:=(rfl)
theorem fM {R:ExT} {rd:Option Nat} {b:Code} {K:KT} {ds:List Nat}:seqK R n rd b K .normal t h ds = R n rd b t h ds K:=(rfl)
theorem uQ {R:ExT} {rd:Option Nat} {b:Code} {K:KT} {ds:List Nat} {id:Nat}:seqK R n rd b K (.exit id) t h ds = K (.exit id) t h ds:=(rfl)
theorem aJ {R:ExT} {rd:Option Nat} {b:Code} {K:KT} {ds:List Nat}:seqK R n rd b K .ret t h ds = K .ret t h ds:=(rfl)
theorem jR {K:KT} {ds:List Nat} {id:Nat}:wG id K .normal t h ds = K .normal t h ds:=(rfl)
theorem aF {K:KT} {ds:List Nat} {id:Nat}:wG id K .ret t h ds = K .ret t h ds:=(rfl)
theorem blockK_exit {K:KT} {ds:List Nat} {id:Nat}:wG id K (.exit id) t h ds = K .normal t h ds:=by simp [wG]
theorem qW {K:KT} {ds:List Nat} {id i:Nat} (hi:i ≠ id):wG id K (.exit i) t h ds = K (.exit i) t h ds:=by
 have:Nat.beq i id = false:=by cases e:Nat.beq i id with|true=>exact absurd (Nat.eq_of_beq_eq_true e) hi|false=>rfl
 simp [wG,this]
theorem cells_agg (cs:Array Value):Value.cells (.agg cs) = cs:=(rfl)

/-! ## Which operations write -/
variable {x y z:Operand} {a b:TypeId} {k:Nat}
theorem w_move:isW P (.move x) = false:=(rfl)
theorem w_assign:isW P (.assign x) = false:=(rfl)
theorem w_pick:isW P (.pick x y z) = false:=(rfl)
theorem w_load:isW P (.load a x) = false:=(rfl)
theorem w_nilCheck:isW P (.nilCheck x) = false:=(rfl)
theorem w_fieldAddr:isW P (.fieldAddr a x k) = false:=(rfl)
theorem w_field:isW P (.field a x k) = false:=(rfl)
theorem w_indexAddr:isW P (.indexAddr a x y) = false:=(rfl)
theorem w_index:isW P (.index a x y) = false:=(rfl)
theorem w_slice {l u m:Option Operand}:isW P (.slice a x l u m) = false:=(rfl)
theorem w_extract:isW P (.extract x k) = false:=(rfl)
theorem w_bin {o:BinOp}:isW P (.binOp o a x y b) = false:=(rfl)
theorem w_un {o:UnOp}:isW P (.unOp o a x) = false:=(rfl)
theorem w_makeFunc {f:Fn} {p q:Array Operand}:isW P (.makeFunc f p q) = false:=(rfl)
theorem w_build {p:Array (Nat × Operand)}:isW P (.build a p) = false:=(rfl)
theorem w_convert:isW P (.convert a b x) = isDig P a b:=(rfl)
theorem w_alloc:isW P (.alloc a) = true:=(rfl)
theorem w_box:isW P (.box a x) = true:=(rfl)
theorem w_store:isW P (.store a x y) = true:=(rfl)
theorem w_call {f:Operand} {as:Array Operand} {ts:Array TypeId}:isW P (.call ⟨.value f,as,ts⟩) = true:=(rfl)

/-! ## Operands -/
theorem aY (i:Nat):ev P t (.tmp i) = tget t i:=(rfl)
theorem ev_int (kd:IntKind) (i:Int):ev P t (.const (.int kd i)) = .int kd i:=(rfl)
theorem ev_bool (i:Bool):ev P t (.const (.bool i)) = .bool i:=(rfl)
theorem ev_str (s:ByteArray):ev P t (.const (.string s)) = .string s:=(rfl)
theorem ev_func (f:FuncId):ev P t (.func f) = .func (.func f) #[] #[]:=(rfl)

theorem aS {f k:Nat} {v:Value} {i:Nat} (h1:k < f) (h2:i ≠ k):tget (T.set f t k v) i = tget t i:=by rw [wS f t k v h1,if_neg h2]
theorem aT {f k:Nat} {v:Value} (h1:k < f):tget (T.set f t k v) k = v:=by rw [wS f t k v h1,if_pos rfl]
theorem aQ {α:Type} {t:T α} {f k:Nat} {v:α} {i:Nat} (h1:k < f) (h2:i ≠ k):(T.set f t k v).get i = t.get i:=by rw [T.get_set f t k v i h1,if_neg h2]
theorem aU {α:Type} {t:T α} {f k:Nat} {v:α} (h1:k < f):(T.set f t k v).get k = some v:=by rw [T.get_set f t k v k h1,if_pos rfl]

/-! ## Reads -/
variable {dst:Option Tmp} {g:Option (Nat × Bool)}
theorem rd_move:dE P t h ⟨dst,.move x,ty,pos,af,g⟩ = some (ev P t x):=(rfl)
theorem rd_assign:dE P t h ⟨dst,.assign x,ty,pos,af,g⟩ = some (ev P t x):=(rfl)
theorem rd_pick:dE P t h ⟨dst,.pick x y z,ty,pos,af,g⟩ = rPick (ev P t y) (ev P t z) (ev P t x):=(rfl)
theorem rd_load:dE P t h ⟨dst,.load a x,ty,pos,af,g⟩ = rLoad P h a (ev P t x):=(rfl)
theorem rd_nilCheck:dE P t h ⟨dst,.nilCheck x,ty,pos,af,g⟩ = rNilCheck (ev P t x):=(rfl)
theorem rd_fieldAddr:dE P t h ⟨dst,.fieldAddr a x k,ty,pos,af,g⟩ = fQ P a k (ev P t x):=(rfl)
theorem rd_field:dE P t h ⟨dst,.field a x k,ty,pos,af,g⟩ = rField P a k (ev P t x):=(rfl)
theorem rd_indexAddr:dE P t h ⟨dst,.indexAddr a x y,ty,pos,af,g⟩ = bY P a (ev P t x) (ev P t y):=(rfl)
theorem rd_extract:dE P t h ⟨dst,.extract x k,ty,pos,af,g⟩ = pG k (ev P t x):=(rfl)
theorem rd_bin {op:BinOp}:dE P t h ⟨dst,.binOp op a x y b,ty,pos,af,g⟩ = nV P t ⟨dst,.binOp op a x y b,ty,pos,af,g⟩ op a (ev P t y) (ev P t x):=(rfl)
theorem rd_not:dE P t h ⟨dst,.unOp .not a x,ty,pos,af,g⟩ = rUn P t ⟨dst,.unOp .not a x,ty,pos,af,g⟩ .not (ev P t x):=(rfl)
theorem rd_makeFunc {f:FuncId} {p q:Array Operand}:dE P t h ⟨dst,.makeFunc (.func f) p q,ty,pos,af,g⟩ = some (.func (.func f) ⟨evL P t p.toList⟩ ⟨evL P t q.toList⟩):=(rfl)
theorem dX {o:Oper} {v:Bool}:rUn P t o .not (.bool v) = some (.bool (!v)):=(rfl)

theorem pick_t {u v:Value}:rPick u v (.bool true) = some u:=(rfl)
theorem pick_f {u v:Value}:rPick u v (.bool false) = some v:=(rfl)
def partO (P:Program) (a:TypeId) (off:Nat):Option (List Value) → Option Value
 | some c=>dD P a c off
 | none=>none
theorem partO_some (c:List Value) (off:Nat):partO P a off (some c) = dD P a c off:=(rfl)
theorem xE (c:List Value) (f:Nat) (ro:Bool):cellsOf (some (.cells c f ro)) = some c:=(rfl)
theorem load_ptr {B off:Nat}:rLoad P h a (.pointer (some ⟨B,off,none⟩)) = partO P a off (cellsOf (h.bl.get B)):=by
 simp only [rLoad,partO]; cases cellsOf (h.bl.get B)<;>rfl
theorem xF {q:Addr}:rNilCheck (.pointer (some q)) = some (.pointer (some q)):=(rfl)
theorem dP {vs:Array Value}:pG k (.tuple vs) = vs[k]?:=(rfl)
theorem aC {B off fo sz:Nat} {ft:TypeId} (h1:bZ P a k = some (fo,ft)) (h2:bH P ft = some (sz + 1)):fQ P a k (.pointer (some ⟨B,off,none⟩)) = some (.pointer (some ⟨B,off + fo,none⟩)):=by
 simp only [fQ,h1,h2]; rfl
theorem oZ {B off i len sz:Nat} {e:TypeId} {kd:IntKind} (h1:arrOf P a = some (len,e)) (h2:bH P e = some sz) (h3:i < len):bY P a (.pointer (some ⟨B,off,none⟩)) (.int kd (i:Int)) = some (.pointer (some ⟨B,off + i * sz,none⟩)):=by
 have:Nat.blt i len = true:=by simpa [Nat.blt_eq] using h3
 show bY P a _ (.int kd (.ofNat i)) = _
 simp only [bY,h1,rAt,this,cond_true,h2]; rfl

/-! ## Writes -/
/-- The heap behind a new row of cells. -/
def AHeap.add (h:AHeap) (c:List Value):AHeap:=⟨T.set (h.nx + 1) h.bl h.nx (.cells c h.nx false),h.nx + 1,T.set (h.nx + 1) h.fams h.nx [h.nx]⟩
/-- The heap behind a store into a row that shares its cells with none. -/
def AHeap.upd (h:AHeap) (B:Nat) (c:List Value) (fam:Nat):AHeap:=⟨T.set (B + 1) h.bl B (.cells c fam false),h.nx,h.fams⟩

theorem kV (c:List Value) (K:Nat → AHeap → Bool):newC h c K = K h.nx (h.add c):=by
 simp only [newC,fL_eq,T.setK_eq,bP,AHeap.add]

theorem aA (c:List Value):(h.add c).nx = h.nx + 1:=(rfl)
theorem add_eq (c:List Value):(h.add c).bl.get h.nx = some (.cells c h.nx false):=aU (Nat.lt_succ_self _)
theorem add_ne (c:List Value) {B:Nat} (hB:B ≠ h.nx):(h.add c).bl.get B = h.bl.get B:=aQ (Nat.lt_succ_self _) hB
theorem add_fe (c:List Value):(h.add c).fams.get h.nx = some [h.nx]:=aU (Nat.lt_succ_self _)
theorem add_fn (c:List Value) {B:Nat} (hB:B ≠ h.nx):(h.add c).fams.get B = h.fams.get B:=aQ (Nat.lt_succ_self _) hB
theorem aB (B:Nat) (c:List Value) (fam:Nat):(h.upd B c fam).nx = h.nx:=(rfl)
theorem bM (B:Nat) (c:List Value) (fam:Nat):(h.upd B c fam).fams = h.fams:=(rfl)
theorem aO (B:Nat) (c:List Value) (fam:Nat):(h.upd B c fam).bl.get B = some (.cells c fam false):=aU (Nat.lt_succ_self _)
theorem upd_ne (B:Nat) (c:List Value) (fam:Nat) {A:Nat} (hA:A ≠ B):(h.upd B c fam).bl.get A = h.bl.get A:=aQ (Nat.lt_succ_self _) hA

theorem cO {z:Value} (hz:zeroOf P a = some z):wrR P call ops n rest (.alloc a) dst t h KR = jA P call ops n rest dst t (.pointer (some ⟨h.nx,0,none⟩)) (h.add z.cells.toList) KR:=by
 simp only [wrR,bI,wAlloc,hz,kV,ptrK]
def boxR (v:Value) (P:Program) (call:CallT) (ops:Array Oper) (n:Nat) (rest:List Oper) (dst:Option Tmp) (t:T Value) (h:AHeap) (KR:T Value → AHeap → Bool):Bool:=
 bif okV v then jA P call ops n rest dst t (.pointer (some ⟨h.nx,0,none⟩)) (h.add v.cells.toList) KR else false
theorem wr_box:wrR P call ops n rest (.box a x) dst t h KR = boxR (ev P t x) P call ops n rest dst t h KR:=by
 simp only [wrR,bI,wBox,kV,ptrK,boxR]
theorem boxR_agg (cs:Array Value):boxR (.agg cs) P call ops n rest dst t h KR = jA P call ops n rest dst t (.pointer (some ⟨h.nx,0,none⟩)) (h.add cs.toList) KR:=(rfl)
theorem boxR_int (kd:IntKind) (i:Int):boxR (.int kd i) P call ops n rest dst t h KR = jA P call ops n rest dst t (.pointer (some ⟨h.nx,0,none⟩)) (h.add [.int kd i]) KR:=(rfl)
theorem boxR_str (v:ByteArray):boxR (.string v) P call ops n rest dst t h KR = jA P call ops n rest dst t (.pointer (some ⟨h.nx,0,none⟩)) (h.add [.string v]) KR:=(rfl)
theorem boxR_func (f:Fn) (p q:Array Value):boxR (.func f p q) P call ops n rest dst t h KR = jA P call ops n rest dst t (.pointer (some ⟨h.nx,0,none⟩)) (h.add [.func f p q]) KR:=(rfl)

theorem spliceL_eq:∀ (c:List Value) (off:Nat) (l:List Value),off + l.length ≤ c.length → spliceL c off l = c.take off ++ l ++ c.drop (off + l.length)
 | [],0,[],_=>rfl
 | _ :: _,0,[],_=>by simp [spliceL]
 | [],off + 1,_,h=>by simp at h
 | [],0,_ :: _,h=>by simp at h
 | x :: c,off + 1,[],h=>by simp [spliceL]
 | x :: c,0,v :: l,h=>by
  simp only [spliceL]
  rw [spliceL_eq c 0 l (by simp only [List.length_cons] at h; omega)]
  simp only [List.take_zero,List.nil_append,List.length_cons,Nat.zero_add,List.drop_succ_cons,List.cons_append]
 | x :: c,off + 1,v :: l,h=>by
  simp only [spliceL]
  rw [spliceL_eq c off (v :: l) (by simp only [List.length_cons] at h ⊢; omega)]
  simp only [List.take_succ_cons,List.cons_append,List.length_cons]
  rw [show off + 1 + (l.length + 1) = (off + (l.length + 1)) + 1 from by omega,List.drop_succ_cons]

theorem spliceL_one:∀ (c:List Value) (off:Nat) (v:Value),spliceL c off [v] = c.set off v
 | [],_,_=>by simp [spliceL]
 | x :: c,0,v=>by simp [spliceL]
 | x :: c,off + 1,v=>by simp [spliceL,spliceL_one c off v]

/-- A store of one cell. -/
def st1 (o:Option (List Nat)) (P:Program) (call:CallT) (ops:Array Oper) (n:Nat) (rest:List Oper) (dst:Option Tmp) (t:T Value) (h:AHeap) (KR:T Value → AHeap → Bool) (B off:Nat) (v:Value) (c:List Value) (fam:Nat):Bool:=
 match o with
 | some [_]=>bif Nat.blt off c.length then jA P call ops n rest dst t undef (h.upd B (c.set off v) fam) KR else false
 | _=>false
def st0 (o:Option AObj) (P:Program) (call:CallT) (ops:Array Oper) (n:Nat) (rest:List Oper) (dst:Option Tmp) (t:T Value) (h:AHeap) (KR:T Value → AHeap → Bool) (B off:Nat) (v:Value):Bool:=
 match o with
 | some (.cells c fam false)=>st1 (h.fams.get fam) P call ops n rest dst t h KR B off v c fam
 | _=>false
def stR (q v:Value) (P:Program) (call:CallT) (ops:Array Oper) (n:Nat) (rest:List Oper) (dst:Option Tmp) (t:T Value) (h:AHeap) (KR:T Value → AHeap → Bool):Bool:=
 match q with
 | .pointer (some ⟨B,off,none⟩)=>bif okV v && Nat.beq v.cells.size 1 then st0 (h.bl.get B) P call ops n rest dst t h KR B off (v.cells.getD 0 undef) else false
 | _=>false
theorem mP (hs:bH P a = some 1) (k:stR (ev P t x) (ev P t y) P call ops n rest dst t h KR = true):wrR P call ops n rest (.store a x y) dst t h KR = true:=by
 generalize hq:ev P t x = q at k
 generalize hv:ev P t y = v at k
 unfold stR at k
 split at k
 ·rename_i B off
  cases h2:(okV v && Nat.beq v.cells.size 1) with
  | false=>rw [h2] at k; cases k
  | true =>
   rw [h2,cond_true] at k
   simp only [Bool.and_eq_true] at h2
   have hsz:=Nat.eq_of_beq_eq_true h2.2
   have hl:v.cells.toList = [v.cells.getD 0 undef]:=by
    rcases hcs:v.cells with ⟨l⟩
    rw [hcs] at hsz
    match l,hsz with
    | [u],_=>rfl
   unfold st0 at k
   split at k
   ·rename_i c fam hg
    unfold st1 at k
    split at k
    ·rename_i k0 hf
     cases hb:Nat.blt off c.length with
     | false=>rw [hb] at k; cases k
     | true =>
      rw [hb,cond_true] at k
      have h3:(okV v && Nat.beq v.cells.size 1) = true:=by simp only [Bool.and_eq_true]; exact h2
      have h1:Nat.ble (Nat.add off ([v.cells.getD 0 undef]:List Value).length) c.length = true:=hb
      simp only [wrR,bI,mW,hq,hv,hs,h3,cond_true,hl,gY,hg,jC,h1,dJ,hf,T.setK_eq,spliceL_one]
      exact k
    ·cases k
   ·cases k
 ·cases k
theorem stR_int {B off:Nat} (kd:IntKind) (i:Int):stR (.pointer (some ⟨B,off,none⟩)) (.int kd i) P call ops n rest dst t h KR = st0 (h.bl.get B) P call ops n rest dst t h KR B off (.int kd i):=(rfl)
theorem stR_bool {B off:Nat} (v:Bool):stR (.pointer (some ⟨B,off,none⟩)) (.bool v) P call ops n rest dst t h KR = st0 (h.bl.get B) P call ops n rest dst t h KR B off (.bool v):=(rfl)
theorem stR_str {B off:Nat} (v:ByteArray):stR (.pointer (some ⟨B,off,none⟩)) (.string v) P call ops n rest dst t h KR = st0 (h.bl.get B) P call ops n rest dst t h KR B off (.string v):=(rfl)
theorem st0_some {B off:Nat} {v:Value} {c:List Value} {fam:Nat}:st0 (some (.cells c fam false)) P call ops n rest dst t h KR B off v = st1 (h.fams.get fam) P call ops n rest dst t h KR B off v c fam:=(rfl)
theorem st1_some {B off:Nat} {v:Value} {c:List Value} {fam:Nat} (hl:off < c.length):st1 (some [k]) P call ops n rest dst t h KR B off v c fam = jA P call ops n rest dst t undef (h.upd B (c.set off v) fam) KR:=by
 have:Nat.blt off c.length = true:=by rw [Nat.blt_eq]; exact hl
 simp only [st1,this,cond_true]

/-- A store of a whole row. -/
theorem dF {B s:Nat} {c:List Value} {fam:Nat} {l:List Value} (hx:ev P t x = .pointer (some ⟨B,0,none⟩)) (hy:ev P t y = .agg ⟨l⟩) (hs:bH P a = some s) (hne:0 < s) (hls:l.length = s)
  (hg:h.bl.get B = some (.cells c fam false)) (hf:h.fams.get fam = some [k]) (hl:c.length = s) (kk:jA P call ops n rest dst t undef (h.upd B l fam) KR = true) :
  wrR P call ops n rest (.store a x y) dst t h KR = true:=by
 have h2:(okV (.agg ⟨l⟩) && Nat.beq (Value.cells (.agg ⟨l⟩)).size s) = true:=by
  rw [show (Value.cells (.agg ⟨l⟩)).size = l.length from rfl,hls,Nat.beq_refl]; rfl
 have h1:Nat.ble (Nat.add 0 l.length) c.length = true:=Nat.ble_eq_true_of_le (by rw [hl,hls]; show 0 + s ≤ s; omega)
 cases l with
 | nil=>simp at hls; omega
 | cons v0 l0 =>
  have hc:(Value.cells (.agg ⟨v0 :: l0⟩)).toList = v0 :: l0:=(rfl)
  have he:spliceL c 0 (v0 :: l0) = v0 :: l0:=by
   rw [spliceL_eq c 0 (v0 :: l0) (by rw [hl,hls]; omega),hls,List.drop_of_length_le (by omega)]
   simp
  simp only [wrR,bI,mW,hx,hy,hs,h2,cond_true,hc,gY,hg,jC,h1,dJ,hf,T.setK_eq,he]
  exact kk

/-- A call whose result is in the table. -/
theorem wr_prim {pr:Prim} {call0:CallT} {f:Operand} {as:Array Operand} {ts:Array TypeId} {fid:FuncId} {first captured:Array Value} {v:Value} (hf:ev P t f = .func (.func fid) first captured)
  (hp:pr fid (first.toList ++ evL P t as.toList ++ captured.toList) h = some v) (k:jA P (bW pr call0) ops n rest dst t v h KR = true) :
  wrR P (bW pr call0) ops n rest (.call ⟨.value f,as,ts⟩) dst t h KR = true:=by
 simp only [wrR,bI,kR,hf,bW,hp]
 exact k

/-! ## Numbers -/
theorem leI_eq (i j:Int):leI i j = decide (i ≤ j):=by
 rw [Bool.eq_iff_iff,decide_eq_true_iff]
 cases i with
 | ofNat i =>
  cases j with
  | ofNat j =>
   show Nat.ble i j = true ↔ (i:Int) ≤ (j:Int)
   rw [Nat.ble_eq]; omega
  | negSucc j=>simp only [leI]; constructor<;>intro h<;>first|cases h|(have e:Int.ofNat i = (i:Int):=rfl; rw [e] at h; omega)
 | negSucc i =>
  cases j with
  | ofNat j =>
   simp only [leI]
   refine ⟨fun _=>?_,fun _=>trivial⟩
   have e:Int.ofNat j = (j:Int):=(rfl)
   rw [e]; omega
  | negSucc j =>
   show Nat.ble j i = true ↔ _
   rw [Nat.ble_eq]; omega

theorem uS (i j:Int):beqI i j = decide (i = j):=by
 rw [Bool.eq_iff_iff,decide_eq_true_iff]
 cases i with
 | ofNat i =>
  cases j with
  | ofNat j =>
   show Nat.beq i j = true ↔ (i:Int) = (j:Int)
   rw [Nat.beq_eq]; omega
  | negSucc j=>simp [beqI]
 | negSucc i =>
  cases j with
  | ofNat j=>simp [beqI]
  | negSucc j =>
   show Nat.beq i j = true ↔ _
   rw [Nat.beq_eq]; omega

theorem wrap64 (i:Int) (h1 : -9223372036854775808 ≤ i) (h2:i < 9223372036854775808):o7 .i64 i = i:=by
 cases i with
 | ofNat m =>
  have e:Int.ofNat m = (m:Int):=(rfl)
  have:Nat.blt m 9223372036854775808 = true:=by rw [Nat.blt_eq]; rw [e] at h2; omega
  simp only [o7,this,cond_true]
 | negSucc m =>
  have:Nat.blt m 9223372036854775808 = true:=by rw [Nat.blt_eq]; omega
  simp only [o7,this,cond_true]

variable {i j:Int} {o:Oper} {kd:IntKind}
theorem nK {op:BinOp} {v:Value} (h3:iQ op kd i j = some v):nV P t o op a (.int kd j) (.int kd i) = some v:=by
 have hk:beqKind kd kd = true:=by cases kd<;>rfl
 simp only [nV,rBin1,hk,cond_true,h3]
theorem bin_add (h1 : -9223372036854775808 ≤ i + j) (h2:i + j < 9223372036854775808):nV P t o .add a (.int .i64 j) (.int .i64 i) = some (.int .i64 (i + j)):=
 nK (by simp only [iQ]; rw [show Int.add i j = i + j from rfl,wrap64 _ h1 h2])
theorem bin_sub (h1 : -9223372036854775808 ≤ i - j) (h2:i - j < 9223372036854775808):nV P t o .sub a (.int .i64 j) (.int .i64 i) = some (.int .i64 (i - j)):=
 nK (by simp only [iQ]; rw [show Int.sub i j = i - j from rfl,wrap64 _ h1 h2])
theorem bin_mul (h1 : -9223372036854775808 ≤ i * j) (h2:i * j < 9223372036854775808):nV P t o .mul a (.int .i64 j) (.int .i64 i) = some (.int .i64 (i * j)):=
 nK (by simp only [iQ]; rw [show Int.mul i j = i * j from rfl,wrap64 _ h1 h2])
theorem bin_lss:nV P t o .lss a (.int kd j) (.int kd i) = some (.bool (decide (i < j))):=
 nK (by simp only [iQ,leI_eq]; congr 2; by_cases h:j ≤ i<;>simp [h]<;>omega)
theorem bin_leq:nV P t o .leq a (.int kd j) (.int kd i) = some (.bool (decide (i ≤ j))):=nK (by simp only [iQ,leI_eq])
theorem bin_gtr:nV P t o .gtr a (.int kd j) (.int kd i) = some (.bool (decide (j < i))):=
 nK (by simp only [iQ,leI_eq]; congr 2; by_cases h:i ≤ j<;>simp [h]<;>omega)
theorem bin_geq:nV P t o .geq a (.int kd j) (.int kd i) = some (.bool (decide (j ≤ i))):=nK (by simp only [iQ,leI_eq])
theorem bin_eql:nV P t o .eql a (.int kd j) (.int kd i) = some (.bool (decide (i = j))):=nK (by simp only [iQ,uS])
theorem bin_neq:nV P t o .neq a (.int kd j) (.int kd i) = some (.bool (!decide (i = j))):=nK (by simp only [iQ,uS])

/-! ## Operations by the model's own text -/
theorem dG {o:Option Value} {v:Value} (hr:o = some v) (k:jA P call ops n rest dst t v h KR = true):optR o P call ops n rest dst t h KR = true:=by rw [hr]; exact k
theorem rd_slice {l u:Option Operand}:dE P t h ⟨dst,.slice a x l u none,ty,pos,af,g⟩ = vW P t h ⟨dst,.slice a x l u none,ty,pos,af,g⟩ a l u (ev P t x):=(rfl)
theorem eQ {B off i len cap sz:Nat} {e:TypeId} {kd:IntKind} (h1:fE P a = some e) (h2:bH P e = some sz) (h3:i < len):bY P a (.slice (some ⟨B,off,none⟩) len cap) (.int kd (i:Int)) = some (.pointer (some ⟨B,off + i * sz,none⟩)):=by
 have:Nat.blt i len = true:=by simpa [Nat.blt_eq] using h3
 show bY P a _ (.int kd (.ofNat i)) = _
 simp only [bY,h1,rAt,this,cond_true,h2]; rfl
theorem w_len {as:Array Operand} {ts:Array TypeId}:isW P (.call ⟨.builtin .len,as,ts⟩) = false:=(rfl)
theorem rd_len:dE P t h ⟨dst,.call ⟨.builtin .len,#[x],#[a]⟩,ty,pos,af,g⟩ = qJ P t h ⟨dst,.call ⟨.builtin .len,#[x],#[a]⟩,ty,pos,af,g⟩ a (ev P t x):=(rfl)
theorem lT {q:Option Addr} {len cap:Nat} {o:Oper} (hs:jW P a = true):qJ P t h o a (.slice q len cap) = some (.int .i64 (len:Int)):=by simp only [qJ,hs,cond_true]; rfl
theorem fF {p:Array (Nat × Operand)}:dE P t h ⟨dst,.build a p,ty,pos,af,g⟩ = fG P a (p.toList.map fun q=>(q.1,ev P t q.2)):=(rfl)
theorem evL_cons {l:List Operand}:evL P t (x :: l) = ev P t x :: evL P t l:=(rfl)
theorem evL_nil:evL P t [] = []:=(rfl)
end

/-! ## Rows of a table -/
def RowOk (P:Program) (g:FuncId) (l:List Value) (v:Value):Prop:=
 plainL l = true ∧ plainB v = true ∧ (∃ fn c,P.funcs[g]? = some fn ∧ fn.body = some c ∧ (fn.name == "runtime.NumGoroutine") = false) ∧
  ∀ w:World,P.globals.size ≤ w.heap.size → Calls P g l.toArray w fun e w'=>e = .returned v ∧ Below w.heap.size w w'

theorem RowOk.prim {P:Program} {g:FuncId} {l:List Value} {v:Value} (k:RowOk P g l v) (h:AHeap):plainB v = true ∧ (∃ fn c,P.funcs[g]? = some fn ∧ fn.body = some c ∧ (fn.name == "runtime.NumGoroutine") = false) ∧
  ∀ (m:M) (w0:Base) (w:World) (l':List Value),WR P m w0 h w → LR m l l' → Calls P g l'.toArray w fun e w'=>e = .returned v ∧ Below w.heap.size w w':=by
 obtain ⟨k1,k2,k3,k4⟩:=k
 refine ⟨k2,k3,fun m w0 w l' hW hl=>?_⟩
 have:=pM _ _ k1 hl
 subst this
 exact k4 w (wr_globals hW)

end Go.Ev

/- Calls that read a slice: contracts at every world. -/
namespace Go.Ev
open Go.RowKit

section
variable {P:Program} {m:M} {w0:Base} {w:World} {h:AHeap} {t t':T Value}

theorem evL_congr:∀ (l:List Operand),(∀ x ∈ l,ev P t x = ev P t' x) → evL P t l = evL P t' l
 | [],_=>rfl
 | x :: l,k=>by simp only [evL,k x (by simp),evL_congr l fun y hy=>k y (by simp [hy])]

/-- What the model's own text makes of an operation hangs on its operands alone. -/
theorem qX {o:Oper} (hs:∀ cs b,o.op ≠ .select cs b) (k:∀ x ∈ o.op.operands,ev P t x = ev P t' x):ground P t o = ground P t' o:=by
 unfold ground
 rw [evL_congr _ (fun x hx=>k x (by simpa using hx)),execOp_congr o hs k]

/-- The maximum, the minimum of two integers. -/
theorem oU {b:Builtin} {i j:Nat} {u v r:Value} {a c:TypeId} {dst:Option Tmp} {ty:TypeId} {pos:String} {af:Array Edge} {g:Option (Nat × Bool)} (h1:tget t i = u) (h2:tget t j = v) (h3:tget t' i = u) (h4:tget t' j = v)
  (hr:ground P t' ⟨dst,.call ⟨.builtin b,#[.tmp i,.tmp j],#[a,c]⟩,ty,pos,af,g⟩ = some r):ground P t ⟨dst,.call ⟨.builtin b,#[.tmp i,.tmp j],#[a,c]⟩,ty,pos,af,g⟩ = some r:=by
 rw [← hr]
 refine qX (fun cs b e=>by cases e) fun x hx=>?_
 simp only [Op.operands,Call.operands] at hx
 have:x = .tmp i ∨ x = .tmp j:=by simpa using hx
 rcases this with rfl|rfl
 ·simp only [ev,h1,h3]
 ·simp only [ev,h2,h4]
theorem sW {x y:Operand} {a c:TypeId} {dst:Option Tmp} {ty:TypeId} {pos:String} {af:Array Edge} {g:Option (Nat × Bool)}:dE P t h ⟨dst,.call ⟨.builtin .max,#[x,y],#[a,c]⟩,ty,pos,af,g⟩ = ground P t ⟨dst,.call ⟨.builtin .max,#[x,y],#[a,c]⟩,ty,pos,af,g⟩:=(rfl)
theorem sZ {x y:Operand} {a c:TypeId} {dst:Option Tmp} {ty:TypeId} {pos:String} {af:Array Edge} {g:Option (Nat × Bool)}:dE P t h ⟨dst,.call ⟨.builtin .min,#[x,y],#[a,c]⟩,ty,pos,af,g⟩ = ground P t ⟨dst,.call ⟨.builtin .min,#[x,y],#[a,c]⟩,ty,pos,af,g⟩:=(rfl)
theorem w_max {as:Array Operand} {ts:Array TypeId}:isW P (.call ⟨.builtin .max,as,ts⟩) = false:=(rfl)
theorem w_min {as:Array Operand} {ts:Array TypeId}:isW P (.call ⟨.builtin .min,as,ts⟩) = false:=(rfl)
/-! ## A heap of which one row is known, and is only read -/
end
end Go.Ev

/- Variables that the world holds whole: rows that read them. -/
namespace Go.Ev
open Go.RowKit

/-- Variables, each with its cells. -/
abbrev Tabs:=List (Nat × List Value)

def TabsIn (P:Program) (tb:Tabs) (w:World):Prop:=
 P.globals.size ≤ w.heap.size ∧ ∀ p,p ∈ tb → ∃ t fr,w.heap[p.1]? = some (.cells p.2.toArray t fr)

def tabT:Tabs → T AObj
 | []=>.leaf
 | p :: l=>T.set (p.1 + 1) (tabT l) p.1 (.tab p.2)

theorem tabT_get:∀ (tb:Tabs) (k:Nat) (o:AObj),(tabT tb).get k = some o → ∃ c,o = .tab c ∧ (k,c) ∈ tb
 | [],k,o,e=>by simp [tabT,T.get_leaf] at e
 | p :: l,k,o,e=>by
  simp only [tabT,T.get_set _ _ _ _ _ (Nat.lt_succ_self _)] at e
  split at e
  ·rename_i hk
   cases e
   subst hk
   exact ⟨p.2,rfl,by simp⟩
  ·obtain ⟨c,h1,h2⟩:=tabT_get l k o e
   exact ⟨c,h1,by simp [h2]⟩

/-! ## Strings -/
section
variable {P:Program} {t:T Value} {h:AHeap} {call:CallT} {ops:Array Oper} {n:Nat} {rest:List Oper} {KR:T Value → AHeap → Bool} {dst:Option Tmp} {a a' ty:TypeId} {x y:Operand} {pos:String} {af:Array Edge} {g:Option (Nat × Bool)}

theorem rd_conv:dE P t h ⟨dst,.convert a a' x,ty,pos,af,g⟩ = rConv P t h ⟨dst,.convert a a' x,ty,pos,af,g⟩ a a' (ev P t x):=(rfl)
theorem rd_index:dE P t h ⟨dst,.index a x y,ty,pos,af,g⟩ = vV P t ⟨dst,.index a x y,ty,pos,af,g⟩ a (ev P t y) (ev P t x):=(rfl)
end

theorem plainL_cons1 (a:Value) (l:List Value) (ha:plainB a = true) (hl:plainL l = true):plainL (a :: l) = true:=by simp only [plainL,ha,hl]; rfl
theorem plainL_i64s:∀ l:List Int,plainL (l.map (.int .i64)) = true
 | []=>rfl
 | _ :: l=>plainL_cons1 _ _ rfl (plainL_i64s l)
theorem oneL_i64s:∀ l:List Int,oneL (l.map (.int .i64)) = true
 | []=>rfl
 | b :: l=>by simp only [List.map_cons,oneL,oneL_i64s l]; rfl
theorem plain_ints (l:List Int):plainB (.agg ⟨l.map (.int .i64)⟩) = true:=by
 simp only [plainB,plainA,oneA,plainL_i64s,oneL_i64s]; rfl
end Go.Ev

/- Arguments with slices: their data lie in the abstract heap as blocks that are only read. -/
namespace Go.Ev
open Go.RowKit

abbrev Bls:=List (Nat × List Value)

/-- What a datum is in an abstract heap. -/
def Rd {H:Type} (P:Program) (h:AHeap):Nat → TypeId → List Value → DataW H → Prop
 | 0,_,_,_=>False
 | k + 1,t,cs,d =>
  match P.underlying t with
  | some .bool=>∃ b,d = .lit (.bool b) ∧ cs = [.bool b]
  | some (.int q)=>∃ n,d = .lit (.int q n) ∧ (Lit.int q n).wf = true ∧ cs = [.int q n]
  | some .string=>∃ s:ByteArray,d = .lit (.string s.data.toList) ∧ s.size ≤ maxLen ∧ cs = [.string s]
  | some (.slice e)=>(d = .nil ∧ cs = [.slice none 0 0]) ∨ (∃ sp,d = .slice [] sp ∧ cs = [emptyS]) ∨
    ∃ (b:Nat) (els sp:List (DataW H)) (css:List (List Value)) (f:Nat),els ≠ [] ∧ d = .slice els sp ∧ cs = [.slice (some ⟨b,0,none⟩) els.length (els.length + sp.length)] ∧ els.length + sp.length ≤ maxLen ∧ P.globals.size < b ∧ b < h.nx ∧
     h.bl.get b = some (.cells css.flatten f true) ∧ css.length = els.length ∧ ∀ (i:Nat) c y,css[i]? = some c → els[i]? = some y → c.length = P.cellsOf e ∧ Rd P h k e c y
  | some (.struct fs)=>∃ (parts:List (DataW H)) (css:List (List Value)),d = .agg parts ∧ cs = css.flatten ∧ css.length = fs.size ∧ parts.length = fs.size ∧
    ∀ (i:Nat) f c y,fs[i]? = some f → css[i]? = some c → parts[i]? = some y → c.length = P.cellsOf f.type ∧ Rd P h k f.type c y
  | _=>False

/-- Fields that lie one behind the other. -/
def contF (P:Program):List Field → Nat → Nat → Bool
 | [],off,sz=>Nat.beq off sz
 | f :: l,off,sz=>Nat.beq f.offset off && contF P l (off + P.cellsOf f.type) sz

/-- Types of such arguments. -/
def tC (P:Program):Nat → TypeId → Bool
 | 0,_=>false
 | k + 1,t =>
  match P.underlying t with
  | some .bool=>Nat.beq (P.cellsOf t) 1
  | some (.int _)=>Nat.beq (P.cellsOf t) 1
  | some .string=>Nat.beq (P.cellsOf t) 1
  | some (.slice e)=>Nat.beq (P.cellsOf t) 1 && (Nat.ble 1 (P.cellsOf e) && tC P k e)
  | some (.struct fs)=>contF P fs.toList 0 (P.cellsOf t) && fs.toList.all fun f=>tC P k f.type
  | _=>false

abbrev Item (H:Type):=TypeId × List Value × DataW H

def BlkAt (m:M) (W:World) (mf:Nat → Option (Nat × Nat)) (p:Nat × List Value):Prop:=
 ∃ B D,mf p.1 = some (B,D) ∧ ∀ (i:Nat) v,p.2[i]? = some v → ∃ v',W.cell? ⟨B,D + i,none⟩ = some v' ∧ VR m v v' ∧ oneB v' = true

structure Laid {H:Type} (P:Program) (W:World) (k:Nat) (l:List (Item H)) (nx nx':Nat) (bl:Bls) (ass:List (List Value)) (mf:Nat → Option (Nat × Nat)):Prop where
 le:nx ≤ nx'
 len:ass.length = l.length
 rng:∀ p,p ∈ bl → nx ≤ p.1 ∧ p.1 < nx'
 nd:(bl.map (·.1)).Nodup
 dom:∀ b B D,mf b = some (B,D) → nx ≤ b ∧ b < nx' ∧ B < W.heap.size
 one:∀ (i:Nat) (x:Item H),l[i]? = some x → ∀ v ∈ x.2.1,oneB v = true
 rel:∀ m:M,(∀ b,nx ≤ b → b < nx' → m b = mf b) → (∀ (i:Nat) a (x:Item H),ass[i]? = some a → l[i]? = some x → LR m a x.2.1) ∧ ∀ p,p ∈ bl → BlkAt m W mf p
 rd:∀ h:AHeap,nx' ≤ h.nx → (∀ p,p ∈ bl → ∃ f,h.bl.get p.1 = some (.cells p.2 f true)) → ∀ (i:Nat) a (x:Item H),ass[i]? = some a → l[i]? = some x → a.length = x.2.1.length ∧ Rd P h k x.1 a x.2.2

section
variable {H:Type} {enc:TypeId × Value → H} {P:Program} {W:World}

def Lay1 (P:Program) (W:World) (k:Nat) (l:List (Item H)):Prop:=∀ nx,P.globals.size < nx → ∃ nx' bl ass mf,Laid P W k l nx nx' bl ass mf

theorem lay_nil (k:Nat):Lay1 P W k ([]:List (Item H)):=fun nx _ =>
 ⟨nx,[],[],fun _=>none,{ le:=Nat.le_refl _,len:=rfl,rng:=fun p hp=>(by cases hp),nd:=.nil,dom:=fun b B D e=>(by cases e),one:=fun i x e=>(by simp at e),rel:=fun m _=>⟨fun i a x e=>(by simp at e),fun p hp=>(by cases hp)⟩,rd:=fun h _ _ i a x e=>by simp at e }⟩

theorem lay_cons {k:Nat} {x:Item H} {l:List (Item H)} (h1:Lay1 P W k [x]) (h2:Lay1 P W k l):Lay1 P W k (x :: l):=by
 intro nx hg
 obtain ⟨n1,b1,a1,f1,L1⟩:=h1 nx hg
 obtain ⟨n2,b2,a2,f2,L2⟩:=h2 n1 (Nat.lt_of_lt_of_le hg L1.le)
 have hl1:=L1.len
 obtain ⟨a,rfl⟩:∃ a,a1 = [a]:=by
  match a1,hl1 with
  | [a],_=>exact ⟨a,rfl⟩
 have hle1:=L1.le
 have hle2:=L2.le
 refine ⟨n2,b1 ++ b2,a :: a2,fun b=>if b < n1 then f1 b else f2 b,?_⟩
 have e1:∀ b,nx ≤ b → b < n1 → (if b < n1 then f1 b else f2 b) = f1 b:=fun b _ h=>if_pos h
 have e2:∀ b,n1 ≤ b → b < n2 → (if b < n1 then f1 b else f2 b) = f2 b:=fun b h _=>if_neg (by omega)
 exact {
  le:=by omega
  len:=by simp [L2.len]
  rng:=fun p hp=>by
   rcases List.mem_append.1 hp with hp|hp
   ·have:=L1.rng p hp; omega
   ·have:=L2.rng p hp; omega
  nd:=by
   rw [List.map_append,List.nodup_append]
   refine ⟨L1.nd,L2.nd,?_⟩
   intro u hu v hv e
   obtain ⟨p,hp,rfl⟩:=List.mem_map.1 hu
   obtain ⟨q,hq,rfl⟩:=List.mem_map.1 hv
   have:=L1.rng p hp
   have:=L2.rng q hq
   omega
  dom:=fun b B D e=>by
   split at e
   ·have:=L1.dom b B D e; omega
   ·have:=L2.dom b B D e; omega
  one:=fun i y e=>by
   cases i with
   | zero=>simp at e; subst e; exact L1.one 0 x rfl
   | succ i=>exact L2.one i y (by simpa using e)
  rel:=fun m hm=>by
   obtain ⟨r1,r2⟩:=L1.rel m (fun b h h'=>(hm b h (by omega)).trans (e1 b h h'))
   obtain ⟨r3,r4⟩:=L2.rel m (fun b h h'=>(hm b (by omega) h').trans (e2 b h h'))
   refine ⟨fun i c y e e'=>?_,fun p hp=>?_⟩
   ·cases i with
    | zero=>simp at e e'; subst e e'; exact r1 0 a x rfl rfl
    | succ i=>exact r3 i c y (by simpa using e) (by simpa using e')
   ·rcases List.mem_append.1 hp with hp|hp
    ·obtain ⟨B,D,q1,q2⟩:=r2 p hp
     exact ⟨B,D,(e1 _ (L1.rng p hp).1 (L1.rng p hp).2).trans q1,q2⟩
    ·obtain ⟨B,D,q1,q2⟩:=r4 p hp
     exact ⟨B,D,(e2 _ (L2.rng p hp).1 (L2.rng p hp).2).trans q1,q2⟩
  rd:=fun h hn hb i c y e e'=>by
   cases i with
   | zero=>simp at e e'; subst e e'; exact L1.rd h (by omega) (fun p hp=>hb p (List.mem_append.2 (.inl hp))) 0 a x rfl rfl
   | succ i=>exact L2.rd h hn (fun p hp=>hb p (List.mem_append.2 (.inr hp))) i c y (by simpa using e) (by simpa using e') }

theorem lay_all {k:Nat}:∀ (l:List (Item H)),(∀ x,x ∈ l → Lay1 P W k [x]) → Lay1 P W k l
 | [],_=>lay_nil k
 | x :: l,h=>lay_cons (h x (by simp)) (lay_all l fun y hy=>h y (by simp [hy]))

/-- A value without blocks. -/
theorem tH {k:Nat} {t:TypeId} {v a:Value} {d:DataW H} (h1:oneB v = true) (hv:∀ m:M,VR m a v) (hr:∀ h:AHeap,Rd P h k t [a] d):Lay1 P W k [(t,[v],d)]:=fun nx _ =>
 ⟨nx,[],[[a]],fun _=>none,{
  le:=Nat.le_refl _,len:=rfl,rng:=fun p hp=>(by cases hp),nd:=.nil,dom:=fun b B D e=>by cases e
  one:=fun i x e=>by
   cases i with
   | zero=>simp at e; subst e; intro u hu; simp at hu; subst hu; exact h1
   | succ i=>simp at e
  rel:=fun m _=>⟨fun i a' x e e'=>by
   cases i with
   | zero=>simp at e e'; subst e e'; exact .cons (hv m) .nil
   | succ i=>simp at e,fun p hp=>(by cases hp)⟩
  rd:=fun h _ _ i a' x e e'=>by
   cases i with
   | zero=>simp at e e'; subst e e'; exact ⟨rfl,hr h⟩
   | succ i=>simp at e }⟩

/-! ## Cells of several items -/
theorem wH {m:M}:∀ {l l':List (List Value)},l.length = l'.length → (∀ (i:Nat) a b,l[i]? = some a → l'[i]? = some b → LR m a b) → LR m l.flatten l'.flatten
 | [],[],_,_=>.nil
 | a :: l,b :: l',h,hr=>by
  rw [List.flatten_cons,List.flatten_cons]
  exact (hr 0 a b rfl rfl).append (wH (by simpa using h) fun i c d e e'=>hr (i + 1) c d (by simpa using e) (by simpa using e'))
 | [],_ :: _,h,_=>by simp at h
 | _ :: _,[],h,_=>by simp at h

theorem xG {B sz:Nat}:∀ {l:List (List Value)} {off:Nat},(∀ (q:Nat) c,l[q]? = some c → c.length = sz ∧ ∀ (r:Nat) v,c[r]? = some v → W.cell? ⟨B,off + q * sz + r,none⟩ = some v) →
  ∀ (i:Nat) v,l.flatten[i]? = some v → W.cell? ⟨B,off + i,none⟩ = some v
 | [],_,_,i,v,e=>by simp at e
 | c :: l,off,h,i,v,e=>by
  rw [List.flatten_cons] at e
  obtain ⟨hc,hv⟩:=h 0 c rfl
  by_cases hi:i < c.length
  ·rw [List.getElem?_append_left hi] at e
   have:=hv i v e
   rwa [Nat.zero_mul,Nat.add_zero] at this
  ·rw [List.getElem?_append_right (by omega)] at e
   have:=xG (l:=l) (off:=off + sz) (fun q d hd=>by
    obtain ⟨k1,k2⟩:=h (q + 1) d (by simpa using hd)
    refine ⟨k1,fun r u hu=>?_⟩
    have:=k2 r u hu
    rw [show off + sz + q * sz + r = off + (q + 1) * sz + r from by rw [Nat.succ_mul]; omega]
    exact this) (i - c.length) v e
   rw [show off + i = off + sz + (i - c.length) from by omega]
   exact this

theorem vP {sz:Nat} (cs:List Value) (hl:cs.length = sz):∀ (fs:List Field) (off:Nat),contF P fs off sz = true → off ≤ sz →
  cs.drop off = (fs.map fun f=>(cs.drop f.offset).take (P.cellsOf f.type)).flatten ∧ ∀ f,f ∈ fs → ((cs.drop f.offset).take (P.cellsOf f.type)).length = P.cellsOf f.type
 | [],off,h,_=>by
  have:=Nat.eq_of_beq_eq_true h
  refine ⟨?_,fun f hf=>by cases hf⟩
  rw [List.map_nil,List.flatten_nil,List.drop_eq_nil_of_le (by omega)]
 | f :: fs,off,h,ho=>by
  simp only [contF,Bool.and_eq_true] at h
  obtain ⟨h1,h2⟩:=h
  have h1:=Nat.eq_of_beq_eq_true h1
  have hle:off + P.cellsOf f.type ≤ sz:=by
   have:∀ (fs:List Field) (o:Nat),contF P fs o sz = true → o ≤ sz:=by
    intro fs
    induction fs with
    | nil=>intro o h; exact Nat.le_of_eq (Nat.eq_of_beq_eq_true h)
    | cons g l ih =>
     intro o h
     simp only [contF,Bool.and_eq_true] at h
     have:=ih _ h.2
     omega
   exact this fs _ h2
  obtain ⟨k1,k2⟩:=vP cs hl fs (off + P.cellsOf f.type) h2 hle
  refine ⟨?_,fun g hg=>?_⟩
  ·rw [List.map_cons,List.flatten_cons,← k1,h1,← List.drop_drop,List.take_append_drop]
  ·rcases List.mem_cons.1 hg with rfl|hg
   ·rw [h1,List.length_take,List.length_drop]; omega
   ·exact k2 g hg

theorem one_flatten {l:List (List Value)} (h:∀ (i:Nat) c,l[i]? = some c → ∀ v ∈ c,oneB v = true):∀ v ∈ l.flatten,oneB v = true:=by
 intro v hv
 obtain ⟨c,hc,hv⟩:=List.mem_flatten.1 hv
 obtain ⟨i,hi⟩:=List.mem_iff_getElem?.1 hc
 exact h i c hi v hv

theorem lay_data:∀ (k n:Nat) (t:TypeId) (cs:List Value) (x:DataW H × List MemPlace),tC P k t = true → DataW.trod enc P W 0 (fun _=>true) true n t cs = some x → cs.length = P.cellsOf t ∧ Lay1 P W k [(t,cs,x.1)]
 | 0,_,_,_,_,h,_=>by cases h
 | k + 1,n,t,cs,x,h,e=>by
  unfold tC at h
  split at h
  ·rename_i hu
   obtain ⟨b,rfl,rfl⟩:=DataW.trod_bool hu e
   exact ⟨(Nat.eq_of_beq_eq_true h).symm,tH rfl (fun m=>.bool b) fun g=>by unfold Rd; rw [hu]; exact ⟨b,rfl,rfl⟩⟩
  ·rename_i q hu
   obtain ⟨z,rfl,rfl,hw⟩:=DataW.trod_int hu e
   exact ⟨(Nat.eq_of_beq_eq_true h).symm,tH rfl (fun m=>.int q z) fun g=>by unfold Rd; rw [hu]; exact ⟨z,rfl,hw,rfl⟩⟩
  ·rename_i hu
   obtain ⟨s,rfl,rfl,hs⟩:=DataW.trod_string hu e
   exact ⟨(Nat.eq_of_beq_eq_true h).symm,tH rfl (fun m=>.string s) fun g=>by unfold Rd; rw [hu]; exact ⟨s,rfl,hs,rfl⟩⟩
  ·rename_i el hu
   simp only [Bool.and_eq_true] at h
   obtain ⟨h1,h2,h3⟩:=h
   have h1:=Nat.eq_of_beq_eq_true h1
   have h2:=Nat.le_of_ble_eq_true h2
   rcases DataW.trod_slice hu e with ⟨rfl,rfl⟩|⟨a,len,cap,elems,rest,n',rfl,rfl,rfl,_,hlc,hcm,hlen,hel,hsp,_⟩
   ·exact ⟨h1.symm,tH rfl (fun m=>.nilSl) fun g=>by unfold Rd; rw [hu]; exact .inl ⟨rfl,rfl⟩⟩
   refine ⟨h1.symm,?_⟩
   obtain ⟨hrl,_⟩:=hsp rfl
   by_cases hz:elems = []
   ·subst hz
    obtain rfl:len = 0:=by simpa using hlen.symm
    exact tH rfl (fun m=>.emp (some a) cap) fun g=>by unfold Rd; rw [hu]; exact .inr (.inl ⟨_,rfl,rfl⟩)
   ·have hpos:0 < len:=by
     cases elems with
     | nil=>exact absurd rfl hz
     | cons _ _=>rw [← hlen,List.length_cons]; omega
    -- each element's cells
    have each:∀ i,i < len → ∃ c y,W.cells? 0 (a.add (i * P.cellsOf el)) (P.cellsOf el) = some c ∧ elems[i]? = some y ∧ DataW.trod enc P W 0 (fun _=>true) true n' el c = some y:=by
     intro i hi
     have q:=hel i hi
     rw [List.getElem?_eq_getElem (by omega)] at q
     cases hc:W.cells? 0 (a.add (i * P.cellsOf el)) (P.cellsOf el) with
     | none=>rw [hc] at q; cases q
     | some c=>rw [hc] at q; exact ⟨c,elems[i],rfl,List.getElem?_eq_getElem (by omega),q⟩
    let cc:Nat → List Value:=fun i=>(W.cells? 0 (a.add (i * P.cellsOf el)) (P.cellsOf el)).getD []
    let l:List (Item H):=(List.range len).map fun i=>(el,cc i,(((elems[i]?).map (·.1)).getD .nil:DataW H))
    have hlget:∀ (i:Nat) (z:Item H),l[i]? = some z → ∃ y,i < len ∧ elems[i]? = some y ∧ z = (el,cc i,y.1) ∧ W.cells? 0 (a.add (i * P.cellsOf el)) (P.cellsOf el) = some (cc i) ∧ DataW.trod enc P W 0 (fun _=>true) true n' el (cc i) = some y:=by
     intro i z hz
     have hi:i < len:=by
      have:=(List.getElem?_eq_some_iff.1 hz).1
      simpa [l] using this
     obtain ⟨c,y,q1,q2,q3⟩:=each i hi
     have hcc:cc i = c:=by simp only [cc,q1,Option.getD_some]
     refine ⟨y,hi,q2,?_,by rw [hcc]; exact q1,by rw [hcc]; exact q3⟩
     simp only [l,List.getElem?_map,List.getElem?_range hi,Option.map_some,Option.some.injEq] at hz
     rw [← hz,q2]
     rfl
    have hL:=lay_all (P:=P) (W:=W) (k:=k) l (fun z hz=>by
     obtain ⟨i,hi⟩:=List.mem_iff_getElem?.1 hz
     obtain ⟨y,_,_,rfl,_,q⟩:=hlget i z hi
     exact (lay_data k n' el (cc i) y h3 q).2)
    -- the address is a plain one
    obtain ⟨c0,y0,q0,_,_⟩:=each 0 hpos
    obtain ⟨B,off,spot⟩:=a
    have hcell0:∀ i,i < len → ∀ r v,(cc i)[r]? = some v → W.cell? (((⟨B,off,spot⟩:Addr).add (i * P.cellsOf el)).add r) = some v:=by
     intro i hi r v hv
     obtain ⟨c,y,q1,_,_⟩:=each i hi
     have hcc:cc i = c:=by simp only [cc,q1,Option.getD_some]
     obtain ⟨_,k2,k3⟩:=World.cells?_some q1
     rw [hcc] at hv
     have hr:r < P.cellsOf el:=by
      have:=(List.getElem?_eq_some_iff.1 hv).1
      omega
     rw [k3 r hr,hv]
    have hsp0:spot = none:=by
     have hv:∃ v,(cc 0)[0]? = some v:=by
      obtain ⟨_,k2,_⟩:=World.cells?_some q0
      have hcc:cc 0 = c0:=by simp only [cc,q0,Option.getD_some]
      exact ⟨(cc 0)[0]'(by rw [hcc]; omega),List.getElem?_eq_getElem _⟩
     obtain ⟨v,hv⟩:=hv
     have:=hcell0 0 hpos 0 v hv
     rw [Nat.zero_mul] at this
     simp only [Addr.add,if_true,World.cell?] at this
     split at this
     ·cases spot with
      | none=>rfl
      | some _=>simp at this
     ·cases this
    subst hsp0
    have hcell:∀ i,i < len → ∀ (r:Nat) v,(cc i)[r]? = some v → W.cell? ⟨B,off + i * P.cellsOf el + r,none⟩ = some v:=by
     intro i hi r v hv
     have:=hcell0 i hi r v hv
     rwa [WideShapes.add_plain,WideShapes.add_plain] at this
    have hcl:∀ i,i < len → (cc i).length = P.cellsOf el:=by
     intro i hi
     obtain ⟨c,y,q1,_,_⟩:=each i hi
     have hcc:cc i = c:=by simp only [cc,q1,Option.getD_some]
     rw [hcc]; exact (World.cells?_some q1).2.1
    intro nx hg
    obtain ⟨nx',bl,ass,mf,L⟩:=hL (nx + 1) (by omega)
    have hle:=L.le
    have hll:l.length = len:=by simp [l]
    have hassl:ass.length = len:=by rw [L.len,hll]
    have hccs:∀ (q:Nat) c,(l.map (·.2.1))[q]? = some c → q < len ∧ c = cc q:=by
     intro q c hc
     rw [List.getElem?_map] at hc
     cases hq:l[q]? with
     | none=>rw [hq] at hc; cases hc
     | some z =>
      rw [hq] at hc
      obtain ⟨y,hi,_,rfl,_⟩:=hlget q z hq
      cases hc
      exact ⟨hi,rfl⟩
    have hBlt:B < W.heap.size:=by
     have hv:∃ v,(cc 0)[0]? = some v:=⟨(cc 0)[0]'(by rw [hcl 0 hpos]; omega),List.getElem?_eq_getElem _⟩
     obtain ⟨v,hv⟩:=hv
     have:=hcell 0 hpos 0 v hv
     unfold World.cell? at this
     split at this
     ·rename_i hq
      exact (Array.getElem?_eq_some_iff.1 hq).1
     ·cases this
    have hcap:len + rest.length = cap:=by omega
    refine ⟨nx',(nx,ass.flatten) :: bl,[[.slice (some ⟨nx,0,none⟩) len (len + rest.length)]],fun b=>if b = nx then some (B,off) else mf b,?_⟩
    exact {
     le:=by omega
     len:=rfl
     rng:=fun p hp=>by
      rcases List.mem_cons.1 hp with rfl|hp
      ·exact ⟨Nat.le_refl _,by omega⟩
      ·have:=L.rng p hp; omega
     nd:=by
      rw [List.map_cons,List.nodup_cons]
      refine ⟨fun hm=>?_,L.nd⟩
      obtain ⟨p,hp,hpe⟩:=List.mem_map.1 hm
      have:=L.rng p hp
      simp only at hpe
      omega
     dom:=fun b B' D e=>by
      split at e
      ·cases e; subst b; exact ⟨Nat.le_refl _,by omega,hBlt⟩
      ·have:=L.dom b B' D e; omega
     one:=fun i z e=>by
      cases i with
      | zero=>simp at e; subst e; intro u hu; simp at hu; subst hu; rfl
      | succ i=>simp at e
     rel:=fun m hm=>by
      have hmn:m nx = some (B,off):=(hm nx (Nat.le_refl _) (by omega)).trans (if_pos rfl)
      obtain ⟨r1,r2⟩:=L.rel m (fun b h h'=>(hm b (by omega) h').trans (if_neg (by omega)))
      have hlr:LR m ass.flatten (l.map (·.2.1)).flatten:=wH (by rw [List.length_map,L.len]) (fun i c c' e e'=>by
       rw [List.getElem?_map] at e'
       cases hq:l[i]? with
       | none=>rw [hq] at e'; cases e'
       | some z=>rw [hq] at e'; cases e'; exact r1 i c z e hq)
      refine ⟨fun i c z e e'=>?_,fun p hp=>?_⟩
      ·cases i with
       | zero =>
        simp at e e'; subst e e'
        have:=VR.sl (m:=m) (b:=nx) (B:=B) (d:=off) 0 len (len + rest.length) cap hmn (Nat.le_of_eq hcap) (.inl hcap.symm)
        rw [Nat.zero_add] at this
        exact .cons this .nil
       | succ i=>simp at e
      ·rcases List.mem_cons.1 hp with rfl|hp
       ·refine ⟨B,off,if_pos rfl,fun i v hv=>?_⟩
        obtain ⟨v',q1,q2⟩:=hlr.get i v hv
        refine ⟨v',?_,q2,?_⟩
        ·refine xG (W:=W) (B:=B) (sz:=P.cellsOf el) (l:=l.map (·.2.1)) (off:=off) (fun q c hc=>?_) i v' q1
         obtain ⟨hq,rfl⟩:=hccs q c hc
         exact ⟨hcl q hq,hcell q hq⟩
        ·refine one_flatten (l:=l.map (·.2.1)) (fun q c hc=>?_) v' (List.mem_of_getElem? q1)
         rw [List.getElem?_map] at hc
         cases hq:l[q]? with
         | none=>rw [hq] at hc; cases hc
         | some z=>rw [hq] at hc; cases hc; exact L.one q z hq
       ·obtain ⟨B',D,q1,q2⟩:=r2 p hp
        refine ⟨B',D,?_,q2⟩
        have:=L.rng p hp
        exact (if_neg (by omega)).trans q1
     rd:=fun g hn hb i c z e e'=>by
      cases i with
      | zero =>
       simp at e e'; subst e e'
       refine ⟨rfl,?_⟩
       unfold Rd
       rw [hu]
       obtain ⟨f,hf⟩:=hb (nx,ass.flatten) (by simp)
       refine .inr (.inr ⟨nx,elems.map (·.1),rest.map (·.1),ass,f,by simpa using hz,rfl,?_,?_,hg,by omega,hf,?_,?_⟩)
       ·simp only [List.length_map,hlen]
       ·simp only [List.length_map,hlen]; omega
       ·rw [List.length_map,hlen,hassl]
       ·intro j c y hc hy
        rw [List.getElem?_map] at hy
        cases hq:elems[j]? with
        | none=>rw [hq] at hy; cases hy
        | some y' =>
         rw [hq] at hy
         cases hy
         have hj:j < len:=by
          have:=(List.getElem?_eq_some_iff.1 hc).1
          omega
         have hlj:∃ z,l[j]? = some z:=⟨l[j]'(by omega),List.getElem?_eq_getElem _⟩
         obtain ⟨z,hzj⟩:=hlj
         obtain ⟨y2,_,q2,rfl,_,_⟩:=hlget j z hzj
         rw [hq] at q2
         cases q2
         obtain ⟨u1,u2⟩:=L.rd g hn (fun p hp=>hb p (by simp [hp])) j c _ hc hzj
         exact ⟨u1.trans (hcl j hj),u2⟩
      | succ i=>simp at e }
  ·rename_i fs hu
   simp only [Bool.and_eq_true,List.all_eq_true] at h
   obtain ⟨h1,h2⟩:=h
   obtain ⟨xs,n',rfl,rfl,hcl,hxl,hf⟩:=DataW.trod_struct hu e
   refine ⟨hcl,?_⟩
   obtain ⟨k1,k2⟩:=vP (P:=P) cs hcl fs.toList 0 h1 (Nat.zero_le _)
   rw [List.drop_zero] at k1
   have hfs:fs.toList.length = fs.size:=Array.length_toList
   let l:List (Item H):=(List.range fs.size).map fun i=>((fs[i]?.map (·.type)).getD 0,(((fs[i]?).map fun f=>(cs.drop f.offset).take (P.cellsOf f.type)).getD []),(((xs[i]?).map (·.1)).getD .nil:DataW H))
   have hlget:∀ (i:Nat) (z:Item H),l[i]? = some z → ∃ f y,i < fs.size ∧ fs[i]? = some f ∧ xs[i]? = some y ∧ z = (f.type,(cs.drop f.offset).take (P.cellsOf f.type),y.1):=by
    intro i z hz
    have hi:i < fs.size:=by
     have:=(List.getElem?_eq_some_iff.1 hz).1
     simpa [l] using this
    refine ⟨fs[i],xs[i],hi,Array.getElem?_eq_getElem hi,List.getElem?_eq_getElem (by omega),?_⟩
    simp only [l,List.getElem?_map,List.getElem?_range hi,Option.map_some,Option.some.injEq] at hz
    rw [← hz,Array.getElem?_eq_getElem hi,List.getElem?_eq_getElem (by omega)]
    rfl
   have hll:l.length = fs.size:=by simp [l]
   have hL:=lay_all (P:=P) (W:=W) (k:=k) l (fun z hz=>by
    obtain ⟨i,hi⟩:=List.mem_iff_getElem?.1 hz
    obtain ⟨f,y,_,q1,q2,rfl⟩:=hlget i z hi
    have q3:=hf i f q1
    rw [q2] at q3
    exact (lay_data k n' f.type _ y (h2 f (by rw [← Array.getElem?_toList] at q1; exact List.mem_of_getElem? q1)) q3).2)
   have hcs:cs = (l.map (·.2.1)).flatten:=by
    rw [k1]
    congr 1
    apply List.ext_getElem?
    intro i
    by_cases hi:i < fs.size
    ·have hlj:∃ z,l[i]? = some z:=⟨l[i]'(by omega),List.getElem?_eq_getElem _⟩
     obtain ⟨z,hz⟩:=hlj
     obtain ⟨f,y,_,q1,_,rfl⟩:=hlget i z hz
     rw [List.getElem?_map,List.getElem?_map,hz,Array.getElem?_toList,q1]
     rfl
    ·rw [List.getElem?_eq_none (by rw [List.length_map]; omega),List.getElem?_eq_none (by rw [List.length_map]; omega)]
   intro nx hg
   obtain ⟨nx',bl,ass,mf,L⟩:=hL nx hg
   have hassl:ass.length = fs.size:=by rw [L.len,hll]
   refine ⟨nx',bl,[ass.flatten],mf,?_⟩
   have hone:∀ v ∈ cs,oneB v = true:=by
    rw [hcs]
    refine one_flatten (fun q c hc=>?_)
    rw [List.getElem?_map] at hc
    cases hq:l[q]? with
    | none=>rw [hq] at hc; cases hc
    | some z=>rw [hq] at hc; cases hc; exact L.one q z hq
   have hlr:∀ m:M,(∀ b,nx ≤ b → b < nx' → m b = mf b) → LR m ass.flatten cs:=fun m hm=>by
    rw [hcs]
    refine wH (by rw [List.length_map,L.len]) (fun i c c' e e'=>?_)
    rw [List.getElem?_map] at e'
    cases hq:l[i]? with
    | none=>rw [hq] at e'; cases e'
    | some z=>rw [hq] at e'; cases e'; exact (L.rel m hm).1 i c z e hq
   exact {
    le:=L.le,len:=rfl,rng:=L.rng,nd:=L.nd,dom:=L.dom
    one:=fun i z e=>by
     cases i with
     | zero=>simp at e; subst e; exact hone
     | succ i=>simp at e
    rel:=fun m hm=>⟨fun i c z e e'=>by
     cases i with
     | zero=>simp at e e'; subst e e'; exact hlr m hm
     | succ i=>simp at e,(L.rel m hm).2⟩
    rd:=fun g hn hb i c z e e'=>by
     cases i with
     | zero =>
      simp at e e'; subst e e'
      have hrd:=L.rd g hn hb
      refine ⟨?_,?_⟩
      ·have:∀ {u:List (List Value)} {w:List (List Value)},u.length = w.length → (∀ (i:Nat) a b,u[i]? = some a → w[i]? = some b → a.length = b.length) → u.flatten.length = w.flatten.length:=by
        intro u
        induction u with
        | nil=>intro w h _; cases w with|nil=>rfl|cons _ _=>simp at h
        | cons a u ih =>
         intro w h hh
         cases w with
         | nil=>simp at h
         | cons b w =>
          rw [List.flatten_cons,List.flatten_cons,List.length_append,List.length_append,hh 0 a b rfl rfl,ih (by simpa using h) fun i c d e e'=>hh (i + 1) c d (by simpa using e) (by simpa using e')]
       show ass.flatten.length = cs.length
       rw [hcs]
       refine this (by rw [List.length_map,L.len]) (fun i c c' e e'=>?_)
       rw [List.getElem?_map] at e'
       cases hq:l[i]? with
       | none=>rw [hq] at e'; cases e'
       | some z=>rw [hq] at e'; cases e'; exact (hrd i c z e hq).1
      ·unfold Rd
       rw [hu]
       refine ⟨xs.map (·.1),ass,rfl,rfl,hassl,by rw [List.length_map,hxl],fun i f c y hfi hc hy=>?_⟩
       have hi:i < fs.size:=(Array.getElem?_eq_some_iff.1 hfi).1
       have hlj:∃ z,l[i]? = some z:=⟨l[i]'(by omega),List.getElem?_eq_getElem _⟩
       obtain ⟨z,hz⟩:=hlj
       obtain ⟨f',y',_,q1,q2,rfl⟩:=hlget i z hz
       rw [q1] at hfi
       cases hfi
       rw [List.getElem?_map,q2] at hy
       cases hy
       obtain ⟨u1,u2⟩:=hrd i c _ hc hz
       refine ⟨u1.trans (k2 f ?_),u2⟩
       rw [← Array.getElem?_toList] at q1
       exact List.mem_of_getElem? q1
     | succ i=>simp at e }
  ·cases h
end
end Go.Ev

/- Calls of functions with slices among their arguments: one run at whatever abstract heap that bears the data. -/
namespace Go.Ev
open Go.RowKit

def argT (tb:Tabs) (f:Nat):Bls → T AObj
 | []=>tabT tb
 | p :: r=>T.set (p.1 + 1) (argT tb f r) p.1 (.cells p.2 f true)

theorem argT_get {tb:Tabs} {f:Nat}:∀ (bl:Bls) (k:Nat) (o:AObj),(argT tb f bl).get k = some o → (∃ cs,(k,cs) ∈ bl ∧ o = .cells cs f true) ∨ (∃ c,o = .tab c ∧ (k,c) ∈ tb)
 | [],k,o,e=>.inr (tabT_get tb k o e)
 | p :: r,k,o,e=>by
  simp only [argT,T.get_set _ _ _ _ _ (Nat.lt_succ_self _)] at e
  split at e
  ·rename_i hk
   cases e
   subst hk
   exact .inl ⟨p.2,by simp,rfl⟩
  ·rcases argT_get r k o e with ⟨cs,h1,h2⟩|h
   ·exact .inl ⟨cs,by simp [h1],h2⟩
   ·exact .inr h

theorem argT_mem {tb:Tabs} {f:Nat}:∀ (bl:Bls),(bl.map (·.1)).Nodup → ∀ p,p ∈ bl → (argT tb f bl).get p.1 = some (.cells p.2 f true)
 | [],_,p,hp=>by cases hp
 | q :: r,hn,p,hp=>by
  rw [List.map_cons,List.nodup_cons] at hn
  simp only [argT,T.get_set _ _ _ _ _ (Nat.lt_succ_self _)]
  rcases List.mem_cons.1 hp with rfl|hp
  ·rw [if_pos rfl]
  ·rw [if_neg (fun e=>hn.1 (List.mem_map.2 ⟨p,hp,e⟩))]
   exact argT_mem r hn.2 p hp

theorem argT_tab {tb:Tabs} {f:Nat}:∀ (bl:Bls) (k:Nat),(∀ p,p ∈ bl → k < p.1) → (argT tb f bl).get k = (tabT tb).get k
 | [],_,_=>rfl
 | q :: r,k,h=>by
  simp only [argT,T.get_set _ _ _ _ _ (Nat.lt_succ_self _)]
  rw [if_neg (by have:=h q (by simp); omega)]
  exact argT_tab r k fun p hp=>h p (by simp [hp])

/-- An argument of these cells. -/
def toV:Value → List Value → Value
 | .agg _,cs=>.agg ⟨cs⟩
 | _,cs=>cs.headD undef

def ArgsRd {H:Type} (P:Program) (h:AHeap) (k:Nat):List TypeId → List Value → List Value → List (DataW H) → Prop
 | [],[],[],[]=>True
 | t :: ts,v :: vs,a :: as,d :: ds=>(∃ cs,a = toV v cs ∧ Rd P h k t cs d) ∧ ArgsRd P h k ts vs as ds
 | _,_,_,_=>False

section
variable {H:Type} {enc:TypeId × Value → H} {P:Program} {W:World}

def itemsOf:List TypeId → List Value → List (DataW H) → List (Item H)
 | t :: ts,v :: vs,d :: ds=>(t,v.cells.toList,d) :: itemsOf ts vs ds
 | _,_,_=>[]

theorem items_lay {k:Nat}:∀ {ts:List TypeId} {vs:List Value} {ds:List (DataW H)} {ps:List MemPlace},DataW.TrodAll enc P W 0 (fun _=>true) true ts vs ds ps → (∀ t,t ∈ ts → tC P k t = true) → Lay1 P W k (itemsOf ts vs ds)
 | [],[],[],_,_,_=>lay_nil k
 | t :: ts,v :: vs,d :: ds,ps,h,hk=>by
  obtain ⟨p,q,⟨n,h1⟩,h2,_⟩:=h
  exact lay_cons (lay_data k n t _ _ (hk t (by simp)) h1).2 (items_lay h2 fun t ht=>hk t (by simp [ht]))
 | [],_ :: _,_,_,h,_=>h.elim
 | [],[],_ :: _,_,h,_=>h.elim
 | _ :: _,[],_,_,h,_=>h.elim
 | _ :: _,_ :: _,[],_,h,_=>h.elim

def argsOf:List Value → List (List Value) → List Value
 | v :: vs,c :: cs=>toV v c :: argsOf vs cs
 | _,_=>[]

theorem toV_rel {m:M} {v:Value} {c:List Value} (hl:LR m c v.cells.toList) (h1:∀ u ∈ v.cells.toList,oneB u = true):VR m (toV v c) v:=by
 have one:∀ {x:Value},LR m c [x] → VR m (c.headD undef) x:=fun {x} h=>by
  cases h with
  | cons a b=>exact a
 cases v<;>first|(exact .agg hl h1)|exact one hl

theorem items_rel {k nx nx':Nat} {bl:Bls} {mf:Nat → Option (Nat × Nat)} {m:M}:∀ {ts:List TypeId} {vs:List Value} {ds:List (DataW H)} {ps:List MemPlace} {ass:List (List Value)},DataW.TrodAll enc P W 0 (fun _=>true) true ts vs ds ps →
  ass.length = (itemsOf ts vs ds).length → (∀ (i:Nat) a (x:Item H),ass[i]? = some a → (itemsOf ts vs ds)[i]? = some x → LR m a x.2.1) → (∀ (i:Nat) (x:Item H),(itemsOf ts vs ds)[i]? = some x → ∀ v ∈ x.2.1,oneB v = true) →
  LR m (argsOf vs ass) vs
 | [],[],[],_,_,_,_,_,_=>.nil
 | t :: ts,v :: vs,d :: ds,ps,ass,h,hl,hr,h1=>by
  obtain ⟨p,q,_,h2,_⟩:=h
  cases ass with
  | nil=>simp [itemsOf] at hl
  | cons a ass =>
   exact .cons (toV_rel (hr 0 a _ rfl rfl) (h1 0 _ rfl)) (items_rel (k:=k) (nx:=nx) (nx':=nx') (bl:=bl) (mf:=mf) h2 (by simpa [itemsOf] using hl) (fun i a x e e'=>hr (i + 1) a x (by simpa using e) (by simpa [itemsOf] using e')) fun i x e=>h1 (i + 1) x (by simpa [itemsOf] using e))
 | [],_ :: _,_,_,_,h,_,_,_=>h.elim
 | [],[],_ :: _,_,_,h,_,_,_=>h.elim
 | _ :: _,[],_,_,_,h,_,_,_=>h.elim
 | _ :: _,_ :: _,[],_,_,h,_,_,_=>h.elim

theorem items_rd {k:Nat} {g:AHeap}:∀ {ts:List TypeId} {vs:List Value} {ds:List (DataW H)} {ps:List MemPlace} {ass:List (List Value)},DataW.TrodAll enc P W 0 (fun _=>true) true ts vs ds ps →
  ass.length = (itemsOf ts vs ds).length → (∀ (i:Nat) a (x:Item H),ass[i]? = some a → (itemsOf ts vs ds)[i]? = some x → Rd P g k x.1 a x.2.2) → ArgsRd P g k ts vs (argsOf vs ass) ds
 | [],[],[],_,_,_,_,_=>trivial
 | t :: ts,v :: vs,d :: ds,ps,ass,h,hl,hr=>by
  obtain ⟨p,q,_,h2,_⟩:=h
  cases ass with
  | nil=>simp [itemsOf] at hl
  | cons a ass=>exact ⟨⟨a,rfl,hr 0 a _ rfl rfl⟩,items_rd h2 (by simpa [itemsOf] using hl) fun i a x e e'=>hr (i + 1) a x (by simpa using e) (by simpa [itemsOf] using e')⟩
 | [],_ :: _,_,_,_,h,_,_=>h.elim
 | [],[],_ :: _,_,_,h,_,_=>h.elim
 | _ :: _,[],_,_,_,h,_,_=>h.elim
 | _ :: _,_ :: _,[],_,_,h,_,_=>h.elim

theorem wr_args {k:Nat} {tb:Tabs} (hw:TabsIn P tb W) (hg:∀ p,p ∈ tb → p.1 < P.globals.size) {ts:List TypeId} {vs:List Value} {ds:List (DataW H)} {ps:List MemPlace} (hT:DataW.TrodAll enc P W 0 (fun _=>true) true ts vs ds ps) (hk:∀ t,t ∈ ts → tC P k t = true) :
  ∃ (m:M) (h:AHeap) (as:List Value),WR P m (base W) h W ∧ LR m as vs ∧ (∀ b,b < P.globals.size → h.bl.get b = (tabT tb).get b) ∧ P.globals.size < h.nx ∧ ArgsRd P h k ts vs as ds:=by
 obtain ⟨nx',bl,ass,mf,L⟩:=items_lay (k:=k) hT hk (P.globals.size + 1) (Nat.lt_succ_self _)
 have hle:=L.le
 let G:=P.globals.size
 let m:M:=⟨fun b=>if b < P.globals.size then some (b,0) else mf b,fun _=>none⟩
 let h:AHeap:=⟨argT tb P.globals.size bl,nx',.leaf⟩
 have hm:∀ b,P.globals.size + 1 ≤ b → b < nx' → m b = mf b:=fun b h1 _=>if_neg (by omega)
 obtain ⟨r1,r2⟩:=L.rel m hm
 have hbl:∀ b o,h.bl.get b = some o → (∃ cs,(b,cs) ∈ bl ∧ o = .cells cs P.globals.size true) ∨ (∃ c,o = .tab c ∧ (b,c) ∈ tb):=fun b o e=>argT_get bl b o e
 have hro:∀ b o,h.bl.get b = some o → isRo o = true:=fun b o e=>by
  rcases hbl b o e with ⟨_,_,rfl⟩|⟨_,rfl,_⟩<;>rfl
 have hdom:∀ b B D,m b = some (B,D) → B < W.heap.size:=fun b B D e=>by
  have h1:=hw.1
  by_cases hb:b < P.globals.size
  ·have:m b = some (b,0):=if_pos hb
   rw [this] at e; cases e; omega
  ·have:m b = mf b:=if_neg hb
   rw [this] at e
   exact (L.dom b B D e).2.2
 refine ⟨m,h,argsOf vs ass,?_,items_rel (k:=k) (nx:=0) (nx':=0) (bl:=bl) (mf:=mf) hT L.len r1 L.one,fun b hb=>argT_tab bl b fun p hp=>?_,?_,?_⟩
 ·exact {
   obj:=fun b o e=>by
    rcases hbl b o e with ⟨cs,hmem,rfl⟩|⟨c,rfl,hmem⟩
    ·obtain ⟨B,D,q1,q2⟩:=r2 _ hmem
     have hb:=L.rng _ hmem
     have hmb:m b = some (B,D):=(hm b hb.1 hb.2).trans q1
     refine ⟨B,D,hmb,fun i v hv=>?_,(fun hr=>by cases hr),fun _=>hdom b B D hmb⟩
     obtain ⟨v',u1,u2,u3⟩:=q2 i v hv
     exact ⟨v',u1,u2,u3,fun hr=>by cases hr⟩
    ·have hb:b < P.globals.size:=hg _ hmem
     exact ⟨b,0,if_pos hb,hw.2 _ hmem,(fun hr=>by cases hr),fun _=>Nat.lt_of_lt_of_le hb hw.1⟩
   fresh:=fun b hb=>by
    have hb':nx' ≤ b:=hb
    refine ⟨?_,?_⟩
    ·show (if b < P.globals.size then some (b,0) else mf b) = none
     rw [if_neg (by omega)]
     cases hq:mf b with
     | none=>rfl
     | some x =>
      have:=L.dom b x.1 x.2 hq
      omega
    ·cases hq:h.bl.get b with
     | none=>rfl
     | some o =>
      rcases hbl b o hq with ⟨cs,hmem,_⟩|⟨c,_,hmem⟩
      ·have:=L.rng _ hmem
       have h2:b < nx':=this.2
       omega
      ·have:b < P.globals.size:=hg _ hmem
       omega
   spn:=fun _ _=>rfl
   spf:=fun _ _ _ _ _=>rfl
   spr:=fun b B d z E _ h=>by cases h
   dom:=hdom
   apart:=fun b₁ b₂ o₁ o₂ B d₁ d₂ h1 h2 _ _ _=>.inl ⟨hro _ _ h1,hro _ _ h2⟩
   kin:=fun b c f e=>by
    have:=hro _ _ e
    cases this
   fam:=fun b c f ro e=>by
    rcases hbl b _ e with ⟨cs,hmem,e2⟩|⟨c,e2,_⟩
    ·cases e2
     show P.globals.size < nx'
     omega
    ·cases e2
   below:=Below.refl _ _
   glob:=fun g hg=>if_pos hg
   res:=fun r e=>by simp [h,T.get_leaf] at e
   park:=fun _ _ e=>e.elim }
 ·have:=L.rng p hp
  omega
 ·show P.globals.size < nx'
  omega
 ·exact items_rd hT L.len fun i a x e e'=>(L.rd h (Nat.le_refl _) (fun p hp=>⟨_,argT_mem bl L.nd p hp⟩) i a x e e').2

/-- One run at whatever heap that bears the data. -/
theorem calls_args {k:Nat} {tb:Tabs} (hg:∀ p,p ∈ tb → p.1 < P.globals.size) {f:FuncId} {fn:Func} {c:Code} (hf:P.funcs[f]? = some fn) (hb:fn.body = some c) (hname:(fn.name == "runtime.NumGoroutine") = false)
  {ts:List TypeId} {args:Array Value} {ds:List (DataW H)} {ps:List MemPlace} (hT:DataW.TrodAll enc P W 0 (fun _=>true) true ts args.toList ds ps) (hk:∀ t,t ∈ ts → tC P k t = true) (hlen:Nat.ble args.toList.length fn.ntmps = true) {v:Value} (hplain:plainB v = true) (hw:TabsIn P tb W)
  (e:∀ (h:AHeap) (as:List Value),(∀ b,b < P.globals.size → h.bl.get b = (tabT tb).get b) → P.globals.size < h.nx → ArgsRd P h k ts args.toList as ds →
   exA P fn.ntmps none c (bJ as) h [] (finish P fn fun u _=>@decide (u = v) (Classical.propDecidable _)) = true) :
  Calls P f args W fun e w'=>e = .returned v ∧ Below W.heap.size W w':=by
 obtain ⟨m,h,as,hW,hl,h1,h2,h3⟩:=wr_args (k:=k) hw hg hT hk
 have hlen2:Nat.ble as.length fn.ntmps = true:=by rw [hl.length]; exact hlen
 have e2:iE (exA P) P fn c as h (fun u _=>@decide (u = v) (Classical.propDecidable _)) = true:=by
  unfold iE
  rw [hname,cond_false,hlen2,cond_true,lN]
  exact e h as h1 h2 h3
 obtain ⟨_,kk⟩:=kT (rd:=none) (nn:=0) (exA_sound P) hf hb hW hl e2 (R:=fun v' w'=>v' = v ∧ Below W.heap.size W w') (fun m' u v' h' w' hle hv hW hK=>by
  have hP:=@of_decide_eq_true _ (Classical.propDecidable _) hK
  subst hP
  exact ⟨(rX _ _ hplain hv).symm,hW.below⟩)
 have k2:CallsIn Fence.wide 0 P f args.toList.toArray W _:=kk
 rw [Array.toArray_toList] at k2
 refine (callsIn_wide.1 k2).mono fun e w' he=>?_
 cases e with
 | returned u=>exact ⟨by rw [he.1],he.2⟩
 | panicked _=>exact he.elim
 | outgrown=>exact he.elim

/-! ## The arguments read as before -/
theorem contF_spec {sz:Nat}:∀ (fs:List Field) (off:Nat),contF P fs off sz = true → sz = off + (fs.map fun f=>P.cellsOf f.type).sum ∧ ∀ (j:Nat) f,fs[j]? = some f → f.offset = off + ((fs.take j).map fun f=>P.cellsOf f.type).sum
 | [],off,h=>by
  have:=Nat.eq_of_beq_eq_true h
  refine ⟨by simp; omega,fun j f e=>by simp at e⟩
 | g :: fs,off,h=>by
  simp only [contF,Bool.and_eq_true] at h
  have h1:=Nat.eq_of_beq_eq_true h.1
  obtain ⟨k1,k2⟩:=contF_spec fs _ h.2
  refine ⟨by rw [List.map_cons,List.sum_cons]; omega,fun j f e=>?_⟩
  cases j with
  | zero=>simp at e; subst e; simp [h1]
  | succ j =>
   have:=k2 j f (by simpa using e)
   rw [List.take_succ_cons,List.map_cons,List.sum_cons]
   omega

theorem kids_ok:Kids P fun t=>∃ k,tC P k t = true where
 pointer:=fun {t e} ⟨k,h⟩ hu=>by
  cases k with
  | zero=>cases h
  | succ k=>unfold tC at h; rw [hu] at h; cases h
 slice:=fun {t e} ⟨k,h⟩ hu=>by
  cases k with
  | zero=>cases h
  | succ k =>
   unfold tC at h; rw [hu] at h
   simp only [Bool.and_eq_true] at h
   exact ⟨k,h.2.2⟩
 array:=fun {t e n} ⟨k,h⟩ hu=>by
  cases k with
  | zero=>cases h
  | succ k=>unfold tC at h; rw [hu] at h; cases h
 struct:=fun {t fs} ⟨k,h⟩ hu=>by
  cases k with
  | zero=>cases h
  | succ k =>
   unfold tC at h; rw [hu] at h
   simp only [Bool.and_eq_true,List.all_eq_true] at h
   obtain ⟨q1,q2⟩:=contF_spec fs.toList 0 h.1
   refine ⟨fun f hf=>⟨k,h.2 f hf⟩,by rw [Nat.zero_add] at q1; exact q1,fun j f e=>?_⟩
   have:=q2 j f e
   rwa [Nat.zero_add] at this
 map:=fun {t k' e} ⟨k,h⟩ hu=>by
  cases k with
  | zero=>cases h
  | succ k=>unfold tC at h; rw [hu] at h; cases h

theorem vS {k:Nat} {W':World} {sp:Nat → Bool} (hB:Below W.heap.size W W'):∀ {ts:List TypeId} {vs:List Value} {ds:List (DataW H)} {ps:List MemPlace},DataW.TrodAll enc P W 0 (fun _=>true) true ts vs ds ps → (∀ t,t ∈ ts → tC P k t = true) →
  (∀ p ∈ ps,p.block < W.heap.size) → (∀ p ∈ ps,sp p.block = true) → DataW.TrodAll enc P W' 0 sp true ts vs ds ps
 | [],[],[],_,h,_,_,_=>h
 | t :: ts,v :: vs,d :: ds,ps,h,hk,hlt,hs=>by
  obtain ⟨p,q,⟨n,h1⟩,h2,rfl⟩:=h
  refine ⟨p,q,⟨n,DataW.trod_stays (T:=fun t=>∃ k,tC P k t = true) kids_ok (fun {t e} ⟨k,h⟩ hu=>?_) (fun h=>by cases h) ⟨k,hk t (by simp)⟩ h1 (fun x hx=>hB.same (hlt x (List.mem_append.2 (.inl hx)))) fun x hx=>hs x (List.mem_append.2 (.inl hx))⟩,
   vS hB h2 (fun t ht=>hk t (by simp [ht])) (fun x hx=>hlt x (List.mem_append.2 (.inr hx))) (fun x hx=>hs x (List.mem_append.2 (.inr hx))),rfl⟩
  cases k with
  | zero=>cases h
  | succ k =>
   unfold tC at h; rw [hu] at h
   simp only [Bool.and_eq_true] at h
   exact Nat.le_of_ble_eq_true h.2.1
 | [],_ :: _,_,_,h,_,_,_=>h.elim
 | [],[],_ :: _,_,h,_,_,_=>h.elim
 | _ :: _,[],_,_,h,_,_,_=>h.elim
 | _ :: _,_ :: _,[],_,h,_,_,_=>h.elim
end
end Go.Ev

/- Regions that draw their order, over states of which some is not known. -/
namespace Go.Ev
open Go.RowKit

/-- The operations with what is known of each: whether it writes, and which come before it. -/
def infoL:List Oper → List (Bool × Nat) → Nat → List Info
 | o :: l,p :: ms,i=>{ i:=i,o:=o,w:=p.1,pre:=p.2 } :: infoL l ms (i + 1)
 | _,_,_=>[]

section
variable {P:Program} {pr:Prim} {R:ExT} {n:Nat} {rd:Option Nat} {t:T Value} {h:AHeap} {ds:List Nat} {K:KT} {ops:Array Oper} {call:CallT}

theorem infoGo_L:∀ (l:List Oper) (i:Nat) (bs:List Nat) (ms:List (Bool × Nat)),(kS P ops l i bs).map (fun a=>(a.w,a.pre)) = ms → kS P ops l i bs = infoL l ms i
 | [],_,_,ms,e=>by
  cases ms with
  | nil=>rfl
  | cons _ _=>cases e
 | o :: l,i,bs,ms,e=>by
  simp only [kS,List.map_cons] at e
  cases ms with
  | nil=>cases e
  | cons p ms =>
   simp only [List.cons.injEq] at e
   obtain ⟨e1,e2⟩:=e
   subst e1
   simp only [kS,infoL]
   rw [infoGo_L l (Nat.succ i) _ ms e2]

theorem Steps.drawnL (S:Steps P pr R) {id:Nat} (ms:List (Bool × Nat)) (hr:nC P ops = true) (hmw:manyW P ops = false) (hm:(infos P ops).map (fun a=>(a.w,a.pre)) = ms)
  (k:bQ P (bW pr (cZ P R)) ops n 0 [] (Nat.succ ops.size) (infoL ops.toList ms 0) 0 [] t h (fun t h=>K .normal t h ds) = true):R n rd (.region id ops true) t h ds K = true:=by
 refine S.drawn hr hmw ?_
 unfold infos at hm ⊢
 rw [infoGo_L _ _ _ _ hm]
 exact k

variable {f:Nat} {o:Oper} {l:List Info} {i m done:Nat} {hist:List Seen} {KR:T Value → AHeap → Bool} {dst:Option Tmp} {op:Op} {ty:TypeId} {pos:String} {af:Array Edge} {g:Option (Nat × Bool)} {d:Tmp}

/-- Behind an operation that reads. -/
def drR (want:Option Bool) (r:Option Value) (P:Program) (call:CallT) (ops:Array Oper) (n f:Nat) (l:List Info) (done i:Nat) (o:Oper) (hist:List Seen) (t:T Value) (h:AHeap) (KR:T Value → AHeap → Bool):Bool:=
 match want with
 | none=>false
 | some false=>iV t n o.dst undef fun t=>bQ P call ops n 0 [] f l (Nat.lor done (Nat.pow 2 i)) hist t h KR
 | some true =>
  match r with
  | none=>false
  | some v=>iV t n o.dst v fun t'=>bQ P call ops n 0 [] f l (Nat.lor done (Nat.pow 2 i)) ({ i:=i,o:=o,t:=t,v:=v } :: hist) t' h KR

theorem draw_nil:bQ P call ops n 0 [] (f + 1) [] done hist t h KR = KR t h:=(rfl)

theorem draw_read (hr:Nat.beq (Nat.land m done) m = true):bQ P call ops n 0 [] (f + 1) ({ i:=i,o:=o,w:=false,pre:=m } :: l) done hist t h KR = drR (fB t ops o.guard) (dE P t h o) P call ops n f l done i o hist t h KR:=by
 simp only [bQ,iK,hr,Bool.not_false,Bool.true_and,cond_true,drR,aZ,bP]
 cases fB t ops o.guard with
 | none=>rfl
 | some b =>
  cases b with
  | false=>rfl
  | true=>cases dE P t h o<;>rfl

theorem drR_no {r:Option Value} (hd:d < n):drR (some false) r P call ops n f l done i ⟨some d,op,ty,pos,af,g⟩ hist t h KR = bQ P call ops n 0 [] f l (Nat.lor done (Nat.pow 2 i)) hist (T.set (d + 1) t d undef) h KR:=by
 have:Nat.blt d n = true:=by rw [Nat.blt_eq]; exact hd
 simp only [drR,iV,this,cond_true,aZ,T.setK_eq]
theorem drR_yes {v:Value} (hd:d < n):drR (some true) (some v) P call ops n f l done i ⟨some d,op,ty,pos,af,g⟩ hist t h KR = bQ P call ops n 0 [] f l (Nat.lor done (Nat.pow 2 i)) ({ i:=i,o:=⟨some d,op,ty,pos,af,g⟩,t:=t,v:=v } :: hist) (T.set (d + 1) t d v) h KR:=by
 have:Nat.blt d n = true:=by rw [Nat.blt_eq]; exact hd
 simp only [drR,iV,this,cond_true,aZ,T.setK_eq]

/-- None of these is ready. -/
def quiet (done:Nat):List Info → Bool
 | []=>true
 | a :: l=>!(Nat.beq (Nat.land a.pre done) a.pre) && quiet done l

theorem quiet_pick:∀ (l:List Info),quiet done l = true → iK done l = none
 | [],_=>rfl
 | a :: l,e=>by
  simp only [quiet,Bool.and_eq_true,Bool.not_eq_true'] at e
  simp only [iK,e.1,Bool.and_false,cond_false,quiet_pick l e.2]
theorem quiet_wr:∀ (l:List Info),quiet done l = true → dN done l = []
 | [],_=>rfl
 | a :: l,e=>by
  simp only [quiet,Bool.and_eq_true,Bool.not_eq_true'] at e
  have ih:=quiet_wr l e.2
  unfold dN at ih ⊢
  simp only [splits,List.filter_cons,e.1,Bool.and_false]
  rw [List.filter_map]
  simp only [Bool.false_eq_true,if_false,List.map_eq_nil_iff]
  exact ih

/-- Behind an operation that writes. -/
def drW (want:Option Bool) (P:Program) (call:CallT) (ops:Array Oper) (n f:Nat) (l:List Info) (done i m:Nat) (o:Oper) (hist:List Seen) (t:T Value) (h:AHeap) (KR:T Value → AHeap → Bool):Bool:=
 match want with
 | none=>false
 | some false=>iV t n o.dst undef fun t=>bQ P call ops n 0 [] f l (Nat.lor done (Nat.pow 2 i)) hist t h KR
 | some true=>bI P call t h o fun v h'=>bif again P h' m hist then iV t n o.dst v fun t=>bQ P call ops n 0 [] f l (Nat.lor done (Nat.pow 2 i)) hist t h' KR else false

theorem draw_write (hr:Nat.beq (Nat.land m done) m = true) (hq:quiet done l = true):bQ P call ops n 0 [] (f + 1) ({ i:=i,o:=o,w:=true,pre:=m } :: l) done hist t h KR = drW (fB t ops o.guard) P call ops n f l done i m o hist t h KR:=by
 have h1:iK done ({ i:=i,o:=o,w:=true,pre:=m } :: l) = none:=by simp only [iK,Bool.not_true,Bool.false_and,cond_false,quiet_pick l hq]
 have h2:dN done ({ i:=i,o:=o,w:=true,pre:=m } :: l) = [({ i:=i,o:=o,w:=true,pre:=m },l)]:=by
  have:=quiet_wr l hq
  unfold dN at this ⊢
  simp only [splits,List.filter_cons,hr,Bool.and_self,if_true]
  rw [List.filter_map]
  simp only [List.cons.injEq,true_and,List.map_eq_nil_iff]
  exact this
 simp only [bQ,h1,h2,chosen,Nat.zero_testBit,List.filter_cons,List.filter_nil,Bool.not_false,if_true,allB,drW,bP,idAt,jV,jU,cond_false]
 cases fB t ops o.guard with
 | none=>rfl
 | some b=>cases b<;>rfl

theorem drW_no (hd:d < n):drW (some false) P call ops n f l done i m ⟨some d,op,ty,pos,af,g⟩ hist t h KR = bQ P call ops n 0 [] f l (Nat.lor done (Nat.pow 2 i)) hist (T.set (d + 1) t d undef) h KR:=by
 have:Nat.blt d n = true:=by rw [Nat.blt_eq]; exact hd
 simp only [drW,iV,this,cond_true,aZ,T.setK_eq]

theorem aK {pre:Nat}:again P h pre [] = true:=(rfl)
theorem aG {pre j:Nat} {t':T Value} {v:Value} {r:List Seen} (hb:Nat.testBit pre j = true):again P h pre ({ i:=j,o:=o,t:=t',v:=v } :: r) = again P h pre r:=by
 simp only [again,hb,Bool.or_true,Bool.true_or,Bool.true_and]
theorem aH {pre j:Nat} {t':T Value} {v:Value} {r:List Seen} (hb:isReadOp o.op = false):again P h pre ({ i:=j,o:=o,t:=t',v:=v } :: r) = again P h pre r:=by
 simp only [again,hb,Bool.not_false,Bool.true_or,Bool.true_and]
theorem bF {pre j:Nat} {t':T Value} {v:Value} {r:List Seen} (ha:dE P t' h o = some v) (hv:veq v v = true):again P h pre ({ i:=j,o:=o,t:=t',v:=v } :: r) = again P h pre r:=by
 simp only [again,ha,hv,Bool.or_true,Bool.true_and]

end

end Go.Ev

/- Runs from heaps of which some is not known: what a call leaves as it was, and slices in such heaps. -/
namespace Go.Ev
open Go.RowKit

/-- All that was there is as it was. -/
def Kp (h h':AHeap):Prop:=h.nx ≤ h'.nx ∧ ∀ b,b < h.nx → h'.bl.get b = h.bl.get b ∧ h'.fams.get b = h.fams.get b

section
variable {h h' h'':AHeap} {c:List Value} {B fam:Nat}
theorem Kp.refl:Kp h h:=⟨Nat.le_refl _,fun _ _=>⟨rfl,rfl⟩⟩
theorem Kp.trans (a:Kp h h') (b:Kp h' h''):Kp h h'':=⟨Nat.le_trans a.1 b.1,fun k hk=>⟨(b.2 k (Nat.lt_of_lt_of_le hk a.1)).1.trans (a.2 k hk).1,(b.2 k (Nat.lt_of_lt_of_le hk a.1)).2.trans (a.2 k hk).2⟩⟩
theorem aP (e:B = h.nx):(h.add c).bl.get B = some (.cells c B false):=by subst e; exact add_eq c
theorem aW (e:B ≠ h.nx):(h.add c).bl.get B = h.bl.get B:=add_ne c e
theorem dL (e:B = h.nx):(h.add c).fams.get B = some [B]:=by subst e; exact add_fe c
theorem nD (e:B ≠ h.nx):(h.add c).fams.get B = h.fams.get B:=add_fn c e
theorem Kp.add (a:Kp h h'):Kp h (h'.add c):=⟨Nat.le_succ_of_le a.1,fun k hk=>by
 have:=a.1
 rw [aW (by omega),nD (by omega)]
 exact a.2 k hk⟩
theorem Kp.upd (a:Kp h h') (hB:h.nx ≤ B):Kp h (h'.upd B c fam):=⟨a.1,fun k hk=>by
 rw [upd_ne _ _ _ (by omega)]
 exact ⟨(a.2 k hk).1,(a.2 k hk).2⟩⟩
theorem Kp.get (a:Kp h h') (hB:B < h.nx):h'.bl.get B = h.bl.get B:=(a.2 B hB).1
theorem Kp.fget (a:Kp h h') (hB:B < h.nx):h'.fams.get B = h.fams.get B:=(a.2 B hB).2
end

/-- What a call returns, and what it leaves. -/
def bD (P:Program) (R:ExT) (g:FuncId) (args:List Value) (h:AHeap) (Post:Value → AHeap → Prop):Prop:=
 ∀ K:KV,(∀ v h',Kp h h' → Post v h' → K v h' = true) → dU P R g args h K = true

section
variable {P:Program} {pr:Prim} {R:ExT}
theorem aV {g:FuncId} {args:List Value} {h:AHeap} {Post:Value → AHeap → Prop} {fn:Func} {c:Code} (hf:P.funcs[g]? = some fn) (hb:fn.body = some c) (hname:(fn.name == "runtime.NumGoroutine") = false) (hlen:Nat.ble args.length fn.ntmps = true)
  (run:∀ K:KV,(∀ v h',Kp h h' → Post v h' → K v h' = true) → R fn.ntmps none c (bJ args) h [] (finish P fn K) = true):bD P R g args h Post:=by
 intro K hK
 unfold dU
 simp only [hf,hb]
 unfold iE
 rw [hname,cond_false,hlen,cond_true,lN]
 exact run K hK

variable {ops:Array Oper} {n:Nat} {rest:List Oper} {t:T Value} {h:AHeap} {KR:T Value → AHeap → Bool} {dst:Option Tmp}
/-- A call of which it is known what it returns. -/
theorem bC {f:Operand} {as:Array Operand} {ts:Array TypeId} {fid:FuncId} {first captured:Array Value} {Post:Value → AHeap → Prop} (hf:ev P t f = .func (.func fid) first captured)
  (hp:pr fid (first.toList ++ evL P t as.toList ++ captured.toList) h = none) (hy:bD P R fid (first.toList ++ evL P t as.toList ++ captured.toList) h Post)
  (k:∀ v h',Kp h h' → Post v h' → jA P (bW pr (cZ P R)) ops n rest dst t v h' KR = true) :
  wrR P (bW pr (cZ P R)) ops n rest (.call ⟨.value f,as,ts⟩) dst t h KR = true:=by
 simp only [wrR,bI,kR,hf,bW,hp,cZ]
 exact hy _ k
end

/-! ## Slices -/
/-- A slice whose elements have these cells. -/
def SlAt (h:AHeap) (sz:Nat) (v:Value) (cs:List (List Value)):Prop:=
 (cs = [] ∧ (v = .slice none 0 0 ∨ v = emptyS)) ∨
  ∃ b cap f ro,cs ≠ [] ∧ v = .slice (some ⟨b,0,none⟩) cs.length cap ∧ b < h.nx ∧ h.bl.get b = some (.cells cs.flatten f ro) ∧ ∀ c,c ∈ cs → c.length = sz

section
variable {P:Program} {t:T Value} {h h':AHeap} {sz:Nat} {v:Value} {cs:List (List Value)} {a e:TypeId}
theorem SlAt.mono (k:SlAt h sz v cs) (hk:Kp h h'):SlAt h' sz v cs:=by
 rcases k with k|⟨b,cap,f,ro,k1,k2,k3,k4,k5⟩
 ·exact .inl k
 ·exact .inr ⟨b,cap,f,ro,k1,k2,Nat.lt_of_lt_of_le k3 hk.1,(hk.get k3).trans k4,k5⟩

theorem SlAt.len (k:SlAt h sz v cs) (ha:jW P a = true) (h1:AHeap) (o:Oper):qJ P t h1 o a v = some (.int .i64 (cs.length:Int)):=by
 rcases k with ⟨rfl,rfl|rfl⟩|⟨b,cap,f,ro,k1,rfl,_⟩
 ·exact lT ha
 ·exact lT ha
 ·exact lT ha

theorem SlAt.idx (k:SlAt h sz v cs) (h1:fE P a = some e) (h2:bH P e = some sz) {i:Nat} (hi:i < cs.length):∃ b f ro,(∀ kd:IntKind,bY P a v (.int kd (i:Int)) = some (.pointer (some ⟨b,i * sz,none⟩))) ∧ b < h.nx ∧ h.bl.get b = some (.cells cs.flatten f ro):=by
 rcases k with ⟨rfl,_⟩|⟨b,cap,f,ro,_,rfl,k3,k4,_⟩
 ·simp at hi
 ·refine ⟨b,f,ro,fun kd=>?_,k3,k4⟩
  rw [eQ h1 h2 hi,Nat.zero_add]

theorem SlAt.sized (k:SlAt h sz v cs):∀ c,c ∈ cs → c.length = sz:=by
 rcases k with ⟨rfl,_⟩|⟨b,cap,f,ro,_,rfl,_,_,k5⟩
 ·intro c hc; cases hc
 ·exact k5

theorem flat_get:∀ {cs:List (List Value)},(∀ c,c ∈ cs → c.length = sz) → ∀ {i j:Nat} {c:List Value} {x:Value},cs[i]? = some c → c[j]? = some x → cs.flatten[i * sz + j]? = some x
 | [],_,i,_,_,_,e,_=>by simp at e
 | d :: cs,hs,i,j,c,x,e,ex=>by
  rw [List.flatten_cons]
  have hd:=hs d (by simp)
  cases i with
  | zero =>
   simp at e; subst e
   rw [Nat.zero_mul,Nat.zero_add,List.getElem?_append_left (List.getElem?_eq_some_iff.1 ex).1]
   exact ex
  | succ i =>
   rw [List.getElem?_append_right (by rw [hd,Nat.succ_mul]; omega)]
   have:=flat_get (cs:=cs) (fun c hc=>hs c (by simp [hc])) (i:=i) (j:=j) (by simpa using e) ex
   rw [show (i + 1) * sz + j - d.length = i * sz + j from by rw [hd,Nat.succ_mul]; omega]
   exact this

theorem flat_part:∀ {cs:List (List Value)},(∀ c,c ∈ cs → c.length = sz) → ∀ {i:Nat} {c:List Value},cs[i]? = some c → (cs.flatten.drop (i * sz)).take sz = c ∧ i * sz + sz ≤ cs.flatten.length
 | [],_,i,_,e=>by simp at e
 | d :: cs,hs,i,c,e=>by
  rw [List.flatten_cons]
  have hd:=hs d (by simp)
  cases i with
  | zero =>
   simp at e; subst e
   rw [Nat.zero_mul,List.drop_zero,← hd,List.take_left' rfl,List.length_append]
   exact ⟨rfl,by omega⟩
  | succ i =>
   obtain ⟨k1,k2⟩:=flat_part (cs:=cs) (fun c hc=>hs c (by simp [hc])) (i:=i) (by simpa using e)
   rw [List.drop_append,show (i + 1) * sz - d.length = i * sz from by rw [hd,Nat.succ_mul]; omega,List.drop_eq_nil_of_le (by rw [hd,Nat.succ_mul]; omega),List.nil_append,List.length_append]
   exact ⟨k1,by rw [Nat.succ_mul,hd]; omega⟩
end

/-- A slice that is read is one. -/
theorem rd_slice_at {H:Type} {P:Program} {h:AHeap} {k:Nat} {t e:TypeId} {cs:List Value} {d:DataW H} (hu:P.underlying t = some (.slice e)) (hd:Rd P h (k + 1) t cs d) :
  ∃ v css els,cs = [v] ∧ SlAt h (P.cellsOf e) v css ∧ css.length = els.length ∧ (∀ (i:Nat) c y,css[i]? = some c → els[i]? = some y → Rd P h k e c y) ∧ css.length ≤ maxLen ∧
   (d = .nil ∧ els = [] ∨ ∃ sp,d = .slice els sp):=by
 unfold Rd at hd
 rw [hu] at hd
 rcases hd with ⟨rfl,rfl⟩|⟨sp,rfl,rfl⟩|⟨b,els,sp,css,f,hne,rfl,rfl,hm,h1,h2,h3,h4,h5⟩
 ·exact ⟨_,[],[],rfl,.inl ⟨rfl,.inl rfl⟩,rfl,fun i c y e=>by simp at e,Nat.zero_le _,.inl ⟨rfl,rfl⟩⟩
 ·exact ⟨_,[],[],rfl,.inl ⟨rfl,.inr rfl⟩,rfl,fun i c y e=>by simp at e,Nat.zero_le _,.inr ⟨sp,rfl⟩⟩
 ·refine ⟨_,css,els,rfl,.inr ⟨b,els.length + sp.length,f,true,?_,by rw [h4],h2,h3,fun c hc=>?_⟩,h4,fun i c y e1 e2=>(h5 i c y e1 e2).2,by omega,.inr ⟨sp,rfl⟩⟩
  ·intro e
   rw [e] at h4
   exact hne (List.length_eq_zero_iff.1 h4.symm)
  ·obtain ⟨i,hi⟩:=List.mem_iff_getElem?.1 hc
   have hlt:i < els.length:=by
    have:=(List.getElem?_eq_some_iff.1 hi).1
    omega
   exact (h5 i c els[i] hi (List.getElem?_eq_getElem hlt)).1
end Go.Ev

/- Structs of integers, compared. -/
namespace Go.Ev
open Go.RowKit
section
variable {P:Program} {t:T Value} {dst:Option Tmp} {pos:String} {af:Array Edge} {g:Option (Nat × Bool)}
end

/-! ## Regions whose order is the text's, whatever is drawn -/
section
variable {P:Program} {pr:Prim} {R:ExT} {call:CallT} {ops:Array Oper} {n:Nat} {rd:Option Nat} {ds:List Nat} {K:KT}

end
end Go.Ev

/- Slices that grow, in heaps of which some is not known. -/
namespace Go.Ev
open Go.RowKit

/-- A slice that has been made by appending, from block lo on. -/
def App (lo:Nat) (h:AHeap) (sz:Nat) (v:Value) (cs:List (List Value)) (F:Nat):Prop:=
 (cs = [] ∧ v = .slice none 0 0) ∨
  ∃ b l,cs ≠ [] ∧ v = .slice (some ⟨b,0,none⟩) cs.length cs.length ∧ lo ≤ b ∧ b < h.nx ∧ h.bl.get b = some (.cells cs.flatten F false) ∧ (∀ c,c ∈ cs → c.length = sz) ∧
   lo ≤ F ∧ F < h.nx ∧ h.fams.get F = some l ∧ (∀ x,x ∈ l → lo ≤ x ∧ x < h.nx ∧ ∃ c,h.bl.get x = some (.cells c F false)) ∧ h.fams.get b = some [sz] ∧ F ≠ b

theorem App.at {lo:Nat} {h:AHeap} {sz:Nat} {v:Value} {cs:List (List Value)} {F:Nat} (k:App lo h sz v cs F):SlAt h sz v cs:=by
 rcases k with ⟨rfl,rfl⟩|⟨b,l,k1,rfl,_,k3,k4,k5,_⟩
 ·exact .inl ⟨rfl,.inl rfl⟩
 ·exact .inr ⟨b,_,F,false,k1,rfl,k3,k4,k5⟩

/-- The heap behind a row whose capacity nobody knows. -/
def AHeap.addS (h:AHeap) (sz:Nat) (c:List Value):AHeap:=⟨T.set (h.nx + 2) h.bl (h.nx + 1) (.cells c h.nx false),h.nx + 2,T.set (h.nx + 2) (T.set (h.nx + 1) h.fams h.nx [h.nx + 1]) (h.nx + 1) [sz]⟩
theorem growN_eq (h:AHeap) (sz:Nat) (c:List Value) (K:Nat → AHeap → Bool):growN h sz c K = K (h.nx + 1) (h.addS sz c):=by
 simp only [growN,dJ,bP,T.setK_eq,AHeap.addS]

/-- The heap behind a slice that has grown. -/
def AHeap.grow (h:AHeap) (b fam sz:Nat) (l:List Nat) (c0 c':List Value):AHeap:=
 ⟨T.set (h.nx + 1) (T.set (b + 1) (kill l b h.bl) b (.cells c0 fam false)) h.nx (.cells c' fam false),h.nx + 1,T.set (h.nx + 1) (T.set (fam + 1) h.fams fam [h.nx,b]) h.nx [sz]⟩
theorem xH (h:AHeap) (b fam sz:Nat) (l:List Nat) (c0 c':List Value) (K:AHeap → Bool):growH h b fam sz l c0 c' K = K (h.grow b fam sz l c0 c'):=by
 simp only [growH,dJ,bP,iF,T.setK_eq,AHeap.grow]

section
variable {P:Program} {lo:Nat} {h:AHeap} {sz F:Nat} {v:Value} {cs:List (List Value)} {c:List Value} {e:TypeId}

/-- All below lo is as it was. -/
def Sm (lo:Nat) (h h':AHeap):Prop:=h.nx ≤ h'.nx ∧ ∀ k,k < lo → h'.bl.get k = h.bl.get k ∧ h'.fams.get k = h.fams.get k
theorem Sm.kp {lo:Nat} {H h h':AHeap} (k:Sm lo h h') (hl:H.nx ≤ lo) (a:Kp H h):Kp H h':=⟨Nat.le_trans a.1 k.1,fun b hb=>⟨(k.2 b (Nat.lt_of_lt_of_le hb hl)).1.trans (a.2 b hb).1,(k.2 b (Nat.lt_of_lt_of_le hb hl)).2.trans (a.2 b hb).2⟩⟩
/-- What an append leaves as it was. -/
structure Left (cs:List (List Value)) (F:Nat) (h h':AHeap):Prop where
 le:h.nx ≤ h'.nx
 bl:∀ k c f ro,k < h.nx → h.bl.get k = some (.cells c f ro) → (cs ≠ [] → f ≠ F) → h'.bl.get k = some (.cells c f ro)
 fam:∀ k,k < h.nx → (cs ≠ [] → k ≠ F) → h'.fams.get k = h.fams.get k

theorem append_step {bx cx fx:Nat} {rx:Bool} (k:App lo h sz v cs F) (hHh:lo ≤ h.nx) (hsz:bH P e = some sz) (hc:c.length = sz) (_:0 < sz) (hbx:h.bl.get bx = some (.cells c fx rx)) (hnum:eY P e 1 = true) (hn:cs.length + 1 < bigNat) :
  ∃ v' h' F',(∀ K:KV,iR P h e v (.slice (some ⟨bx,0,none⟩) 1 cx) K = K v' h') ∧ App lo h' sz v' (cs ++ [c]) F' ∧ Sm lo h h' ∧ Left cs F h h' ∧ (cs ≠ [] → F' = F) ∧ (cs = [] → h.nx ≤ F'):=by
 have hsrc:eU h sz (.slice (some ⟨bx,0,none⟩) 1 cx) = some (c,1):=by
  have h1:Nat.ble (Nat.add 0 (Nat.mul 1 sz)) c.length = true:=Nat.ble_eq_true_of_le (by rw [hc]; show 0 + 1 * sz ≤ sz; omega)
  simp only [eU,hbx,h1,cond_true]
  rw [show Nat.mul 1 sz = sz from Nat.one_mul sz,List.drop_zero,List.take_of_length_le (by omega)]
 have hnum2:∀ m,m < bigNat → eY P e m = true:=fun m hm=>oQ hnum hm
 rcases k with ⟨rfl,rfl⟩|⟨b,l,k1,rfl,k2,k3,k4,k5,k6,k7,k8,k9,k10,k11⟩
 ·refine ⟨.slice (some ⟨h.nx + 1,0,none⟩) 1 1,h.addS sz c,h.nx,fun K=>?_,.inr ⟨h.nx + 1,[h.nx + 1],by simp,rfl,?_,?_,?_,?_,?_,?_,?_,?_,?_,?_⟩,⟨?_,?_⟩,⟨?_,?_,?_⟩,?_,?_⟩
  ·simp only [iR,hsz,hsrc,jZ,hnum,cond_true,growN_eq]
   rfl
  ·have:=hHh; omega
  ·show h.nx + 1 < h.nx + 2; omega
  ·show (T.set (h.nx + 2) h.bl (h.nx + 1) (.cells c h.nx false)).get (h.nx + 1) = _
   rw [aU (by omega)]; simp
  ·intro d hd; simp at hd; subst hd; exact hc
  ·exact hHh
  ·show h.nx < h.nx + 2; omega
  ·show (T.set (h.nx + 2) (T.set (h.nx + 1) h.fams h.nx [h.nx + 1]) (h.nx + 1) [sz]).get h.nx = _
   rw [aQ (by omega) (by omega),aU (by omega)]
  ·intro x hx
   simp at hx; subst hx
   refine ⟨by have:=hHh; omega,by show h.nx + 1 < h.nx + 2; omega,c,?_⟩
   show (T.set (h.nx + 2) h.bl (h.nx + 1) (.cells c h.nx false)).get (h.nx + 1) = _
   rw [aU (by omega)]
  ·show (T.set (h.nx + 2) (T.set (h.nx + 1) h.fams h.nx [h.nx + 1]) (h.nx + 1) [sz]).get (h.nx + 1) = _
   rw [aU (by omega)]
  ·omega
  ·have:=hHh; show h.nx ≤ h.nx + 2; omega
  ·intro k hk
   have:=hHh
   refine ⟨?_,?_⟩
   ·show (T.set (h.nx + 2) h.bl (h.nx + 1) (.cells c h.nx false)).get k = _
    rw [aQ (by omega) (by omega)]
   ·show (T.set (h.nx + 2) (T.set (h.nx + 1) h.fams h.nx [h.nx + 1]) (h.nx + 1) [sz]).get k = _
    rw [aQ (by omega) (by omega),aQ (by omega) (by omega)]
  ·show h.nx ≤ h.nx + 2; omega
  ·intro k d f ro hk hg _
   show (T.set (h.nx + 2) h.bl (h.nx + 1) (.cells c h.nx false)).get k = _
   rw [aQ (by omega) (by omega)]; exact hg
  ·intro k hk _
   show (T.set (h.nx + 2) (T.set (h.nx + 1) h.fams h.nx [h.nx + 1]) (h.nx + 1) [sz]).get k = _
   rw [aQ (by omega) (by omega),aQ (by omega) (by omega)]
  ·intro hne; exact absurd rfl hne
  ·exact fun _=>Nat.le_refl _
 ·have hfl:∀ {l:List (List Value)},(∀ c,c ∈ l → c.length = sz) → l.flatten.length = l.length * sz:=by
   intro l
   induction l with
   | nil=>intro _; simp
   | cons a l ih =>
    intro hl
    rw [List.flatten_cons,List.length_append,hl a (by simp),ih fun c hc=>hl c (by simp [hc]),List.length_cons,Nat.succ_mul]; omega
  have hlen:=hfl k5
  have hble:Nat.ble (Nat.add 0 (Nat.mul cs.length sz)) cs.flatten.length = true:=Nat.ble_eq_true_of_le (by rw [hlen]; show 0 + cs.length * sz ≤ _; omega)
  have hz:zOk h b sz = true:=by
   unfold zOk
   rw [k4]
   have:Nat.beq F b = false:=by cases e:Nat.beq F b with|true=>exact absurd (Nat.eq_of_beq_eq_true e) k11|false=>rfl
   simp only [this,cond_false,k10,Nat.beq_refl]
  have hcap:Nat.ble (Nat.add cs.length 1) cs.length = false:=by
   cases e:Nat.ble (Nat.add cs.length 1) cs.length with
   | false=>rfl
   | true=>have:=Nat.le_of_ble_eq_true e; exact absurd this (by show ¬ cs.length + 1 ≤ cs.length; omega)
  have hdt:(cs.flatten.drop 0).take (Nat.mul cs.length sz) = cs.flatten:=by
   rw [List.drop_zero,List.take_of_length_le (by rw [hlen]; exact Nat.le_refl _)]
  have htk:cs.flatten.take (Nat.add 0 (Nat.mul cs.length sz)) = cs.flatten:=List.take_of_length_le (by rw [hlen]; show cs.length * sz ≤ 0 + cs.length * sz; omega)
  have hHle:=hHh
  have hbne:∀ k,k < h.nx → k ≠ h.nx:=fun k hk=>by omega
  -- what is behind the growth, at any block
  have hg:∀ k,k < h.nx → (h.grow b F sz l cs.flatten (cs.flatten ++ c)).bl.get k = if k = b then some (.cells cs.flatten F false) else if k ∈ l then (h.bl.get k).map dead else h.bl.get k:=by
   intro k hk
   show (T.set (h.nx + 1) (T.set (b + 1) (kill l b h.bl) b (.cells cs.flatten F false)) h.nx (.cells (cs.flatten ++ c) F false)).get k = _
   rw [aQ (by omega) (by omega),T.get_set _ _ _ _ _ (by omega),iW]
   by_cases hkb:k = b
   ·rw [if_pos hkb,if_pos hkb]
   ·rw [if_neg hkb,if_neg hkb]
    by_cases hkl:k ∈ l
    ·rw [if_pos ⟨hkl,hkb⟩,if_pos hkl]
    ·rw [if_neg (fun q=>hkl q.1),if_neg hkl]
  have hf:∀ k,k < h.nx → (h.grow b F sz l cs.flatten (cs.flatten ++ c)).fams.get k = if k = F then some [h.nx,b] else h.fams.get k:=by
   intro k hk
   show (T.set (h.nx + 1) (T.set (F + 1) h.fams F [h.nx,b]) h.nx [sz]).get k = _
   rw [aQ (by omega) (by omega),T.get_set _ _ _ _ _ (by omega)]
  have hgn:(h.grow b F sz l cs.flatten (cs.flatten ++ c)).bl.get h.nx = some (.cells (cs.flatten ++ c) F false):=aU (by omega)
  refine ⟨.slice (some ⟨h.nx,0,none⟩) (cs.length + 1) (cs.length + 1),h.grow b F sz l cs.flatten (cs.flatten ++ c),F,fun K=>?_,.inr ⟨h.nx,[h.nx,b],by simp,by simp,hHle,?_,?_,?_,k6,?_,?_,?_,?_,?_⟩,⟨?_,?_⟩,⟨?_,?_,?_⟩,fun _=>rfl,?_⟩
  ·simp only [iR,hsz,hsrc,hcap,cond_false,jX,k4,hble,hnum2 (Nat.add cs.length 1) hn,hz,Bool.and_self,cond_true,k8,xH,htk,hdt,bP]
  ·show h.nx < h.nx + 1; omega
  ·rw [hgn,List.flatten_append]; simp
  ·intro d hd
   rcases List.mem_append.1 hd with hd|hd
   ·exact k5 d hd
   ·simp at hd; subst hd; exact hc
  ·show F < h.nx + 1; omega
  ·rw [hf F k7,if_pos rfl]
  ·intro x hx
   simp at hx
   rcases hx with rfl|rfl
   ·exact ⟨hHle,by show h.nx < h.nx + 1; omega,_,hgn⟩
   ·exact ⟨k2,by show x < h.nx + 1; omega,cs.flatten,by rw [hg x k3,if_pos rfl]⟩
  ·exact aU (by omega)
  ·omega
  ·show h.nx ≤ h.nx + 1; omega
  ·intro k hk
   have hkl:k ∉ l:=fun q=>by have:=(k9 k q).1; omega
   refine ⟨?_,?_⟩
   ·rw [hg k (by omega),if_neg (by omega),if_neg hkl]
   ·rw [hf k (by omega),if_neg (by omega)]
  ·show h.nx ≤ h.nx + 1; omega
  ·intro k d f ro hk hgk hfF
   have hfF:=hfF k1
   have hkb:k ≠ b:=fun q=>by rw [q,k4] at hgk; cases hgk; exact hfF rfl
   have hkl:k ∉ l:=fun q=>by
    obtain ⟨_,_,d',hd'⟩:=k9 k q
    rw [hd'] at hgk; cases hgk; exact hfF rfl
   rw [hg k hk,if_neg hkb,if_neg hkl]; exact hgk
  ·intro k hk hkF
   rw [hf k hk,if_neg (hkF k1)]
  ·exact fun e=>absurd e k1

variable {call:CallT} {ops:Array Oper} {n:Nat} {rest:List Oper} {t:T Value} {KR:T Value → AHeap → Bool} {dst:Option Tmp}
theorem kW {as:Array Operand} {ts:Array TypeId}:isW P (.call ⟨.builtin .append,as,ts⟩) = true:=(rfl)
theorem fH {a:TypeId} {len:Nat} {p:Array (Nat × Operand)}:isW P (.buildSlice a len p) = true:=(rfl)
theorem w_makeMap {a:TypeId} {r:Option Operand}:isW P (.makeMap a r) = true:=(rfl)

/-- An append of one element. -/
theorem wr_append {st xt e':TypeId} {s x:Operand} {bx cx fx:Nat} {rx:Bool} (hst:fE P st = some e) (hxt:P.underlying xt = some (.slice e')) (hs:ev P t s = v) (hx:ev P t x = .slice (some ⟨bx,0,none⟩) 1 cx)
  (k:App lo h sz v cs F) (hHh:lo ≤ h.nx) (hsz:bH P e = some sz) (hc:c.length = sz) (_:0 < sz) (hbx:h.bl.get bx = some (.cells c fx rx)) (hnum:eY P e 1 = true) (hn:cs.length + 1 < bigNat)
  (kk:∀ v' h' F',App lo h' sz v' (cs ++ [c]) F' → Sm lo h h' → Left cs F h h' → (cs ≠ [] → F' = F) → (cs = [] → h.nx ≤ F') → jA P call ops n rest dst t v' h' KR = true) :
  wrR P call ops n rest (.call ⟨.builtin .append,#[s,x],#[st,xt]⟩) dst t h KR = true:=by
 obtain ⟨v',h',F',q1,q2,q3,q4,q5,q6⟩:=append_step k hHh hsz hc ‹_› hbx hnum hn (cx:=cx)
 have hko:kindOk P xt (.slice (some ⟨bx,0,none⟩) 1 cx) = true:=by simp only [kindOk,hxt]
 simp only [wrR,bI,kR,lZ,hst,hs,hx,hko,cond_true]
 rw [q1]
 exact kk v' h' F' q2 q3 q4 q5 q6

/-- A slice literal of one element. -/
theorem uT {ty:TypeId} {z u:Value} {x:Operand} {l:List Value} (h1:fE P ty = some e) (h2:bH P e = some sz) (h3:zeroOf P e = some z) (h4:z.cells.size = sz) (hs:sz ≤ 1000) (hx:ev P t x = u) (hu:okV u = true)
  (hfill:Instr.fill (fun k=>some (k * sz,sz)) ⟨repl z.cells.toList 1 []⟩ [(0,u)] = some ⟨l⟩) (kk:jA P call ops n rest dst t (.slice (some ⟨h.nx,0,none⟩) 1 1) (h.add l) KR = true) :
  wrR P call ops n rest (.buildSlice ty 1 #[(0,x)]) dst t h KR = true:=by
 have h5:Nat.ble (Nat.mul 1 sz) 16777216 = true:=Nat.ble_eq_true_of_le (by show 1 * sz ≤ _; omega)
 have h6:okP [(0,u)] = true:=by simp only [okP,hu]; rfl
 have h7:Nat.beq z.cells.size sz = true:=by rw [h4]; exact Nat.beq_refl _
 simp only [wrR,bI,jE,h1,h2,h3,List.map_cons,List.map_nil,hx,h6,h5,h7,Bool.and_self,cond_true,hfill,uH,kV]
 exact kk

/-- A store into a block that is not one of the slice's. -/
theorem App.upd (k:App lo h sz v cs F) {B fam:Nat} {d:List Value} (hB:B < lo):App lo (h.upd B d fam) sz v cs F:=by
 rcases k with k|⟨b,l,k1,k2,k3,k4,k5,k6,k7,k8,k9,k10,k11,k12⟩
 ·exact .inl k
 ·refine .inr ⟨b,l,k1,k2,k3,k4,by rw [upd_ne _ _ _ (by omega)]; exact k5,k6,k7,k8,k9,fun x hx=>?_,k11,k12⟩
  obtain ⟨q1,q2,c,q3⟩:=k10 x hx
  exact ⟨q1,q2,c,by rw [upd_ne _ _ _ (by omega)]; exact q3⟩

/-- Whatever keeps all that is there keeps the slice. -/
theorem App.mono {h':AHeap} (k:App lo h sz v cs F) (a:Kp h h'):App lo h' sz v cs F:=by
 have ha:=a.1
 rcases k with k|⟨b,l,k1,k2,k3,k4,k5,k6,k7,k8,k9,k10,k11,k12⟩
 ·exact .inl k
 ·refine .inr ⟨b,l,k1,k2,k3,by omega,(a.get k4).trans k5,k6,k7,by omega,(a.fget k8).trans k9,fun x hx=>?_,(a.fget k4).trans k11,k12⟩
  obtain ⟨q1,q2,c,q3⟩:=k10 x hx
  exact ⟨q1,by omega,c,(a.get q2).trans q3⟩

theorem App.sl (k:App lo h sz v cs F):∃ q n c,v = .slice q n c:=by
 rcases k with ⟨_,rfl⟩|⟨b,l,_,rfl,_⟩
 ·exact ⟨_,_,_,rfl⟩
 ·exact ⟨_,_,_,rfl⟩
theorem stR_sl {B off:Nat} {q:Option Addr} {l' c':Nat}:stR (.pointer (some ⟨B,off,none⟩)) (.slice q l' c') P call ops n rest dst t h KR = st0 (h.bl.get B) P call ops n rest dst t h KR B off (.slice q l' c'):=(rfl)

theorem App.fam_lt (k:App lo h sz v cs F) (hne:cs ≠ []):F < h.nx:=by
 rcases k with ⟨e,_⟩|⟨b,l,k1,k2,k3,k4,k5,k6,k7,k8,_⟩
 ·exact absurd e hne
 ·exact k8
end
end Go.Ev

/- More rules: loops that are unrolled, slices of integers, calls in drawn regions. -/
namespace Go.Ev
open Go.RowKit

/-! ## Regions in which a read comes before a write that is ahead of it -/
section
variable {P:Program} {pr:Prim} {R:ExT} {n f:Nat} {l todo rest:List Info} {a:Info} {ops:Array Oper} {done i m:Nat} {hist:List Seen} {t:T Value} {h:AHeap} {KR:T Value → AHeap → Bool} {dst:Option Tmp} {ty:TypeId} {ps:String} {af:Array Edge} {g:Option (Nat × Bool)} {d:Tmp} {call:CallT}
theorem draw_pick (hp:iK done todo = some (a,rest)):bQ P call ops n 0 [] (f + 1) todo done hist t h KR = drR (fB t ops a.o.guard) (dE P t h a.o) P call ops n f rest done a.i a.o hist t h KR:=by
 simp only [bQ,hp,drR,aZ,bP]
 cases fB t ops a.o.guard with
 | none=>rfl
 | some b =>
  cases b with
  | false=>rfl
  | true=>cases dE P t h a.o<;>rfl
theorem dH (hp:iK done todo = some (a,rest)) (k:drR (fB t ops a.o.guard) (dE P t h a.o) P call ops n f rest done a.i a.o hist t h KR = true):bQ P call ops n 0 [] (f + 1) todo done hist t h KR = true:=by rw [draw_pick hp]; exact k
theorem dC {fo:Operand} {xs:Array Operand} {ts:Array TypeId} {fid:FuncId} {first captured:Array Value} {Post:Value → AHeap → Prop} (hf:ev P t fo = .func (.func fid) first captured)
  (hp:pr fid (first.toList ++ evL P t xs.toList ++ captured.toList) h = none) (hy:bD P R fid (first.toList ++ evL P t xs.toList ++ captured.toList) h Post) (hd:d < n)
  (k:∀ v h',Kp h h' → Post v h' → again P h' m hist = true ∧ bQ P (bW pr (cZ P R)) ops n 0 [] f l (Nat.lor done (Nat.pow 2 i)) hist (T.set (d + 1) t d v) h' KR = true) :
  drW (some true) P (bW pr (cZ P R)) ops n f l done i m ⟨some d,.call ⟨.value fo,xs,ts⟩,ty,ps,af,g⟩ hist t h KR = true:=by
 have hb:Nat.blt d n = true:=by rw [Nat.blt_eq]; exact hd
 simp only [drW,bI,kR,hf,bW,hp,cZ]
 refine hy _ fun v h' hk hP=>?_
 obtain ⟨k1,k2⟩:=k v h' hk hP
 simp only [k1,cond_true,iV,hb,aZ,T.setK_eq]
 exact k2
end

section
variable {P:Program} {ops:Array Oper} {n f:Nat} {l:List Info} {done i m:Nat} {hist:List Seen} {t:T Value} {h:AHeap} {KR:T Value → AHeap → Bool} {ty:TypeId} {pos:String} {af:Array Edge} {g:Option (Nat × Bool)} {call:CallT}
end

theorem fU {kd:IntKind} {n:Int}:veq (.int kd n) (.int kd n) = true:=by
 simp only [veq,uS,decide_true,Bool.and_true]
 cases kd<;>rfl

/-! ## A loop, one round -/
def oneK (R:ExT) (n:Nat) (rd:Option Nat) (b:Code) (K:KT):KT:=fun e t h ds =>
 match e with
 | .normal=>R n rd (.loop b) t h ds K
 | e=>K e t h ds
section
variable {P:Program} {pr:Prim} {R:ExT} {n:Nat} {rd:Option Nat} {t:T Value} {h:AHeap} {ds:List Nat} {K:KT} {b:Code}
theorem Steps.round (S:Steps P pr R) (k:R n rd b t h ds (oneK R n rd b K) = true):R n rd (.loop b) t h ds K = true:=by
 refine S.step ?_
 show eF P R n rd (.loop b) t h ds K = true
 simp only [eF]
 unfold oneK at k
 exact k
theorem oneK_ret:oneK R n rd b K .ret t h ds = K .ret t h ds:=(rfl)
end

section
variable {P:Program} {t t':T Value}
end
def max2 (x y:Int):Int:=if y > x then y else x

/-! ## Slices of integers -/
abbrev iv (n:Int):Value:=.int .i64 n
/-- A slice that bears these integers. -/
def IAt (h:AHeap) (v:Value) (l:List Int):Prop:=
 (l = [] ∧ (v = .slice none 0 0 ∨ v = emptyS ∨ ∃ b c,v = .slice (some ⟨b,0,none⟩) 0 c)) ∨ ∃ b c f ro,v = .slice (some ⟨b,0,none⟩) l.length c ∧ b < h.nx ∧ h.bl.get b = some (.cells (l.map iv) f ro)
/-- The same, at a block that is known and shared with none. -/
def Own (h:AHeap) (B:Nat) (l:List Int):Prop:=B < h.nx ∧ h.bl.get B = some (.cells (l.map iv) B false) ∧ h.fams.get B = some [B]

section
variable {P:Program} {h h':AHeap} {v:Value} {l:List Int} {B:Nat} {a e:TypeId}
theorem IAt.mono (k:IAt h v l) (hk:Kp h h'):IAt h' v l:=by
 rcases k with k|⟨b,c,f,ro,k1,k2,k3⟩
 ·exact .inl k
 ·exact .inr ⟨b,c,f,ro,k1,Nat.lt_of_lt_of_le k2 hk.1,(hk.get k2).trans k3⟩
theorem IAt.len (k:IAt h v l) (ha:jW P a = true) (t:T Value) (h1:AHeap) (o:Oper):qJ P t h1 o a v = some (.int .i64 (l.length:Int)):=by
 rcases k with ⟨rfl,rfl|rfl|⟨b,c,rfl⟩⟩|⟨b,c,f,ro,rfl,_⟩<;>exact lT ha
theorem IAt.idx (k:IAt h v l) (h1:fE P a = some e) (h2:bH P e = some 1) {i:Nat} (hi:i < l.length) :
  ∃ b f ro,(∀ kd:IntKind,bY P a v (.int kd (i:Int)) = some (.pointer (some ⟨b,i,none⟩))) ∧ b < h.nx ∧ h.bl.get b = some (.cells (l.map iv) f ro) ∧ (l.map iv)[i]? = some (iv l[i]):=by
 rcases k with ⟨rfl,_⟩|⟨b,c,f,ro,rfl,k2,k3⟩
 ·simp at hi
 ·refine ⟨b,f,ro,fun kd=>?_,k2,k3,by rw [List.getElem?_map,List.getElem?_eq_getElem hi]; rfl⟩
  rw [eQ h1 h2 hi,Nat.zero_add,Nat.mul_one]
theorem IAt.veq (k:IAt h v l):veq v v = true:=by
 rcases k with ⟨rfl,rfl|rfl|⟨b,c,rfl⟩⟩|⟨b,c,f,ro,rfl,_⟩
 ·simp only [Go.Ev.veq]
 ·simp only [emptyS,Go.Ev.veq]
 ·simp only [Go.Ev.veq,Nat.beq_refl,Bool.and_self]
 ·simp only [Go.Ev.veq,Nat.beq_refl,Bool.and_self]
theorem Own.mono (k:Own h B l) (hk:Kp h h'):Own h' B l:=⟨Nat.lt_of_lt_of_le k.1 hk.1,(hk.get k.1).trans k.2.1,(hk.fget k.1).trans k.2.2⟩
theorem Own.upd (k:Own h B l) {i:Nat} {x:Int}:Own (h.upd B ((l.map iv).set i (iv x)) B) B (l.set i x):=by
 refine ⟨k.1,?_,k.2.2⟩
 rw [aO]
 congr 2
 rw [← List.map_set]
theorem SlAt.ints (k:SlAt h 1 v (l.map fun n=>[iv n])):IAt h v l:=by
 rcases k with ⟨k1,rfl|rfl⟩|⟨b,cap,f,ro,k1,rfl,k3,k4,k5⟩
 ·exact .inl ⟨by simpa using k1,.inl rfl⟩
 ·exact .inl ⟨by simpa using k1,.inr (.inl rfl)⟩
 ·refine .inr ⟨b,cap,f,ro,by rw [List.length_map],k3,?_⟩
  rw [k4]
  congr 2
  clear k1 k4 k5
  induction l with
  | nil=>rfl
  | cons a l ih=>simp only [List.map_cons,List.flatten_cons,List.singleton_append]; rw [ih]

theorem repl_eq (z:List Value):∀ (n:Nat) (acc:List Value),repl z n acc = (List.replicate n z).flatten ++ acc
 | 0,acc=>rfl
 | n + 1,acc=>by
  show repl z n (z ++ acc) = _
  rw [repl_eq z n,List.replicate_succ',List.flatten_append,List.append_assoc]
  simp

variable {call:CallT} {ops:Array Oper} {n:Nat} {rest:List Oper} {t:T Value} {KR:T Value → AHeap → Bool} {dst:Option Tmp}
theorem mQ {x y:Operand}:isW P (.makeSlice a x y) = true:=(rfl)
/-- A new slice of integers. -/
theorem wr_makeInts {x y:Operand} {k:Nat} {ei:TypeInfo} (h1:fE P a = some e) (h2:P.info? e = some ei) (h3:zeroOf P e = some (.int .i64 0)) (h4:Nat.blt ei.bytes bigNat = true) (h5:ei.size = 1)
  (hx:ev P t x = .int .i64 (k:Int)) (hy:ev P t y = .int .i64 (k:Int)) (hk:k < 1000000) (kk:Own (h.add ((List.replicate k 0).map iv)) h.nx (List.replicate k 0) → jA P call ops n rest dst t (.slice (some ⟨h.nx,0,none⟩) k k) (h.add ((List.replicate k 0).map iv)) KR = true) :
  wrR P call ops n rest (.makeSlice a x y) dst t h KR = true:=by
 have hb:Nat.blt k bigNat = true:=by rw [Nat.blt_eq]; exact hk
 have he:repl (Value.cells (.int .i64 0)).toList k [] = (List.replicate k (0:Int)).map iv:=by
  rw [repl_eq,List.append_nil]
  show (List.replicate k [Value.int .i64 0]).flatten = _
  clear hx hy hk kk hb
  induction k with
  | zero=>rfl
  | succ k ih=>simp only [List.replicate_succ,List.flatten_cons,List.map_cons,List.singleton_append,ih]
 have h6:Nat.beq (Value.cells (.int .i64 0)).size ei.size = true:=by rw [h5]; rfl
 have hx':ev P t x = .int .i64 (.ofNat k):=hx
 have hy':ev P t y = .int .i64 (.ofNat k):=hy
 simp only [wrR,bI,lJ,h1,hx',hy',mG,h2,h3,Nat.ble_eq_true_of_le (Nat.le_refl k),hb,h4,h6,Bool.and_self,cond_true,kV,he]
 exact kk ⟨Nat.lt_succ_self _,aP rfl,dL rfl⟩
end
end Go.Ev

/- Regions that draw their order, where of several writes any can come next. -/
namespace Go.Ev
open Go.RowKit

/-! ## Numbers that are set aside -/
def AHeap.res (h:AHeap):AHeap:=⟨h.bl,h.nx + 1,T.set (h.nx + 1) h.fams h.nx []⟩
def AHeap.putAt (h:AHeap) (r:Nat) (c:List Value):AHeap:=⟨T.set (r + 1) h.bl r (.cells c r false),h.nx,T.set (r + 1) h.fams r [r]⟩
section
variable {h h':AHeap} {r B:Nat} {c:List Value}
theorem res_nx:h.res.nx = h.nx + 1:=(rfl)
theorem res_bl:h.res.bl.get B = h.bl.get B:=(rfl)
theorem res_fe (e:B = h.nx):h.res.fams.get B = some []:=by subst e; exact aU (Nat.lt_succ_self _)
theorem res_fn (e:B ≠ h.nx):h.res.fams.get B = h.fams.get B:=aQ (Nat.lt_succ_self _) e
theorem putAt_nx:(h.putAt r c).nx = h.nx:=(rfl)
theorem putAt_eq (e:B = r):(h.putAt r c).bl.get B = some (.cells c r false):=by subst e; exact aU (Nat.lt_succ_self _)
theorem iY (e:B ≠ r):(h.putAt r c).bl.get B = h.bl.get B:=aQ (Nat.lt_succ_self _) e
theorem tJ (e:B = r):(h.putAt r c).fams.get B = some [r]:=by subst e; exact aU (Nat.lt_succ_self _)
theorem putAt_fn (e:B ≠ r):(h.putAt r c).fams.get B = h.fams.get B:=aQ (Nat.lt_succ_self _) e
theorem Kp.res (a:Kp h h'):Kp h h'.res:=⟨Nat.le_succ_of_le a.1,fun k hk=>by
 have:=a.1
 rw [res_bl,res_fn (by omega)]
 exact a.2 k hk⟩
theorem Kp.putAt (a:Kp h h') (hr:h.nx ≤ r):Kp h (h'.putAt r c):=⟨a.1,fun k hk=>by
 rw [iY (by omega),putAt_fn (by omega)]
 exact a.2 k hk⟩
theorem resGo_nil {ids:List (Nat × Nat)} {K:List (Nat × Nat) → AHeap → Bool}:resGo [] h ids K = K ids h:=(rfl)
theorem resGo_cons {i:Nat} {l:List Nat} {ids:List (Nat × Nat)} {K:List (Nat × Nat) → AHeap → Bool}:resGo (i :: l) h ids K = resGo l h.res ((i,h.nx) :: ids) K:=by
 simp only [resGo,bP,T.setK_eq,AHeap.res]
theorem joinK_id (m:Bool) (K:T Value → AHeap → Bool):joinK m K = K:=by
 cases m with
 | false=>rfl
 | true =>
  funext t h
  simp only [joinK,cond_true,fT_eq,bP]
  cases K t ⟨h.bl,h.nx,h.fams⟩<;>rfl
end

section
variable {P:Program} {pr:Prim} {R:ExT} {n:Nat} {rd:Option Nat} {t:T Value} {h:AHeap} {ds:List Nat} {K:KT} {ops:Array Oper} {call:CallT} {fl:Nat} {ids:List (Nat × Nat)}

theorem Steps.drawnM (S:Steps P pr R) {id:Nat} (ms:List (Bool × Nat)) (fl:Nat) (al:List Nat) (hr:nC P ops = true) (hmw:manyW P ops = true) (hm:(infos P ops).map (fun a=>(a.w,a.pre)) = ms) (hfl:floats P ops = fl) (hal:allocsOf ops.toList 0 = al)
  (k:resGo al h [] (fun ids h=>bQ P (bW pr (cZ P R)) ops n fl ids (Nat.succ ops.size) (infoL ops.toList ms 0) 0 [] t h (fun t h=>K .normal t h ds)) = true):R n rd (.region id ops true) t h ds K = true:=by
 refine S.step ?_
 simp only [kL,iC,cond_true,hr,hmw,bP,hfl,hal,joinK_id]
 unfold infos at hm ⊢
 rw [infoGo_L _ _ _ _ hm]
 exact k

variable {f:Nat} {o:Oper} {l todo rest:List Info} {a:Info} {i m done:Nat} {hist:List Seen} {KR:T Value → AHeap → Bool} {dst:Option Tmp} {op:Op} {ty:TypeId} {pos:String} {af:Array Edge} {g:Option (Nat × Bool)} {d:Tmp}

/-- Behind an operation that reads. -/
def dmR (fl:Nat) (ids:List (Nat × Nat)) (want:Option Bool) (r:Option Value) (P:Program) (call:CallT) (ops:Array Oper) (n f:Nat) (l:List Info) (done i:Nat) (o:Oper) (hist:List Seen) (t:T Value) (h:AHeap) (KR:T Value → AHeap → Bool):Bool:=
 match want with
 | none=>false
 | some false=>iV t n o.dst undef fun t=>bQ P call ops n fl ids f l (Nat.lor done (Nat.pow 2 i)) hist t h KR
 | some true =>
  match r with
  | none=>false
  | some v=>iV t n o.dst v fun t'=>bQ P call ops n fl ids f l (Nat.lor done (Nat.pow 2 i)) ({ i:=i,o:=o,t:=t,v:=v } :: hist) t' h KR

theorem dm_nil:bQ P call ops n fl ids (f + 1) [] done hist t h KR = KR t h:=(rfl)
theorem dm_read (hr:Nat.beq (Nat.land m done) m = true):bQ P call ops n fl ids (f + 1) ({ i:=i,o:=o,w:=false,pre:=m } :: l) done hist t h KR = dmR fl ids (fB t ops o.guard) (dE P t h o) P call ops n f l done i o hist t h KR:=by
 simp only [bQ,iK,hr,Bool.not_false,Bool.true_and,cond_true,dmR,aZ,bP]
 cases fB t ops o.guard with
 | none=>rfl
 | some b =>
  cases b with
  | false=>rfl
  | true=>cases dE P t h o<;>rfl
theorem jD (hp:iK done todo = some (a,rest)) (k:dmR fl ids (fB t ops a.o.guard) (dE P t h a.o) P call ops n f rest done a.i a.o hist t h KR = true):bQ P call ops n fl ids (f + 1) todo done hist t h KR = true:=by
 rw [← k]
 simp only [bQ,hp,dmR,aZ,bP]
 cases fB t ops a.o.guard with
 | none=>rfl
 | some b =>
  cases b with
  | false=>rfl
  | true=>cases dE P t h a.o<;>rfl
theorem dmR_no {r:Option Value} (hd:d < n):dmR fl ids (some false) r P call ops n f l done i ⟨some d,op,ty,pos,af,g⟩ hist t h KR = bQ P call ops n fl ids f l (Nat.lor done (Nat.pow 2 i)) hist (T.set (d + 1) t d undef) h KR:=by
 have:Nat.blt d n = true:=by rw [Nat.blt_eq]; exact hd
 simp only [dmR,iV,this,cond_true,aZ,T.setK_eq]
theorem dmR_yes {v:Value} (hd:d < n):dmR fl ids (some true) (some v) P call ops n f l done i ⟨some d,op,ty,pos,af,g⟩ hist t h KR = bQ P call ops n fl ids f l (Nat.lor done (Nat.pow 2 i)) ({ i:=i,o:=⟨some d,op,ty,pos,af,g⟩,t:=t,v:=v } :: hist) (T.set (d + 1) t d v) h KR:=by
 have:Nat.blt d n = true:=by rw [Nat.blt_eq]; exact hd
 simp only [dmR,iV,this,cond_true,aZ,T.setK_eq]

/-- Behind an operation that writes. -/
def dmW (fl:Nat) (ids:List (Nat × Nat)) (want:Option Bool) (P:Program) (call:CallT) (ops:Array Oper) (n f:Nat) (l:List Info) (done i m:Nat) (o:Oper) (hist:List Seen) (t:T Value) (h:AHeap) (KR:T Value → AHeap → Bool):Bool:=
 match want with
 | none=>false
 | some false=>iV t n o.dst undef fun t=>bQ P call ops n fl ids f l (Nat.lor done (Nat.pow 2 i)) hist t h KR
 | some true=>jV P call t h o (Nat.testBit fl i) (idAt ids i) fun v h'=>bif again P h' m hist then iV t n o.dst v fun t=>bQ P call ops n fl ids f l (Nat.lor done (Nat.pow 2 i)) hist t h' KR else false

theorem mZ {p:Info × List Info} (hp:iK done todo = none) (hc:chosen fl (dN done todo) = [p]) (k:dmW fl ids (fB t ops p.1.o.guard) P call ops n f p.2 done p.1.i p.1.pre p.1.o hist t h KR = true) :
  bQ P call ops n fl ids (f + 1) todo done hist t h KR = true:=by
 rw [← k]
 simp only [bQ,hp,hc,allB,dmW,bP]
 cases fB t ops p.1.o.guard with
 | none=>rfl
 | some b=>cases b<;>rfl
theorem dmW_no (hd:d < n):dmW fl ids (some false) P call ops n f l done i m ⟨some d,op,ty,pos,af,g⟩ hist t h KR = bQ P call ops n fl ids f l (Nat.lor done (Nat.pow 2 i)) hist (T.set (d + 1) t d undef) h KR:=by
 have:Nat.blt d n = true:=by rw [Nat.blt_eq]; exact hd
 simp only [dmW,iV,this,cond_true,aZ,T.setK_eq]

/-- A variable at the number that was set aside for it. -/
theorem dmW_alloc {e:TypeId} {r:Nat} {z:Value} (hi:idAt ids i = some r) (hz:zeroOf P e = some z) (hf:h.fams.get r = some []) (hd:d < n) (ha:again P (h.putAt r z.cells.toList) m hist = true)
  (k:bQ P call ops n fl ids f l (Nat.lor done (Nat.pow 2 i)) hist (T.set (d + 1) t d (.pointer (some ⟨r,0,none⟩))) (h.putAt r z.cells.toList) KR = true) :
  dmW fl ids (some true) P call ops n f l done i m ⟨some d,.alloc e,ty,pos,af,g⟩ hist t h KR = true:=by
 have hb:Nat.blt d n = true:=by rw [Nat.blt_eq]; exact hd
 have key:∀ K:KV,jV P call t h ⟨some d,.alloc e,ty,pos,af,g⟩ (Nat.testBit fl i) (some r) K = K (.pointer (some ⟨r,0,none⟩)) (h.putAt r z.cells.toList):=fun K=>by
  unfold jV
  cases Nat.testBit fl i<;>simp only [cond_true,cond_false,jU,pJ,hz,hf,bP,fL_eq,T.setK_eq,ptrK,AHeap.putAt]
 simp only [dmW,hi,key,ha,cond_true,iV,hb,aZ,T.setK_eq]
 exact k

/-- An operation whose number was not set aside. -/
theorem dmW_some {v:Value} {h':AHeap} (hl:Nat.testBit fl i = false) (hi:idAt ids i = none) (hw:∀ K:KV,bI P call t h ⟨some d,op,ty,pos,af,g⟩ K = K v h') (hd:d < n) (ha:again P h' m hist = true)
  (k:bQ P call ops n fl ids f l (Nat.lor done (Nat.pow 2 i)) hist (T.set (d + 1) t d v) h' KR = true):dmW fl ids (some true) P call ops n f l done i m ⟨some d,op,ty,pos,af,g⟩ hist t h KR = true:=by
 have:Nat.blt d n = true:=by rw [Nat.blt_eq]; exact hd
 simp only [dmW,hl,hi,jV,cond_false,jU,hw,ha,cond_true,iV,this,aZ,T.setK_eq]
 exact k
theorem dmW_none {v:Value} {h':AHeap} (hl:Nat.testBit fl i = false) (hi:idAt ids i = none) (hw:∀ K:KV,bI P call t h ⟨none,op,ty,pos,af,g⟩ K = K v h') (ha:again P h' m hist = true)
  (k:bQ P call ops n fl ids f l (Nat.lor done (Nat.pow 2 i)) hist t h' KR = true):dmW fl ids (some true) P call ops n f l done i m ⟨none,op,ty,pos,af,g⟩ hist t h KR = true:=by
 simp only [dmW,hl,hi,jV,cond_false,jU,hw,ha,cond_true,iV]
 exact k
/-- A call of which it is known what it returns. -/
theorem qY {fo:Operand} {xs:Array Operand} {ts:Array TypeId} {fid:FuncId} {first captured:Array Value} {Post:Value → AHeap → Prop} (hl:Nat.testBit fl i = false) (hi:idAt ids i = none) (hf:ev P t fo = .func (.func fid) first captured)
  (hp:pr fid (first.toList ++ evL P t xs.toList ++ captured.toList) h = none) (hy:bD P R fid (first.toList ++ evL P t xs.toList ++ captured.toList) h Post) (hd:d < n)
  (k:∀ v h',Kp h h' → Post v h' → again P h' m hist = true ∧ bQ P (bW pr (cZ P R)) ops n fl ids f l (Nat.lor done (Nat.pow 2 i)) hist (T.set (d + 1) t d v) h' KR = true) :
  dmW fl ids (some true) P (bW pr (cZ P R)) ops n f l done i m ⟨some d,.call ⟨.value fo,xs,ts⟩,ty,pos,af,g⟩ hist t h KR = true:=by
 have hb:Nat.blt d n = true:=by rw [Nat.blt_eq]; exact hd
 simp only [dmW,hl,hi,jV,cond_false,jU,bI,kR,hf,bW,hp,cZ]
 refine hy _ fun v h' hk hP=>?_
 obtain ⟨k1,k2⟩:=k v h' hk hP
 simp only [k1,cond_true,iV,hb,aZ,T.setK_eq]
 exact k2

/-! ## What operations hand on -/
theorem aw_storeN {x y:Operand} {a:TypeId} {k0 B s:Nat} {c:List Value} {fam:Nat} {ls:List Value} (hx:ev P t x = .pointer (some ⟨B,0,none⟩)) (hy:ev P t y = .agg ⟨ls⟩) (hs:bH P a = some s) (hne:0 < s) (hls:ls.length = s)
  (hg:h.bl.get B = some (.cells c fam false)) (hf:h.fams.get fam = some [k0]) (hl:c.length = s) (K:KV):bI P call t h ⟨dst,.store a x y,ty,pos,af,g⟩ K = K undef (h.upd B ls fam):=by
 have h2:(okV (.agg ⟨ls⟩) && Nat.beq (Value.cells (.agg ⟨ls⟩)).size s) = true:=by
  rw [show (Value.cells (.agg ⟨ls⟩)).size = ls.length from rfl,hls,Nat.beq_refl]; rfl
 have h1:Nat.ble (Nat.add 0 ls.length) c.length = true:=Nat.ble_eq_true_of_le (by rw [hl,hls]; show 0 + s ≤ s; omega)
 cases ls with
 | nil=>simp at hls; omega
 | cons v0 l0 =>
  have hc:(Value.cells (.agg ⟨v0 :: l0⟩)).toList = v0 :: l0:=(rfl)
  have he:spliceL c 0 (v0 :: l0) = v0 :: l0:=by
   rw [spliceL_eq c 0 (v0 :: l0) (by rw [hl,hls]; omega),hls,List.drop_of_length_le (by omega)]
   simp
  simp only [bI,mW,hx,hy,hs,h2,cond_true,hc,gY,hg,jC,h1,dJ,hf,T.setK_eq,he]
  rfl
/-- A store of one cell. -/
theorem jK {x y:Operand} {a:TypeId} {k0 B off:Nat} {v:Value} {c:List Value} {fam:Nat} (hx:ev P t x = .pointer (some ⟨B,off,none⟩)) (hy:ev P t y = v) (hs:bH P a = some 1) (ho:okV v = true) (hvl:v.cells.toList = [v])
  (hg:h.bl.get B = some (.cells c fam false)) (hf:h.fams.get fam = some [k0]) (hl:off < c.length) (K:KV):bI P call t h ⟨dst,.store a x y,ty,pos,af,g⟩ K = K undef (h.upd B (c.set off v) fam):=by
 have hsz:Nat.beq v.cells.size 1 = true:=by
  rw [show v.cells.size = v.cells.toList.length from rfl,hvl]; rfl
 have h1:Nat.ble (Nat.add off ([v]:List Value).length) c.length = true:=Nat.ble_eq_true_of_le hl
 simp only [bI,mW,hx,hy,hs,ho,hsz,Bool.and_self,cond_true,hvl,gY,hg,jC,h1,dJ,hf,T.setK_eq,spliceL_one]
 rfl
theorem qZ {e:TypeId} {sz:Nat} {sl:TypeId} {z u:Value} {x:Operand} {l:List Value} (h1:fE P sl = some e) (h2:bH P e = some sz) (h3:zeroOf P e = some z) (h4:z.cells.size = sz) (hs:sz ≤ 1000) (hx:ev P t x = u) (hu:okV u = true)
  (hfill:Instr.fill (fun k=>some (k * sz,sz)) ⟨repl z.cells.toList 1 []⟩ [(0,u)] = some ⟨l⟩) (K:KV):bI P call t h ⟨dst,.buildSlice sl 1 #[(0,x)],ty,pos,af,g⟩ K = K (.slice (some ⟨h.nx,0,none⟩) 1 1) (h.add l):=by
 have h5:Nat.ble (Nat.mul 1 sz) 16777216 = true:=Nat.ble_eq_true_of_le (by show 1 * sz ≤ _; omega)
 have h6:okP [(0,u)] = true:=by simp only [okP,hu]; rfl
 have h7:Nat.beq z.cells.size sz = true:=by rw [h4]; exact Nat.beq_refl _
 simp only [bI,jE,h1,h2,h3,List.map_cons,List.map_nil,hx,h6,h5,h7,Bool.and_self,cond_true,hfill,uH,kV]

/-! ## Slices that grow beside each other -/
def blk:Value → Option Nat
 | .slice (some a) _ _=>some a.block
 | _=>none
theorem App.left {lo sz F F2:Nat} {v:Value} {cs cs2:List (List Value)} {h':AHeap} (k:App lo h sz v cs F) (a:Left cs2 F2 h h') (hd:cs2 ≠ [] → cs ≠ [] → F ≠ F2 ∧ blk v ≠ some F2):App lo h' sz v cs F:=by
 have ha:=a.le
 rcases k with k|⟨b,l,k1,rfl,k3,k4,k5,k6,k7,k8,k9,k10,k11,k12⟩
 ·exact .inl k
 ·have hd':cs2 ≠ [] → F ≠ F2:=fun q=>(hd q k1).1
  have hb':cs2 ≠ [] → b ≠ F2:=fun q e=>(hd q k1).2 (by subst e; rfl)
  refine .inr ⟨b,l,k1,rfl,k3,by omega,a.bl b _ F false k4 k5 hd',k6,k7,by omega,(a.fam F k8 hd').trans k9,fun x hx=>?_,(a.fam b k4 hb').trans k11,k12⟩
  obtain ⟨q1,q2,c,q3⟩:=k10 x hx
  exact ⟨q1,by omega,c,a.bl x c F false q2 q3 hd'⟩
def newB (h:AHeap):KV:=fun v _=>match v with | .slice (some a) _ _=>Nat.ble h.nx a.block|_=>false
theorem append_new {lo sz F:Nat} {v:Value} {cs:List (List Value)} {c:List Value} {e:TypeId} {bx cx fx:Nat} {rx:Bool} (k:App lo h sz v cs F) (hsz:bH P e = some sz) (hc:c.length = sz) (hbx:h.bl.get bx = some (.cells c fx rx)) (hnum:eY P e 1 = true) (hn:cs.length + 1 < bigNat) :
  iR P h e v (.slice (some ⟨bx,0,none⟩) 1 cx) (newB h) = true:=by
 have hsrc:eU h sz (.slice (some ⟨bx,0,none⟩) 1 cx) = some (c,1):=by
  have h1:Nat.ble (Nat.add 0 (Nat.mul 1 sz)) c.length = true:=Nat.ble_eq_true_of_le (by rw [hc]; show 0 + 1 * sz ≤ sz; omega)
  simp only [eU,hbx,h1,cond_true]
  rw [show Nat.mul 1 sz = sz from Nat.one_mul sz,List.drop_zero,List.take_of_length_le (by omega)]
 have hnum2:∀ m,m < bigNat → eY P e m = true:=fun m hm=>oQ hnum hm
 rcases k with ⟨rfl,rfl⟩|⟨b,l,k1,rfl,k2,k3,k4,k5,k6,k7,k8,k9,k10,k11⟩
 ·simp only [iR,hsz,hsrc,jZ,hnum,cond_true,growN_eq]
  show Nat.ble h.nx (h.nx + 1) = true
  exact Nat.ble_eq_true_of_le (Nat.le_succ _)
 ·have hfl:∀ {l:List (List Value)},(∀ c,c ∈ l → c.length = sz) → l.flatten.length = l.length * sz:=by
   intro l
   induction l with
   | nil=>intro _; simp
   | cons a l ih =>
    intro hl
    rw [List.flatten_cons,List.length_append,hl a (by simp),ih fun c hc=>hl c (by simp [hc]),List.length_cons,Nat.succ_mul]; omega
  have hlen:=hfl k5
  have hble:Nat.ble (Nat.add 0 (Nat.mul cs.length sz)) cs.flatten.length = true:=Nat.ble_eq_true_of_le (by rw [hlen]; show 0 + cs.length * sz ≤ _; omega)
  have hz:zOk h b sz = true:=by
   unfold zOk
   rw [k4]
   have:Nat.beq F b = false:=by cases e:Nat.beq F b with|true=>exact absurd (Nat.eq_of_beq_eq_true e) k11|false=>rfl
   simp only [this,cond_false,k10,Nat.beq_refl]
  have hcap:Nat.ble (Nat.add cs.length 1) cs.length = false:=by
   cases e:Nat.ble (Nat.add cs.length 1) cs.length with
   | false=>rfl
   | true=>have:=Nat.le_of_ble_eq_true e; exact absurd this (by show ¬ cs.length + 1 ≤ cs.length; omega)
  simp only [iR,hsz,hsrc,hcap,cond_false,jX,k4,hble,hnum2 (Nat.add cs.length 1) hn,hz,Bool.and_self,cond_true,k8,xH,bP]
  show Nat.ble h.nx h.nx = true
  exact Nat.ble_eq_true_of_le (Nat.le_refl _)
/-- An append of one element: all that is known of it. -/
structure Grown (lo:Nat) (h h':AHeap) (sz:Nat) (v':Value) (cs:List (List Value)) (c:List Value) (F F':Nat):Prop where
 app:App lo h' sz v' (cs ++ [c]) F'
 sm:Sm lo h h'
 left:Left cs F h h'
 same:cs ≠ [] → F' = F
 fresh:cs = [] → h.nx ≤ F'
 blk:∃ b n k,v' = .slice (some ⟨b,0,none⟩) n k ∧ h.nx ≤ b
theorem aw_append {lo sz F:Nat} {v:Value} {cs:List (List Value)} {c:List Value} {e:TypeId} {st xt e':TypeId} {s x:Operand} {bx cx fx:Nat} {rx:Bool} (hst:fE P st = some e) (hxt:P.underlying xt = some (.slice e')) (hs:ev P t s = v) (hx:ev P t x = .slice (some ⟨bx,0,none⟩) 1 cx)
  (k:App lo h sz v cs F) (hHh:lo ≤ h.nx) (hsz:bH P e = some sz) (hc:c.length = sz) (hpos:0 < sz) (hbx:h.bl.get bx = some (.cells c fx rx)) (hnum:eY P e 1 = true) (hn:cs.length + 1 < bigNat) :
  ∃ v' h' F',(∀ K:KV,bI P call t h ⟨dst,.call ⟨.builtin .append,#[s,x],#[st,xt]⟩,ty,pos,af,g⟩ K = K v' h') ∧ Grown lo h h' sz v' cs c F F':=by
 obtain ⟨v',h',F',q1,q2,q3,q4,q5,q6⟩:=append_step k hHh hsz hc hpos hbx hnum hn (cx:=cx)
 have hko:kindOk P xt (.slice (some ⟨bx,0,none⟩) 1 cx) = true:=by simp only [kindOk,hxt]
 refine ⟨v',h',F',fun K=>?_,q2,q3,q4,q5,q6,?_⟩
 ·simp only [bI,kR,lZ,hst,hs,hx,hko,cond_true]
  rw [q1]
 ·have:=append_new k hsz hc hbx hnum hn (cx:=cx)
  rw [q1] at this
  obtain ⟨qa,na,ca,rfl⟩:=q2.sl
  rcases q2 with ⟨e,_⟩|⟨b,l,_,e,_⟩
  ·simp at e
  ·cases e
   exact ⟨b,_,_,rfl,Nat.le_of_ble_eq_true this⟩
end
end Go.Ev

/- Remainders, negation, conversions of integers. -/
namespace Go.Ev
open Go.RowKit
section
variable {P:Program} {t:T Value} {h:AHeap} {dst:Option Tmp} {ty a b:TypeId} {pos:String} {af:Array Edge} {g:Option (Nat × Bool)} {x y:Operand} {i j:Int}

theorem bin_rem (hx:ev P t x = .int .i64 i) (hy:ev P t y = .int .i64 j) (hj:j ≠ 0) :
  nV P t ⟨dst,.binOp .rem a x y b,ty,pos,af,g⟩ .rem a (.int .i64 j) (.int .i64 i) = some (.int .i64 (i.tmod j)):=by
 show ground P t _ = _
 have e1:evL P t (Op.operands (.binOp .rem a x y b)).toList = [.int .i64 i,.int .i64 j]:=by simp only [Op.operands,evL,hx,hy]
 have e6:pureOf P (execOp (ev P t) ⟨dst,.binOp .rem a x y b,ty,pos,af,g⟩) = some (.value (.int .i64 (i.tmod j))):=by
  simp [execOp,hx,hy,binOp,Op.intDiv,hj,eqGuard,pureOf,bind,Sem.bind,pure]
 unfold ground
 rw [e1,e6]
 rfl
theorem conv_int {q k0:IntKind} {o:Oper} (h1:P.underlying a = some (.int q)) (h2:P.underlying b = some (.int .i64)) (h3 : -9223372036854775808 ≤ i) (h4:i < 9223372036854775808):rConv P t h o a b (.int k0 i) = some (.int .i64 i):=by
 simp only [rConv,rConvInt,h1,h2,wrap64 i h3 h4]
end
end Go.Ev
namespace Go.Ev
open Go.RowKit
section
variable {P:Program} {n:Nat} {t:T Value} {h:AHeap} {ops:Array Oper} {call:CallT} {fl:Nat} {ids:List (Nat × Nat)} {f:Nat} {l:List Info} {i m done:Nat} {hist:List Seen} {KR:T Value → AHeap → Bool} {ty:TypeId} {pos:String} {af:Array Edge} {g:Option (Nat × Bool)} {d:Tmp}
theorem App.veq {lo sz F:Nat} {v:Value} {cs:List (List Value)} (k:App lo h sz v cs F):veq v v = true:=by
 rcases k with ⟨_,rfl⟩|⟨b,l,_,rfl,_⟩
 ·simp only [Go.Ev.veq]
 ·simp only [Go.Ev.veq,Nat.beq_refl,Bool.and_self]
end
end Go.Ev

/- The rules by which a run is rewritten, in one. -/
namespace Go.Ev
open Go Go.RowKit
set_option maxHeartbeats 4000000
theorem rUz:(type_of% @run_cons) ∧ (type_of% @want_guard) ∧ (type_of% @want1_some) ∧ (type_of% @want2_bool) ∧ (type_of% @want2_undef) ∧ (type_of% @beqB_tt) ∧ (type_of% @beqB_tf) ∧ (type_of% @beqB_ft) ∧ (type_of% @beqB_ff) ∧ (type_of% @List.getElem?_toArray.{0}) ∧ (type_of% @List.getElem?_cons_succ.{0}) ∧ (type_of% @List.getElem?_cons_zero.{0}) ∧ (type_of% @Int.natCast_add) ∧ (type_of% @Int.natCast_one) ∧ (type_of% @run_nil) ∧ (type_of% @want_none) ∧ (type_of% @opR_read) ∧ (type_of% @opR_no) ∧ (type_of% @opR_write) ∧ (type_of% @putR_some) ∧ (type_of% @putR_none) ∧ (type_of% @optR_some) ∧ (type_of% @fM) ∧ (type_of% @uQ) ∧ (type_of% @aJ) ∧ (type_of% @jR) ∧ (type_of% @aF) ∧ (type_of% @blockK_exit) ∧ (type_of% @w_move) ∧ (type_of% @w_assign) ∧ (type_of% @w_pick) ∧ (type_of% @w_load) ∧ (type_of% @w_nilCheck) ∧ (type_of% @w_fieldAddr) ∧ (type_of% @w_field) ∧ (type_of% @w_indexAddr) ∧ (type_of% @w_index) ∧ (type_of% @w_extract) ∧ (type_of% @w_bin) ∧ (type_of% @w_un) ∧ (type_of% @w_makeFunc) ∧ (type_of% @w_alloc) ∧ (type_of% @w_box) ∧ (type_of% @w_store) ∧ (type_of% @w_call) ∧ (type_of% @aY) ∧ (type_of% @ev_int) ∧ (type_of% @ev_bool) ∧ (type_of% @ev_str) ∧ (type_of% @ev_func) ∧ (type_of% @aT) ∧ (type_of% @aS) ∧ (type_of% @aU) ∧ (type_of% @aQ) ∧ (type_of% @rd_move) ∧ (type_of% @rd_assign) ∧ (type_of% @rd_pick) ∧ (type_of% @rd_load) ∧ (type_of% @rd_nilCheck) ∧ (type_of% @rd_fieldAddr) ∧ (type_of% @rd_field) ∧ (type_of% @rd_indexAddr) ∧ (type_of% @rd_extract) ∧ (type_of% @rd_bin) ∧ (type_of% @rd_not) ∧ (type_of% @rd_makeFunc) ∧ (type_of% @rd_slice) ∧ (type_of% @rd_len) ∧ (type_of% @fF) ∧ (type_of% @w_len) ∧ (type_of% @w_slice) ∧ (type_of% @w_build) ∧ (type_of% @dX) ∧ (type_of% @pick_t) ∧ (type_of% @pick_f) ∧ (type_of% @load_ptr) ∧ (type_of% @xE) ∧ (type_of% @partO_some) ∧ (type_of% @xF) ∧ (type_of% @dP) ∧ (type_of% @aA) ∧ (type_of% @aP) ∧ (type_of% @aW) ∧ (type_of% @dL) ∧ (type_of% @nD) ∧ (type_of% @aB) ∧ (type_of% @bM) ∧ (type_of% @aO) ∧ (type_of% @upd_ne) ∧ (type_of% @wr_box) ∧ (type_of% @boxR_agg) ∧ (type_of% @boxR_int) ∧ (type_of% @boxR_str) ∧ (type_of% @boxR_func) ∧ (type_of% @cells_agg) ∧ (type_of% @stR_int) ∧ (type_of% @stR_bool) ∧ (type_of% @stR_str) ∧ (type_of% @st0_some) ∧ (type_of% @st1_some) ∧ (type_of% @bin_add) ∧ (type_of% @bin_sub) ∧ (type_of% @bin_mul) ∧ (type_of% @bin_lss) ∧ (type_of% @bin_leq) ∧ (type_of% @bin_gtr) ∧ (type_of% @bin_geq) ∧ (type_of% @bin_eql) ∧ (type_of% @bin_neq) ∧ (type_of% @Nat.succ_eq_add_one) ∧ (type_of% @Nat.zero_add) ∧ (type_of% @Nat.add_zero) ∧ (type_of% @Nat.mul_one) ∧ (type_of% @Nat.zero_mul) ∧ (type_of% @evL_cons) ∧ (type_of% @evL_nil) ∧ (type_of% @List.append_nil.{0}) ∧ (type_of% @List.nil_append.{0}):=⟨@run_cons,@want_guard,@want1_some,@want2_bool,@want2_undef,@beqB_tt,@beqB_tf,@beqB_ft,@beqB_ff,@List.getElem?_toArray.{0},@List.getElem?_cons_succ.{0},@List.getElem?_cons_zero.{0},@Int.natCast_add,@Int.natCast_one,@run_nil,@want_none,@opR_read,@opR_no,@opR_write,@putR_some,@putR_none,@optR_some,@fM,@uQ,@aJ,@jR,@aF,@blockK_exit,@w_move,@w_assign,@w_pick,@w_load,@w_nilCheck,@w_fieldAddr,@w_field,@w_indexAddr,@w_index,@w_extract,@w_bin,@w_un,@w_makeFunc,@w_alloc,@w_box,@w_store,@w_call,@aY,@ev_int,@ev_bool,@ev_str,@ev_func,@aT,@aS,@aU,@aQ,@rd_move,@rd_assign,@rd_pick,@rd_load,@rd_nilCheck,@rd_fieldAddr,@rd_field,@rd_indexAddr,@rd_extract,@rd_bin,@rd_not,@rd_makeFunc,@rd_slice,@rd_len,@fF,@w_len,@w_slice,@w_build,@dX,@pick_t,@pick_f,@load_ptr,@xE,@partO_some,@xF,@dP,@aA,@aP,@aW,@dL,@nD,@aB,@bM,@aO,@upd_ne,@wr_box,@boxR_agg,@boxR_int,@boxR_str,@boxR_func,@cells_agg,@stR_int,@stR_bool,@stR_str,@st0_some,@st1_some,@bin_add,@bin_sub,@bin_mul,@bin_lss,@bin_leq,@bin_gtr,@bin_geq,@bin_eql,@bin_neq,@Nat.succ_eq_add_one,@Nat.zero_add,@Nat.add_zero,@Nat.mul_one,@Nat.zero_mul,@evL_cons,@evL_nil,@List.append_nil.{0},@List.nil_append.{0}⟩
theorem rDz:(type_of% @draw_nil) ∧ (type_of% @draw_read) ∧ (type_of% @drR_no) ∧ (type_of% @drR_yes) ∧ (type_of% @draw_write) ∧ (type_of% @drW_no) ∧ (type_of% @List.size_toArray.{0}) ∧ (type_of% @List.length_cons.{0}) ∧ (type_of% @List.length_nil.{0}):=⟨@draw_nil,@draw_read,@drR_no,@drR_yes,@draw_write,@drW_no,@List.size_toArray.{0},@List.length_cons.{0},@List.length_nil.{0}⟩
theorem rMz:(type_of% @dm_nil) ∧ (type_of% @dm_read) ∧ (type_of% @dmR_no) ∧ (type_of% @dmR_yes) ∧ (type_of% @dmW_no) ∧ (type_of% @List.size_toArray.{0}) ∧ (type_of% @List.length_cons.{0}) ∧ (type_of% @List.length_nil.{0}) ∧ (type_of% @resGo_cons) ∧ (type_of% @resGo_nil) ∧ (type_of% @res_nx):=⟨@dm_nil,@dm_read,@dmR_no,@dmR_yes,@dmW_no,@List.size_toArray.{0},@List.length_cons.{0},@List.length_nil.{0},@resGo_cons,@resGo_nil,@res_nx⟩
end Go.Ev

namespace Go.Ev
theorem nZ:(type_of% @aA) ∧ (type_of% @aB) ∧ (type_of% @res_nx) ∧ (type_of% @putAt_nx):=⟨@aA,@aB,@res_nx,@putAt_nx⟩
end Go.Ev
