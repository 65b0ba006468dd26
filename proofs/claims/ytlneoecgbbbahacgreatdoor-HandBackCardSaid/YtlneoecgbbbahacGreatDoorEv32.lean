/- Regions that draw their order, over states of which some is not known. -/
import Derived.Test.YtlneoecgbbbahacGreatDoorEv31
namespace Go.Ev
open Go.RowKit

/-- The operations with what is known of each: whether it writes, and which come before it. -/
def infoL : List Oper → List (Bool × Nat) → Nat → List Info
  | o :: l, p :: ms, i => { i := i, o := o, w := p.1, pre := p.2 } :: infoL l ms (i + 1)
  | _, _, _ => []

section
variable {P : Program} {pr : Prim} {R : ExT} {n : Nat} {rd : Option Nat} {t : T Value} {h : AHeap} {ds : List Nat} {K : KT} {ops : Array Oper} {call : CallT}

theorem infoGo_L : ∀ (l : List Oper) (i : Nat) (bs : List Nat) (ms : List (Bool × Nat)), (infoGo P ops l i bs).map (fun a => (a.w, a.pre)) = ms → infoGo P ops l i bs = infoL l ms i
  | [], _, _, ms, e => by
    cases ms with
    | nil => rfl
    | cons _ _ => cases e
  | o :: l, i, bs, ms, e => by
    simp only [infoGo, List.map_cons] at e
    cases ms with
    | nil => cases e
    | cons p ms =>
      simp only [List.cons.injEq] at e
      obtain ⟨e1, e2⟩ := e
      subst e1
      simp only [infoGo, infoL]
      rw [infoGo_L l (Nat.succ i) _ ms e2]

theorem Steps.drawnL (S : Steps P pr R) {id : Nat} (ms : List (Bool × Nat)) (hr : regOk P ops = true) (hm : (infos P ops).map (fun a => (a.w, a.pre)) = ms)
    (k : drawGo P (withPrim pr (callVal P R)) ops n (Nat.succ ops.size) (infoL ops.toList ms 0) 0 [] t h (fun t h => K .normal t h ds) = true) : R n rd (.region id ops true) t h ds K = true := by
  refine S.drawn hr ?_
  unfold infos at hm ⊢
  rw [infoGo_L _ _ _ _ hm]
  exact k

variable {f : Nat} {o : Oper} {l : List Info} {i m done : Nat} {hist : List Seen} {KR : T Value → AHeap → Bool} {dst : Option Tmp} {op : Op} {ty : TypeId} {pos : String} {af : Array Edge} {g : Option (Nat × Bool)} {d : Tmp}

/-- Behind an operation that reads. -/
def drR (want : Option Bool) (r : Option Value) (P : Program) (call : CallT) (ops : Array Oper) (n f : Nat) (l : List Info) (done i : Nat) (o : Oper) (hist : List Seen) (t : T Value) (h : AHeap) (KR : T Value → AHeap → Bool) : Bool :=
  match want with
  | none => false
  | some false => putK t n o.dst undef fun t => drawGo P call ops n f l (Nat.lor done (Nat.pow 2 i)) hist t h KR
  | some true =>
    match r with
    | none => false
    | some v => putK t n o.dst v fun t' => drawGo P call ops n f l (Nat.lor done (Nat.pow 2 i)) ({ i := i, o := o, t := t, v := v } :: hist) t' h KR

theorem draw_nil : drawGo P call ops n (f + 1) [] done hist t h KR = KR t h := (rfl)

theorem draw_read (hr : Nat.beq (Nat.land m done) m = true) : drawGo P call ops n (f + 1) ({ i := i, o := o, w := false, pre := m } :: l) done hist t h KR = drR (wantA t ops o.guard) (aread P t h o) P call ops n f l done i o hist t h KR := by
  simp only [drawGo, pickR, hr, Bool.not_false, Bool.true_and, cond_true, drR, fV1_eq, fNat_eq]
  cases wantA t ops o.guard with
  | none => rfl
  | some b =>
    cases b with
    | false => rfl
    | true => cases aread P t h o <;> rfl

theorem drR_no {r : Option Value} (hd : d < n) : drR (some false) r P call ops n f l done i ⟨some d, op, ty, pos, af, g⟩ hist t h KR = drawGo P call ops n f l (Nat.lor done (Nat.pow 2 i)) hist (T.set (d + 1) t d undef) h KR := by
  have : Nat.blt d n = true := by rw [Nat.blt_eq]; exact hd
  simp only [drR, putK, this, cond_true, fV1_eq, T.setK_eq]
theorem drR_yes {v : Value} (hd : d < n) : drR (some true) (some v) P call ops n f l done i ⟨some d, op, ty, pos, af, g⟩ hist t h KR = drawGo P call ops n f l (Nat.lor done (Nat.pow 2 i)) ({ i := i, o := ⟨some d, op, ty, pos, af, g⟩, t := t, v := v } :: hist) (T.set (d + 1) t d v) h KR := by
  have : Nat.blt d n = true := by rw [Nat.blt_eq]; exact hd
  simp only [drR, putK, this, cond_true, fV1_eq, T.setK_eq]

/-- None of these is ready. -/
def quiet (done : Nat) : List Info → Bool
  | [] => true
  | a :: l => !(Nat.beq (Nat.land a.pre done) a.pre) && quiet done l

theorem quiet_pick : ∀ (l : List Info), quiet done l = true → pickR done l = none
  | [], _ => rfl
  | a :: l, e => by
    simp only [quiet, Bool.and_eq_true, Bool.not_eq_true'] at e
    simp only [pickR, e.1, Bool.and_false, cond_false, quiet_pick l e.2]
theorem quiet_wr : ∀ (l : List Info), quiet done l = true → wreadies done l = []
  | [], _ => rfl
  | a :: l, e => by
    simp only [quiet, Bool.and_eq_true, Bool.not_eq_true'] at e
    have ih := quiet_wr l e.2
    unfold wreadies at ih ⊢
    simp only [splits, List.filter_cons, e.1, Bool.and_false]
    rw [List.filter_map]
    simp only [Bool.false_eq_true, if_false, List.map_eq_nil_iff]
    exact ih

/-- Behind an operation that writes. -/
def drW (want : Option Bool) (P : Program) (call : CallT) (ops : Array Oper) (n f : Nat) (l : List Info) (done i m : Nat) (o : Oper) (hist : List Seen) (t : T Value) (h : AHeap) (KR : T Value → AHeap → Bool) : Bool :=
  match want with
  | none => false
  | some false => putK t n o.dst undef fun t => drawGo P call ops n f l (Nat.lor done (Nat.pow 2 i)) hist t h KR
  | some true => awrite P call t h o fun v h' => bif again P h' m hist then putK t n o.dst v fun t => drawGo P call ops n f l (Nat.lor done (Nat.pow 2 i)) hist t h' KR else false

theorem draw_write (hr : Nat.beq (Nat.land m done) m = true) (hq : quiet done l = true) : drawGo P call ops n (f + 1) ({ i := i, o := o, w := true, pre := m } :: l) done hist t h KR = drW (wantA t ops o.guard) P call ops n f l done i m o hist t h KR := by
  have h1 : pickR done ({ i := i, o := o, w := true, pre := m } :: l) = none := by simp only [pickR, Bool.not_true, Bool.false_and, cond_false, quiet_pick l hq]
  have h2 : wreadies done ({ i := i, o := o, w := true, pre := m } :: l) = [({ i := i, o := o, w := true, pre := m }, l)] := by
    have := quiet_wr l hq
    unfold wreadies at this ⊢
    simp only [splits, List.filter_cons, hr, Bool.and_self, if_true]
    rw [List.filter_map]
    simp only [List.cons.injEq, true_and, List.map_eq_nil_iff]
    exact this
  simp only [drawGo, h1, h2, allB, drW, fNat_eq]
  cases wantA t ops o.guard with
  | none => rfl
  | some b => cases b <;> rfl

theorem drW_no (hd : d < n) : drW (some false) P call ops n f l done i m ⟨some d, op, ty, pos, af, g⟩ hist t h KR = drawGo P call ops n f l (Nat.lor done (Nat.pow 2 i)) hist (T.set (d + 1) t d undef) h KR := by
  have : Nat.blt d n = true := by rw [Nat.blt_eq]; exact hd
  simp only [drW, putK, this, cond_true, fV1_eq, T.setK_eq]

theorem again_nil {pre : Nat} : again P h pre [] = true := (rfl)
theorem again_skip {pre j : Nat} {t' : T Value} {v : Value} {r : List Seen} (hb : Nat.testBit pre j = true) : again P h pre ({ i := j, o := o, t := t', v := v } :: r) = again P h pre r := by
  simp only [again, hb, Bool.or_true, Bool.true_or, Bool.true_and]
theorem again_free {pre j : Nat} {t' : T Value} {v : Value} {r : List Seen} (hb : isReadOp o.op = false) : again P h pre ({ i := j, o := o, t := t', v := v } :: r) = again P h pre r := by
  simp only [again, hb, Bool.not_false, Bool.true_or, Bool.true_and]
theorem again_same {pre j : Nat} {t' : T Value} {v : Value} {r : List Seen} (ha : aread P t' h o = some v) (hv : veq v v = true) : again P h pre ({ i := j, o := o, t := t', v := v } :: r) = again P h pre r := by
  simp only [again, ha, hv, Bool.or_true, Bool.true_and]

/-- A call whose result is in the table. -/
theorem drW_prim {call0 : CallT} {fo : Operand} {as : Array Operand} {ts : Array TypeId} {fid : FuncId} {first captured : Array Value} {v : Value} (hf : ev P t fo = .func (.func fid) first captured)
    (hp : pr fid (first.toList ++ evL P t as.toList ++ captured.toList) h = some v) (hd : d < n) (ha : again P h m hist = true)
    (k : drawGo P (withPrim pr call0) ops n f l (Nat.lor done (Nat.pow 2 i)) hist (T.set (d + 1) t d v) h KR = true) :
    drW (some true) P (withPrim pr call0) ops n f l done i m ⟨some d, .call ⟨.value fo, as, ts⟩, ty, pos, af, g⟩ hist t h KR = true := by
  have : Nat.blt d n = true := by rw [Nat.blt_eq]; exact hd
  simp only [drW, awrite, wCall, hf, withPrim, hp, ha, cond_true, putK, this, fV1_eq, T.setK_eq]
  exact k

/-- A store of a whole row. -/
theorem drW_storeN {x y : Operand} {a : TypeId} {k0 : Nat} {B s : Nat} {c : List Value} {fam : Nat} {ls : List Value} (hx : ev P t x = .pointer (some ⟨B, 0, none⟩)) (hy : ev P t y = .agg ⟨ls⟩) (hs : sizeB P a = some s) (hne : 0 < s) (hls : ls.length = s)
    (hg : h.bl.get B = some (.cells c fam false)) (hf : h.fams.get fam = some [k0]) (hl : c.length = s) (ha : again P (h.upd B ls fam) m hist = true)
    (kk : drawGo P call ops n f l (Nat.lor done (Nat.pow 2 i)) hist t (h.upd B ls fam) KR = true) :
    drW (some true) P call ops n f l done i m ⟨none, .store a x y, ty, pos, af, g⟩ hist t h KR = true := by
  have h2 : (okV (.agg ⟨ls⟩) && Nat.beq (Value.cells (.agg ⟨ls⟩)).size s) = true := by
    rw [show (Value.cells (.agg ⟨ls⟩)).size = ls.length from rfl, hls, Nat.beq_refl]; rfl
  have h1 : Nat.ble (Nat.add 0 ls.length) c.length = true := Nat.ble_eq_true_of_le (by rw [hl, hls]; show 0 + s ≤ s; omega)
  cases ls with
  | nil => simp at hls; omega
  | cons v0 l0 =>
    have hc : (Value.cells (.agg ⟨v0 :: l0⟩)).toList = v0 :: l0 := (rfl)
    have he : spliceL c 0 (v0 :: l0) = v0 :: l0 := by
      rw [spliceL_eq c 0 (v0 :: l0) (by rw [hl, hls]; omega), hls, List.drop_of_length_le (by omega)]
      simp
    simp only [drW, awrite, wStore, hx, hy, hs, h2, cond_true, hc, storeC, hg, storeC1, h1, fSpine_eq, hf, T.setK_eq, he]
    show (bif again P (h.upd B (v0 :: l0) fam) m hist then _ else false) = true
    rw [ha, cond_true]
    exact kk
end

theorem veqL_i64s : ∀ l : List Int, veqL (l.map (.int .i64)) (l.map (.int .i64)) = true
  | [] => by simp only [List.map_nil, veqL]
  | x :: l => by simp only [List.map_cons, veqL, veq, beqI_eq, veqL_i64s l, decide_true, Bool.and_true, beqKind]
theorem veq_i64s (l : List Int) : veq (.agg ⟨l.map (.int .i64)⟩) (.agg ⟨l.map (.int .i64)⟩) = true := by
  simp only [veq, veqA, veqL_i64s]
end Go.Ev
