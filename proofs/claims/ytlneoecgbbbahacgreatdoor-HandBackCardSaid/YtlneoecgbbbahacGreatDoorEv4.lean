/- The state's relation; operations that only read. -/
import Derived.Test.YtlneoecgbbbahacGreatDoorEv3
import Derived.Deep.MidRow
import Derived.Orders
namespace Go.Ev
open Go.RowKit

/-! ## The state -/
inductive ER (m : M) : List MapEntry → List MapEntry → Prop
  | nil : ER m [] []
  | cons {e e' : MapEntry} {l l' : List MapEntry} (hk : e.key = e'.key) (hb : e.born = e'.born) (hv : VR m e.val e'.val) (h : ER m l l') : ER m (e :: l) (e' :: l')

theorem ER.mono {m m' : M} (h : M.le m m') : ∀ {l l' : List MapEntry}, ER m l l' → ER m' l l'
  | _, _, .nil => .nil
  | _, _, .cons a b c d => .cons a b (c.mono h) (ER.mono h d)

/-- The temporaries. -/
def TR (m : M) (t : T Value) (n : Nat) (a : Array Value) : Prop := a.size = n ∧ ∀ i, VR m (tget t i) (a.getD i undef)

theorem TR.mono {m m' : M} (h : M.le m m') {t : T Value} {n : Nat} {a : Array Value} (k : TR m t n a) : TR m' t n a := ⟨k.1, fun i => (k.2 i).mono h⟩

def OR (m : M) (w : World) (B d : Nat) : AObj → Prop
  | .cells c _ ro => ∀ i v, c[i]? = some v → ∃ v', w.cell? ⟨B, d + i, none⟩ = some v' ∧ VR m v v' ∧ oneB v' = true ∧ (ro = false → w.frozen? ⟨B, d + i, none⟩ = false)
  | .map es clock => ∃ es', w.heap[B]? = some (.map es' clock) ∧ ER m es es'.toList
  | .loop st pe t n ps as bo df => ∃ L, w.heap[B]? = some (.loop L) ∧ L.state = st ∧ L.pending = pe ∧ TR m t n L.tmps ∧ L.params = ps ∧ L.assign = as ∧ L.body = bo ∧ ∃ d', m df = some (L.defers, d')
  | .deferred live => w.heap[B]? = some (.deferred (if live then some [] else none))
  | .gone => ∃ L, w.heap[B]? = some (.loop L)
  | .tab c => ∃ t fr, w.heap[B]? = some (.cells c.toArray t fr)

theorem OR.mono {m m' : M} (h : M.le m m') {w : World} {B d : Nat} {o : AObj} (k : OR m w B d o) : OR m' w B d o := by
  cases o with
  | cells c fam ro => exact fun i v e => let ⟨v', a, b, c⟩ := k i v e; ⟨v', a, b.mono h, c⟩
  | map es clock => obtain ⟨es', a, b⟩ := k; exact ⟨es', a, b.mono h⟩
  | loop st pe t n ps as bo df => obtain ⟨L, a, b, c, e, f, g, i, d', j⟩ := k; exact ⟨L, a, b, c, e.mono h, f, g, i, d', h.1 _ _ j⟩
  | deferred live => exact k
  | gone => exact k
  | tab c => exact k

theorem OR.frame {m : M} {w w' : World} {B d : Nat} {o : AObj} (hb : w'.heap[B]? = w.heap[B]?) (k : OR m w B d o) : OR m w' B d o := by
  cases o with
  | cells c fam ro =>
    intro i v e
    obtain ⟨v', a, b, x, y⟩ := k i v e
    refine ⟨v', ?_, b, x, fun hr => ?_⟩
    · rw [World.cell?_of_block (w := w) hb]; exact a
    · rw [World.frozen?_of_block (w := w) hb]; exact y hr
  | map es clock => obtain ⟨es', a, b⟩ := k; exact ⟨es', hb.trans a, b⟩
  | loop st pe t n ps as bo df => obtain ⟨L, a, b⟩ := k; exact ⟨L, hb.trans a, b⟩
  | deferred live => exact hb.trans k
  | gone => obtain ⟨L, e⟩ := k; exact ⟨L, hb.trans e⟩
  | tab c => obtain ⟨t, fr, e⟩ := k; exact ⟨t, fr, hb.trans e⟩

def isRo : AObj → Bool
  | .cells _ _ ro => ro
  | .tab _ => true
  | _ => false

def famOf : AObj → Option Nat
  | .cells _ f _ => some f
  | _ => none

def noCells : AObj → Bool
  | .cells _ _ _ => false
  | .tab _ => false
  | _ => true

structure WR (P : Program) (m : M) (w0 : World) (h : AHeap) (w : World) : Prop where
  obj : ∀ b o, h.bl.get b = some o → ∃ B d, m b = some (B, d) ∧ OR m w B d o ∧ (isRo o = false → w0.heap.size ≤ B) ∧ (isRo o = true → B < w0.heap.size)
  fresh : ∀ b, h.nx ≤ b → m b = none ∧ h.bl.get b = none
  spn : ∀ b, h.nx ≤ b → m.sp b = none
  spf : ∀ b c f ro, h.bl.get b = some (.cells c f ro) → m.sp f = none
  spr : ∀ b B d z E, m b = some (B, d) → m.sp b = some (z, E) → (∀ j, d ≤ j → j < E → (w.cell? ⟨B, j, none⟩).isSome = true ∧ w.frozen? ⟨B, j, none⟩ = false) ∧ ∀ v, h.fams.get b = some v → v = [z]
  dom : ∀ b B d, m b = some (B, d) → B < w.heap.size
  apart : ∀ b₁ b₂ o₁ o₂ B d₁ d₂, h.bl.get b₁ = some o₁ → h.bl.get b₂ = some o₂ → m b₁ = some (B, d₁) → m b₂ = some (B, d₂) → b₁ ≠ b₂ →
    (isRo o₁ = true ∧ isRo o₂ = true) ∨ (∃ f, famOf o₁ = some f ∧ famOf o₂ = some f)
  kin : ∀ b c f, h.bl.get b = some (.cells c f false) → c ≠ [] → ∃ l, h.fams.get f = some l ∧ b ∈ l
  fam : ∀ b c f ro, h.bl.get b = some (.cells c f ro) → f < h.nx
  below : Below w0.heap.size w0 w
  glob : ∀ g, g < P.globals.size → m g = some (g, 0)

/-! ## Operands -/
section
variable {P : Program} {m : M} {w0 w : World} {h : AHeap} {t : T Value} {n : Nat} {a : Act}

theorem ev_rel (hT : TR m t n a.tmps) (hg : ∀ g, g < P.globals.size → m g = some (g, 0)) (x : Operand) : VR m (ev P t x) (a.eval x) := by
  cases x with
  | tmp i => exact hT.2 i
  | const v =>
    simp only [ev]
    cases hp : plainB v with
    | true => exact plain_rel m v hp
    | false => exact .any _ _ _ _
  | global g =>
    simp only [ev]
    cases hp : Nat.blt g P.globals.size with
    | true => exact .ptr 0 (hg g (by simpa [Nat.blt_eq] using hp))
    | false => exact .any _ _ _ _
  | func f => exact .func f .nil .nil

theorem evL_rel (hT : TR m t n a.tmps) (hg : ∀ g, g < P.globals.size → m g = some (g, 0)) : ∀ l : List Operand, LR m (evL P t l) (l.map a.eval)
  | [] => .nil
  | x :: l => .cons (ev_rel hT hg x) (evL_rel hT hg l)

theorem evL_mem : ∀ {l : List Operand} {x : Operand}, x ∈ l → plainL (evL P t l) = true → plainB (ev P t x) = true
  | y :: l, x, hx, hp => by
    simp only [evL, plainL, Bool.and_eq_true] at hp
    cases hx with
    | head => exact hp.1
    | tail _ hx => exact evL_mem hx hp.2

/-! ## Computations without the world -/
theorem pureOf_run {α : Type} (s : Sem α) (x : α) (w : World) (e : pureOf P s = some x) : s.run P w = .ok x w := by
  induction s with
  | pure b => simp only [pureOf, Option.some.injEq] at e; subst e; rfl
  | program k ih => exact ih _ (by simpa [pureOf] using e)
  | mark mk k ih => exact ih (by simpa [pureOf] using e)
  | _ => simp [pureOf] at e

theorem ground_rel (hT : TR m t n a.tmps) (hg : ∀ g, g < P.globals.size → m g = some (g, 0)) (o : Oper) {v : Value} (e : ground P t o = some v) (w : World) :
    ∃ v', (execOp a.eval o).run P w = .ok (.value v') w ∧ VR m v v' := by
  unfold ground at e
  cases hp : plainL (evL P t o.op.operands.toList) with
  | false => rw [hp] at e; simp at e
  | true =>
    rw [hp, cond_true] at e
    split at e
    · rename_i v' hv
      cases hpv : plainB v' with
      | false => rw [hpv] at e; simp at e
      | true =>
        rw [hpv, cond_true, Option.some.injEq] at e
        subst e
        have hns : ∀ cs b, o.op ≠ .select cs b := by
          intro cs b ho
          have : pureOf P (execOp (ev P t) o) = none := by
            obtain ⟨dst, op, type, pos, after, guard⟩ := o
            simp only at ho
            subst ho
            simp only [execOp]
            have key : ∀ (s : Sem (Array CommCase)) (r : Value), pureOf P (do let cases ← s; pure (.comm cases b .select)) ≠ some (Next.value r) := by
              intro s r
              induction s with
              | pure c => intro h; cases h
              | program k ih => exact ih P
              | mark mk k ih => exact ih
              | _ => intro h; cases h
            exact absurd hv (key _ _)
          rw [this] at hv; cases hv
        have hcg : execOp a.eval o = execOp (ev P t) o := execOp_congr o hns fun x hx => by
          have hx' : x ∈ o.op.operands.toList := by simpa using hx
          exact (plain_eq _ _ (evL_mem hx' hp) (ev_rel hT hg x)).symm
        rw [hcg]
        exact ⟨v', pureOf_run _ _ w hv, plain_rel m v' hpv⟩
    · cases e

/-! ## Types -/
theorem run_und {ty : TypeId} {d : TypeDesc} (e : P.underlying ty = some d) (w : World) : (underlying ty).run P w = .ok d w := by
  simp [underlying, e]
theorem run_info {ty : TypeId} {i : TypeInfo} (e : P.info? ty = some i) (w : World) : (typeInfo ty).run P w = .ok i w := by
  simp [typeInfo, e]
theorem run_size {ty : TypeId} {i : TypeInfo} (e : P.info? ty = some i) (w : World) : (sizeOf ty).run P w = .ok i.size w := by
  simp [sizeOf, run_info e]
theorem run_agg {ty : TypeId} {d : TypeDesc} (e : P.underlying ty = some d) (w : World) : (isAgg ty).run P w = .ok (isAggB d) w := by
  unfold isAgg
  rw [Sem.run_bind, run_und e w]
  cases d <;> simp [isAggB]

theorem sizeB_info {ty : TypeId} {s : Nat} (e : sizeB P ty = some s) : ∃ i, P.info? ty = some i ∧ i.size = s := by
  unfold sizeB at e
  split at e
  · rename_i i hi; exact ⟨i, hi, by simpa using e⟩
  · cases e

theorem run_sizeB {ty : TypeId} {s : Nat} (e : sizeB P ty = some s) (w : World) : (sizeOf ty).run P w = .ok s w := by
  obtain ⟨i, hi, hs⟩ := sizeB_info e
  rw [run_size hi, hs]

/-! ## Cells -/
/-- What the evaluator knows of the cells of a block, from an offset on, lies there. -/
theorem cells_range {c : List Value} {fam : Nat} {ro : Bool} {B d : Nat} (k : OR m w B d (.cells c fam ro)) (off : Nat) (l : List Value)
    (hl : ∀ j v, l[j]? = some v → c[off + j]? = some v) :
    ∃ l' : List Value, LR m l l' ∧ (∀ v ∈ l', oneB v = true) ∧ w.rangeAt B (off + d) l' := by
  induction l generalizing off with
  | nil => exact ⟨[], .nil, fun v hv => by simp at hv, fun j v hj => by simp at hj⟩
  | cons v l ih =>
    obtain ⟨v', h1, h2, h3, _⟩ := k off v (by simpa using hl 0 v rfl)
    obtain ⟨l', h4, h5, h6⟩ := ih (off + 1) (fun j u hj => by have := hl (j + 1) u (by simpa using hj); rw [← this]; congr 1; omega)
    refine ⟨v' :: l', .cons h2 h4, fun u hu => ?_, fun j u hj => ?_⟩
    · cases hu with
      | head => exact h3
      | tail _ hu => exact h5 u hu
    · cases j with
      | zero => simp at hj; subst hj; rw [← h1]; congr 2; omega
      | succ j =>
        have := h6 j u (by simpa using hj)
        rw [← this]; congr 2; omega

theorem partL_load {c : List Value} {fam : Nat} {ro : Bool} {B d : Nat} (k : OR m w B d (.cells c fam ro)) {ty : TypeId} {off : Nat} {v : Value} (e : partL P ty c off = some v) :
    ∃ v', (loadVar ty ⟨B, off + d, none⟩).run P w = .ok v' w ∧ VR m v v' := by
  unfold partL at e
  split at e
  · rename_i dd i hu hi
    cases hagg : isAggB dd with
    | false =>
      rw [hagg, cond_false] at e
      obtain ⟨v', h1, h2, h3, _⟩ := k off v e
      refine ⟨v', ?_, h2⟩
      simp only [loadVar, Sem.run_bind, run_agg hu, hagg, Result.andThen_ok, Bool.false_eq_true, if_false]
      rw [show off + d = d + off from Nat.add_comm _ _]
      simp [h1]
    | true =>
      rw [hagg, cond_true] at e
      cases hb : Nat.ble (Nat.add off i.size) c.length with
      | false => rw [hb] at e; simp at e
      | true =>
        rw [hb, cond_true, Option.some.injEq] at e
        subst e
        have hb' : off + i.size ≤ c.length := Nat.le_of_ble_eq_true hb
        obtain ⟨l', h1, h2, h3⟩ := cells_range k off ((c.drop off).take i.size) (fun j v hj => by
          rw [List.getElem?_take] at hj
          split at hj
          · simpa [List.getElem?_drop] using hj
          · cases hj)
        have hlen : i.size = l'.length := by rw [← h1.length]; simp; omega
        refine ⟨.agg l'.toArray, run_loadVar_mid w B (off + d) ty l' dd h3 hu (by cases dd <;> simp_all [isAggB]) (by simp [hi, hlen]), .agg (by simpa using h1) (by simpa using h2)⟩
  · cases e

theorem getElem?_toList' (a : Array Value) (i : Nat) : a.toList[i]? = a[i]? := by simp

theorem partL_part {c c' : List Value} (k : LR m c c') (h1 : ∀ v ∈ c', oneB v = true) {ty : TypeId} {off : Nat} {v : Value} (e : partL P ty c off = some v) (w : World) :
    ∃ v', (part ty c'.toArray off).run P w = .ok v' w ∧ VR m v v' := by
  unfold partL at e
  split at e
  · rename_i dd i hu hi
    cases hagg : isAggB dd with
    | false =>
      rw [hagg, cond_false] at e
      obtain ⟨v', h2, h3⟩ := k.get off v e
      refine ⟨v', ?_, h3⟩
      simp only [part, Sem.run_bind, run_agg hu, hagg, Result.andThen_ok, Bool.false_eq_true, if_false]
      simp [h2]
    | true =>
      rw [hagg, cond_true] at e
      cases hb : Nat.ble (Nat.add off i.size) c.length with
      | false => rw [hb] at e; simp at e
      | true =>
        rw [hb, cond_true, Option.some.injEq] at e
        subst e
        refine ⟨.agg ((c'.toArray).extract off (off + i.size)), ?_, ?_⟩
        · simp only [part, Sem.run_bind, run_agg hu, hagg, Result.andThen_ok, if_true, run_size hi, Sem.run_pure]
        · have he : ((c'.toArray).extract off (off + i.size)).toList = (c'.drop off).take i.size := by
            simp [List.extract_eq_take_drop]
          refine .agg ?_ ?_
          · rw [he]; exact (k.drop off).take i.size
          · rw [he]; intro u hu; exact h1 u (List.mem_of_mem_drop (List.mem_of_mem_take hu))
  · cases e
end

end Go.Ev
