/- Calls that only read what they are given: one run serves wherever the same data lies. -/
import Derived.Test.YtlneoecgbbbahadEvC
namespace Go.Ev
open Go.RowKit

/-- Which block a pattern's block is. -/
abbrev Sg := List (Nat × Nat)
def lookS : Sg → Nat → Option Nat
  | [], _ => none
  | p :: l, c => bif Nat.beq p.1 c then some p.2 else lookS l c
def putS (lo hi : Nat) (σ : Sg) (c b : Nat) : Option Sg :=
  match lookS σ c with
  | some b' => bif Nat.beq b' b then some σ else none
  | none => bif Nat.ble lo c && Nat.blt c hi then some ((c, b) :: σ) else none

mutual
def matV (lo hi : Nat) : Value → Value → Sg → Option Sg
  | .pointer (some ⟨c, o, none⟩), .pointer (some ⟨b, o', none⟩), σ => bif Nat.beq o o' then putS lo hi σ c b else none
  | .slice (some ⟨c, o, none⟩) n k, .slice (some ⟨b, o', none⟩) n' k', σ => bif Nat.beq o o' && (Nat.beq n n' && Nat.beq k k') then putS lo hi σ c b else none
  | .agg a, .agg b, σ => matA lo hi a b σ
  | p, v, σ => bif plainB p && veq p v then some σ else none
def matA (lo hi : Nat) : Array Value → Array Value → Sg → Option Sg
  | ⟨a⟩, ⟨b⟩, σ => matL lo hi a b σ
def matL (lo hi : Nat) : List Value → List Value → Sg → Option Sg
  | [], [], σ => some σ
  | p :: ps, v :: vs, σ =>
    match matV lo hi p v σ with
    | some σ => matL lo hi ps vs σ
    | none => none
  | _, _, _ => none
end

def matB (lo hi : Nat) (h : AHeap) : List (Nat × List Value) → Sg → Option Sg
  | [], σ => some σ
  | p :: r, σ =>
    match lookS σ p.1 with
    | some b =>
      match h.bl.get b with
      | some (.cells cs' _ _) =>
        match matL lo hi p.2 cs' σ with
        | some σ => matB lo hi h r σ
        | none => none
      | _ => none
    | none => none

def Ext (σ σ' : Sg) : Prop := ∀ c b, lookS σ c = some b → lookS σ' c = some b
def InR (lo hi : Nat) (σ : Sg) : Prop := ∀ c b, lookS σ c = some b → lo ≤ c ∧ c < hi

section
variable {lo hi : Nat}
theorem Ext.rfl' {σ : Sg} : Ext σ σ := fun _ _ h => h
theorem Ext.trans {a b c : Sg} (h : Ext a b) (k : Ext b c) : Ext a c := fun x y e => k x y (h x y e)

theorem putS_ok {σ σ' : Sg} {c b : Nat} (e : putS lo hi σ c b = some σ') : lookS σ' c = some b ∧ Ext σ σ' ∧ (InR lo hi σ → InR lo hi σ') := by
  unfold putS at e
  split at e
  · rename_i b' hb
    cases hbb : Nat.beq b' b with
    | false => rw [hbb] at e; cases e
    | true =>
      rw [hbb, cond_true] at e
      cases e
      obtain rfl := Nat.eq_of_beq_eq_true hbb
      exact ⟨hb, Ext.rfl', fun h => h⟩
  · rename_i hn
    cases hr : (Nat.ble lo c && Nat.blt c hi) with
    | false => rw [hr] at e; cases e
    | true =>
      rw [hr, cond_true] at e
      cases e
      simp only [Bool.and_eq_true, Nat.blt_eq] at hr
      have h1 := Nat.le_of_ble_eq_true hr.1
      refine ⟨by simp [lookS], fun x y hxy => ?_, fun hR x y hxy => ?_⟩
      · simp only [lookS]
        cases hx : Nat.beq c x with
        | true =>
          obtain rfl := Nat.eq_of_beq_eq_true hx
          rw [hn] at hxy; cases hxy
        | false => exact hxy
      · simp only [lookS] at hxy
        cases hx : Nat.beq c x with
        | true =>
          obtain rfl := Nat.eq_of_beq_eq_true hx
          exact ⟨h1, hr.2⟩
        | false => rw [hx, cond_false] at hxy; exact hR x y hxy

mutual
theorem matV_ok : ∀ (p v : Value) (σ σ' : Sg), matV lo hi p v σ = some σ' → Ext σ σ' ∧ (InR lo hi σ → InR lo hi σ')
  | p, v, σ, σ', e => by
    unfold matV at e
    split at e
    · rename_i c o b o'
      cases h : Nat.beq o o' with
      | false => rw [h] at e; cases e
      | true => rw [h, cond_true] at e; exact (putS_ok e).2
    · rename_i c o n k b o' n' k'
      cases h : (Nat.beq o o' && (Nat.beq n n' && Nat.beq k k')) with
      | false => rw [h] at e; cases e
      | true => rw [h, cond_true] at e; exact (putS_ok e).2
    · rename_i a b
      exact matA_ok a b σ σ' e
    · cases h : (plainB p && veq p v) with
      | false => rw [h] at e; cases e
      | true => rw [h, cond_true] at e; cases e; exact ⟨Ext.rfl', fun k => k⟩
  termination_by p => SizeOf.sizeOf p
theorem matA_ok : ∀ (p v : Array Value) (σ σ' : Sg), matA lo hi p v σ = some σ' → Ext σ σ' ∧ (InR lo hi σ → InR lo hi σ')
  | ⟨a⟩, ⟨b⟩, σ, σ', e => by
    unfold matA at e
    exact matL_ok a b σ σ' e
  termination_by p => SizeOf.sizeOf p
theorem matL_ok : ∀ (p v : List Value) (σ σ' : Sg), matL lo hi p v σ = some σ' → Ext σ σ' ∧ (InR lo hi σ → InR lo hi σ')
  | [], v, σ, σ', e => by
    cases v with
    | nil => unfold matL at e; cases e; exact ⟨Ext.rfl', fun k => k⟩
    | cons _ _ => unfold matL at e; cases e
  | p :: ps, v, σ, σ', e => by
    cases v with
    | nil => unfold matL at e; cases e
    | cons v vs =>
      unfold matL at e
      split at e
      · rename_i σ1 h1
        obtain ⟨k1, k2⟩ := matV_ok p v σ σ1 h1
        obtain ⟨k3, k4⟩ := matL_ok ps vs σ1 σ' e
        exact ⟨k1.trans k3, fun k => k4 (k2 k)⟩
      · cases e
  termination_by p => SizeOf.sizeOf p
end

/-- The pattern's blocks, as they lie. -/
def mS (G : Nat) (σ : Sg) (m : M) : M :=
  ⟨fun c => if c < G then some (c, 0) else match lookS σ c with | some b => m b | none => none,
   fun c => if c < G + 1 then none else match lookS σ c with | some b => m.sp b | none => none⟩

theorem mS_at {G : Nat} {σ : Sg} {m : M} {c b : Nat} (hc : G + 1 ≤ c) (h : lookS σ c = some b) : mS G σ m c = m b ∧ (mS G σ m).sp c = m.sp b := by
  constructor
  · show (if c < G then some (c, 0) else match lookS σ c with | some b => m b | none => none) = m b
    rw [if_neg (by omega), h]
  · show (if c < G + 1 then none else match lookS σ c with | some b => m.sp b | none => none) = m.sp b
    rw [if_neg (by omega), h]

theorem plain_any {m m' : M} {p v v' : Value} (h : (plainB p && veq p v) = true) (hv : VR m v v') : VR m' p v' := by
  simp only [Bool.and_eq_true] at h
  obtain rfl := veq_eq _ _ h.2
  obtain rfl := plain_eq _ _ h.1 hv
  exact plain_rel m' p h.1

mutual
theorem matV_rel {G : Nat} {m : M} {σ : Sg} (hR : InR (G + 1) hi σ) : ∀ (p v : Value) (σ0 σ1 : Sg), matV lo hi p v σ0 = some σ1 → Ext σ1 σ → ∀ v', VR m v v' → VR (mS G σ m) p v'
  | p, v, σ0, σ1, e, hE, v', hv => by
    unfold matV at e
    split at e
    · rename_i c o b o'
      cases h : Nat.beq o o' with
      | false => rw [h] at e; cases e
      | true =>
        rw [h, cond_true] at e
        obtain rfl := Nat.eq_of_beq_eq_true h
        have hl := hE _ _ (putS_ok e).1
        cases hv with
        | ptr _ hm => exact .ptr _ ((mS_at (hR _ _ hl).1 hl).1.trans hm)
    · rename_i c o n k b o' n' k'
      cases h : (Nat.beq o o' && (Nat.beq n n' && Nat.beq k k')) with
      | false => rw [h] at e; cases e
      | true =>
        rw [h, cond_true] at e
        simp only [Bool.and_eq_true] at h
        obtain rfl := Nat.eq_of_beq_eq_true h.1
        obtain rfl := Nat.eq_of_beq_eq_true h.2.1
        obtain rfl := Nat.eq_of_beq_eq_true h.2.2
        have hl := hE _ _ (putS_ok e).1
        obtain ⟨q1, q2⟩ := mS_at (m := m) (hR _ _ hl).1 hl
        cases hv with
        | sl _ _ _ cap' hm hc hz => exact .sl _ _ _ cap' (q1.trans hm) hc (by rw [q2]; exact hz)
    · rename_i a b
      cases hv with
      | agg hv2 h1 => exact .agg (matA_rel hR a b σ0 σ1 e hE _ hv2) h1
    · cases h : (plainB p && veq p v) with
      | false => rw [h] at e; cases e
      | true => exact plain_any h hv
  termination_by p => SizeOf.sizeOf p
theorem matA_rel {G : Nat} {m : M} {σ : Sg} (hR : InR (G + 1) hi σ) : ∀ (p v : Array Value) (σ0 σ1 : Sg), matA lo hi p v σ0 = some σ1 → Ext σ1 σ → ∀ v' : Array Value, LR m v.toList v'.toList → LR (mS G σ m) p.toList v'.toList
  | ⟨a⟩, ⟨b⟩, σ0, σ1, e, hE, v', hv => by
    unfold matA at e
    exact matL_rel hR a b σ0 σ1 e hE _ hv
  termination_by p => SizeOf.sizeOf p
theorem matL_rel {G : Nat} {m : M} {σ : Sg} (hR : InR (G + 1) hi σ) : ∀ (p v : List Value) (σ0 σ1 : Sg), matL lo hi p v σ0 = some σ1 → Ext σ1 σ → ∀ v' : List Value, LR m v v' → LR (mS G σ m) p v'
  | [], v, σ0, σ1, e, hE, v', hv => by
    cases v with
    | nil => cases hv; exact .nil
    | cons _ _ => unfold matL at e; cases e
  | p :: ps, v, σ0, σ1, e, hE, v', hv => by
    cases v with
    | nil => unfold matL at e; cases e
    | cons v vs =>
      unfold matL at e
      split at e
      · rename_i σ2 h1
        obtain ⟨k3, _⟩ := matL_ok ps vs σ2 σ1 e
        cases hv with
        | cons q1 q2 => exact .cons (matV_rel hR p v σ0 σ2 h1 (k3.trans hE) _ q1) (matL_rel hR ps vs σ2 σ1 e hE _ q2)
      · cases e
  termination_by p => SizeOf.sizeOf p
end

theorem matL_get : ∀ (p v : List Value) (σ0 σ1 : Sg), matL lo hi p v σ0 = some σ1 → ∀ (i : Nat) (x : Value), p[i]? = some x → ∃ y σa σb, v[i]? = some y ∧ matV lo hi x y σa = some σb ∧ Ext σb σ1
  | [], v, σ0, σ1, e, i, x, h => by simp at h
  | p :: ps, v, σ0, σ1, e, i, x, h => by
    cases v with
    | nil => unfold matL at e; cases e
    | cons v vs =>
      unfold matL at e
      split at e
      · rename_i σ2 h1
        cases i with
        | zero =>
          simp only [List.getElem?_cons_zero, Option.some.injEq] at h
          subst h
          exact ⟨v, σ0, σ2, rfl, h1, (matL_ok ps vs σ2 σ1 e).1⟩
        | succ i =>
          obtain ⟨y, σa, σb, k1, k2, k3⟩ := matL_get ps vs σ2 σ1 e i x (by simpa using h)
          exact ⟨y, σa, σb, by simpa using k1, k2, k3⟩
      · cases e

theorem matB_ok (h : AHeap) : ∀ (bl : List (Nat × List Value)) (σ σ' : Sg), matB lo hi h bl σ = some σ' → Ext σ σ' ∧ (InR lo hi σ → InR lo hi σ') ∧
    ∀ p, p ∈ bl → ∃ b cs' f ro σa σb, lookS σ' p.1 = some b ∧ h.bl.get b = some (.cells cs' f ro) ∧ matL lo hi p.2 cs' σa = some σb ∧ Ext σb σ'
  | [], σ, σ', e => by unfold matB at e; cases e; exact ⟨Ext.rfl', fun k => k, fun p hp => by cases hp⟩
  | q :: r, σ, σ', e => by
    unfold matB at e
    split at e
    · rename_i b hb
      split at e
      · rename_i cs' f ro hg
        split at e
        · rename_i σ1 h1
          obtain ⟨k1, k2⟩ := matL_ok _ _ _ _ h1
          obtain ⟨k3, k4, k5⟩ := matB_ok h r σ1 σ' e
          refine ⟨k1.trans k3, fun k => k4 (k2 k), fun p hp => ?_⟩
          cases hp with
          | head => exact ⟨b, cs', f, ro, σ, σ1, k3 _ _ (k1 _ _ hb), hg, h1, k3⟩
          | tail _ hp => exact k5 p hp
        · cases e
      · cases e
    · cases e
end

/-! ## Rows -/
structure HRow where
  g : FuncId
  l : List Value
  bl : List (Nat × List Value)
  hi : Nat
  v : Value

def roT (f : Nat) : List (Nat × List Value) → T AObj
  | [] => .leaf
  | p :: r => T.set (p.1 + 1) (roT f r) p.1 (.cells p.2 f true)
theorem roT_get (f : Nat) : ∀ (bl : List (Nat × List Value)) (k : Nat) (o : AObj), (roT f bl).get k = some o → ∃ cs, (k, cs) ∈ bl ∧ o = .cells cs f true
  | [], k, o, e => by simp [roT, T.get_leaf] at e
  | p :: r, k, o, e => by
    simp only [roT, T.get_set _ _ _ _ _ (Nat.lt_succ_self _)] at e
    split at e
    · rename_i hk
      cases e
      subst hk
      exact ⟨p.2, by simp, rfl⟩
    · obtain ⟨cs, h1, h2⟩ := roT_get f r k o e
      exact ⟨cs, by simp [h1], h2⟩

def hH (G : Nat) (r : HRow) : AHeap := ⟨roT G r.bl, r.hi, .leaf⟩
def hrowF (G : Nat) (r : HRow) (l : List Value) (h : AHeap) : Option Value :=
  match matL (G + 1) r.hi r.l l [] with
  | some σ =>
    match matB (G + 1) r.hi h r.bl σ with
    | some _ => some r.v
    | none => none
  | none => none

theorem wr_hrow {P : Program} {m : M} {w0 : Base} {w : World} {h : AHeap} (hW : WR P m w0 h w) {r : HRow} {l l' : List Value} {v : Value} (hl : LR m l l') (hhi : P.globals.size + 1 ≤ r.hi) (e : hrowF P.globals.size r l h = some v) :
    v = r.v ∧ ∃ m' : M, WR P m' (base w) (hH P.globals.size r) w ∧ LR m' r.l l' := by
  unfold hrowF at e
  split at e
  · rename_i σ0 h0
    split at e
    · rename_i σ h1
      cases e
      obtain ⟨k1, k2⟩ := matL_ok _ _ _ _ h0
      obtain ⟨k3, k4, k5⟩ := matB_ok h r.bl σ0 σ h1
      have hR : InR (P.globals.size + 1) r.hi σ := k4 (k2 (fun c b q => by cases q))
      refine ⟨rfl, mS P.globals.size σ m, ?_, matL_rel hR _ _ _ _ h0 k3 _ hl⟩
      have hin : ∀ c b, lookS σ c = some b → P.globals.size + 1 ≤ c ∧ c < r.hi := hR
      have hnone : ∀ c, r.hi ≤ c → lookS σ c = none := fun c hc => by
        cases hq : lookS σ c with
        | none => rfl
        | some b => have := (hin c b hq).2; omega
      have hdom : ∀ c B d, mS P.globals.size σ m c = some (B, d) → B < w.heap.size := by
        intro c B d hc
        by_cases hg : c < P.globals.size
        · have : mS P.globals.size σ m c = some (c, 0) := by show (if c < P.globals.size then some (c, 0) else _) = _; rw [if_pos hg]
          rw [this] at hc
          cases hc
          exact hW.dom _ _ _ (hW.glob c hg)
        · cases hq : lookS σ c with
          | none =>
            have : mS P.globals.size σ m c = none := by show (if c < P.globals.size then some (c, 0) else match lookS σ c with | some b => m b | none => none) = _; rw [if_neg hg, hq]
            rw [this] at hc; cases hc
          | some b =>
            rw [(mS_at (hin c b hq).1 hq).1] at hc
            exact hW.dom _ _ _ hc
      exact {
        obj := fun c o e => by
          obtain ⟨cs, hm, rfl⟩ := roT_get _ _ _ _ e
          obtain ⟨b, cs', f, ro, σa, σb, q1, q2, q3, q4⟩ := k5 _ hm
          obtain ⟨B, d, g1, g2, _⟩ := hW.obj b _ q2
          have hmc := (mS_at (m := m) (hin c b q1).1 q1).1
          refine ⟨B, d, hmc.trans g1, ?_, (fun hr => by cases hr), fun _ => hW.dom _ _ _ g1⟩
          intro i p hp
          obtain ⟨y, σc, σd, t1, t2, t3⟩ := matL_get _ _ _ _ q3 i p hp
          obtain ⟨y', u1, u2, u3, _⟩ := g2 i y t1
          exact ⟨y', u1, matV_rel hR p y σc σd t2 (t3.trans q4) y' u2, u3, fun hr => by cases hr⟩
        fresh := fun c hc => by
          have hc' : r.hi ≤ c := hc
          refine ⟨?_, ?_⟩
          · show (if c < P.globals.size then some (c, 0) else match lookS σ c with | some b => m b | none => none) = none
            rw [if_neg (by omega), hnone c hc']
          · cases hq : (hH P.globals.size r).bl.get c with
            | none => rfl
            | some o =>
              obtain ⟨cs, hm, _⟩ := roT_get _ _ _ _ hq
              obtain ⟨b, _, _, _, _, _, q1, _⟩ := k5 _ hm
              have := (hin c b q1).2
              omega
        spn := fun c hc => by
          have hc' : r.hi ≤ c := hc
          show (if c < P.globals.size + 1 then none else match lookS σ c with | some b => m.sp b | none => none) = none
          rw [if_neg (by omega), hnone c hc']
        spf := fun c cs f ro e => by
          obtain ⟨cs', hm, e2⟩ := roT_get _ _ _ _ e
          cases e2
          show (if P.globals.size < P.globals.size + 1 then none else _) = none
          rw [if_pos (by omega)]
        spr := fun c B d z E e1 e2 => by
          by_cases hg : c < P.globals.size + 1
          · have : (mS P.globals.size σ m).sp c = none := by show (if c < P.globals.size + 1 then none else _) = none; rw [if_pos hg]
            rw [this] at e2; cases e2
          · cases hq : lookS σ c with
            | none =>
              have : (mS P.globals.size σ m).sp c = none := by show (if c < P.globals.size + 1 then none else match lookS σ c with | some b => m.sp b | none => none) = none; rw [if_neg hg, hq]
              rw [this] at e2; cases e2
            | some b =>
              obtain ⟨q1, q2⟩ := mS_at (m := m) (hin c b hq).1 hq
              rw [q1] at e1
              rw [q2] at e2
              exact ⟨(hW.spr b B d z E e1 e2).1, fun v hv => by simp [hH, T.get_leaf] at hv⟩
        dom := hdom
        apart := fun c1 c2 o1 o2 B d1 d2 e1 e2 _ _ _ => by
          obtain ⟨_, _, rfl⟩ := roT_get _ _ _ _ e1
          obtain ⟨_, _, rfl⟩ := roT_get _ _ _ _ e2
          exact .inl ⟨rfl, rfl⟩
        kin := fun c cs f e => by
          obtain ⟨_, _, e2⟩ := roT_get _ _ _ _ e
          cases e2
        fam := fun c cs f ro e => by
          obtain ⟨_, _, e2⟩ := roT_get _ _ _ _ e
          cases e2
          show P.globals.size < r.hi
          omega
        below := Below.refl _ _
        glob := fun g hg => by show (if g < P.globals.size then some (g, 0) else _) = _; rw [if_pos hg]
        res := fun r e => by simp [hH, T.get_leaf] at e
        park := fun _ _ e => e.elim }
    · cases e
  · cases e

/-- A row is right: its one run. -/
def HOk (P : Program) (r : HRow) : Prop :=
  P.globals.size + 1 ≤ r.hi ∧ plainB r.v = true ∧ ∃ fn c, P.funcs[r.g]? = some fn ∧ fn.body = some c ∧ (fn.name == "runtime.NumGoroutine") = false ∧ Nat.ble r.l.length fn.ntmps = true ∧
    SoundAt P fn.ntmps none c (argsT r.l) (hH P.globals.size r) [] (finish P fn fun v _ => veq v r.v)

theorem HOk.row {P : Program} {r : HRow} (k : HOk P r) {l : List Value} {h : AHeap} {v : Value} (e : hrowF P.globals.size r l h = some v) :
    plainB v = true ∧ (∃ fn c, P.funcs[r.g]? = some fn ∧ fn.body = some c ∧ (fn.name == "runtime.NumGoroutine") = false) ∧
    ∀ (m : M) (w0 : Base) (w : World) (l' : List Value), WR P m w0 h w → LR m l l' → Calls P r.g l'.toArray w fun e w' => e = .returned v ∧ Below w.heap.size w w' := by
  obtain ⟨k1, k2, fn, c, k3, k4, k5, k6, k7⟩ := k
  have hv : v = r.v := by
    unfold hrowF at e
    split at e
    · split at e
      · cases e; rfl
      · cases e
    · cases e
  subst hv
  refine ⟨k2, ⟨fn, c, k3, k4, k5⟩, fun m w0 w l' hW hl => ?_⟩
  obtain ⟨_, m', hW', hl'⟩ := wr_hrow hW hl k1 e
  have e2 : callBody (exA P) P fn c r.l (hH P.globals.size r) (fun v _ => veq v r.v) = true := by
    unfold callBody
    rw [k5, cond_false, k6, cond_true, setArgs_id]
    exact @decide_eq_true _ (Classical.propDecidable _) k7
  obtain ⟨_, kk⟩ := callBody_sound (rd := none) (nn := 0) (exA_sound P) k3 k4 hW' hl' e2 (R := fun v' w' => v' = r.v ∧ Below w.heap.size w w') (fun m2 u v' h' w' hle hv hW2 hK => by
    obtain rfl := veq_eq _ _ hK
    exact ⟨(plain_eq _ _ k2 hv).symm, hW2.below⟩)
  have kk2 : CallsIn Fence.wide 0 P r.g l'.toArray w _ := kk
  refine (callsIn_wide.1 kk2).mono fun e w' he => ?_
  cases e with
  | returned u => exact ⟨by rw [he.1], he.2⟩
  | panicked _ => exact he.elim
  | outgrown => exact he.elim

def hfind (G : Nat) (g : FuncId) (l : List Value) (h : AHeap) : List HRow → Option Value
  | [] => none
  | r :: rs => bif Nat.beq r.g g then (match hrowF G r l h with | some v => some v | none => hfind G g l h rs) else hfind G g l h rs
/-- A table with rows in front. -/
def hprim (G : Nat) (rs : List HRow) (pr : Prim) : Prim := fun g l h =>
  match hfind G g l h rs with
  | some v => some v
  | none => pr g l h

theorem hfind_ok {P : Program} {g : FuncId} {l : List Value} {h : AHeap} : ∀ (rs : List HRow) (v : Value), hfind P.globals.size g l h rs = some v → ∃ r, r ∈ rs ∧ r.g = g ∧ hrowF P.globals.size r l h = some v
  | [], v, e => by cases e
  | r :: rs, v, e => by
    unfold hfind at e
    cases hb : Nat.beq r.g g with
    | false =>
      rw [hb, cond_false] at e
      obtain ⟨r', k1, k2, k3⟩ := hfind_ok rs v e
      exact ⟨r', by simp [k1], k2, k3⟩
    | true =>
      rw [hb, cond_true] at e
      split at e
      · rename_i v' hv
        cases e
        exact ⟨r, by simp, Nat.eq_of_beq_eq_true hb, hv⟩
      · obtain ⟨r', k1, k2, k3⟩ := hfind_ok rs v e
        exact ⟨r', by simp [k1], k2, k3⟩

theorem hprim_sound {P : Program} {G : Nat} (hG : P.globals.size = G) {rs : List HRow} {pr : Prim} (hp : PrimSound P pr) (hr : ∀ r, r ∈ rs → HOk P r) : PrimSound P (hprim G rs pr) := by
  subst hG
  intro g l h v e
  unfold hprim at e
  split at e
  · rename_i v' hv
    cases e
    obtain ⟨r, k1, rfl, k3⟩ := hfind_ok rs _ hv
    exact (hr r k1).row k3
  · exact hp g l h v e
end Go.Ev
