/- Regions that draw their order: parts. -/
import Derived.Test.YtlneoecgbbbahacGreatDoorEv17
import Derived.OrdersIn
namespace Go.Ev
open Go.RowKit

/-! ## Equal values -/
theorem beqB_eq {a b : Bool} (e : beqB a b = true) : a = b := by cases a <;> cases b <;> first | rfl | cases e

theorem beqBytes_eq : ∀ {a b : List UInt8}, beqBytes a b = true → a = b
  | [], [], _ => rfl
  | [], _ :: _, e => by cases e
  | _ :: _, [], e => by cases e
  | a :: l, b :: r, e => by
    simp only [beqBytes, Bool.and_eq_true] at e
    rw [beqBytes_eq e.2, UInt8.toNat_inj.1 (Nat.eq_of_beq_eq_true e.1)]

mutual
theorem veq_eq : ∀ (a b : Value), veq a b = true → a = b
  | a, b, e => by
    unfold veq at e
    split at e
    · rw [beqB_eq e]
    · simp only [Bool.and_eq_true] at e
      rw [beqKind_eq e.1]
      have := e.2
      rw [beqI_iff, beq_iff_eq] at this
      rw [this]
    · rw [beqBytes_eq e]
    · rfl
    · simp only [Bool.and_eq_true] at e
      rw [Nat.eq_of_beq_eq_true e.1, Nat.eq_of_beq_eq_true e.2]
    · rfl
    · rfl
    · simp only [Bool.and_eq_true] at e
      rw [Nat.eq_of_beq_eq_true e.1.1.1, Nat.eq_of_beq_eq_true e.1.1.2, Nat.eq_of_beq_eq_true e.1.2, Nat.eq_of_beq_eq_true e.2]
    · rfl
    · rw [Nat.eq_of_beq_eq_true e]
    · rfl
    · rfl
    · simp only [Bool.and_eq_true] at e
      rw [Nat.eq_of_beq_eq_true e.1.1, veqA_eq _ _ e.1.2, veqA_eq _ _ e.2]
    · simp only [Bool.and_eq_true] at e
      rw [Nat.eq_of_beq_eq_true e.1.1, veqA_eq _ _ e.1.2, veqA_eq _ _ e.2]
    · rw [veqA_eq _ _ e]
    · rw [veqA_eq _ _ e]
    · simp only [Bool.and_eq_true] at e
      rw [Nat.eq_of_beq_eq_true e.1, veq_eq _ _ e.2]
    · cases e
theorem veqA_eq : ∀ (a b : Array Value), veqA a b = true → a = b
  | ⟨a⟩, ⟨b⟩, e => by rw [veqL_eq a b (by simpa [veqA] using e)]
theorem veqL_eq : ∀ (a b : List Value), veqL a b = true → a = b
  | [], [], _ => rfl
  | [], _ :: _, e => by cases e
  | _ :: _, [], e => by cases e
  | a :: l, b :: r, e => by
    simp only [veqL, Bool.and_eq_true] at e
    rw [veq_eq _ _ e.1, veqL_eq _ _ e.2]
end

section
variable {P : Program} {m : M} {w0 w : World} {h : AHeap} {t : T Value} {n : Nat} {a : Act} {rd : Option Nat} {nn : Nat} {ops : Array Oper}

/-- Operations that do not read memory. -/
theorem aread_still (h h' : AHeap) {o : Oper} (hr : isReadOp o.op = false) : aread P t h o = aread P t h' o := by
  unfold aread
  split <;> first | rfl | (rename_i ho; rw [ho] at hr; cases hr) | (rename_i ho; rw [ho] at hr; simp [isReadOp] at hr)

theorem not_select_read {o : Oper} {v : Value} (e : aread P t h o = some v) : ∀ cs b, o.op ≠ .select cs b := by
  intro c b ho
  unfold aread at e
  rw [ho] at e
  cases e

theorem not_select_write {o : Oper} {call : CallT} {K : KV} (e : awrite P call t h o K = true) : ∀ cs b, o.op ≠ .select cs b := by
  intro c b ho
  unfold awrite at e
  rw [ho] at e
  cases e

/-! ## Acts that an operation cannot tell apart -/
def Agree (ops : Array Oper) (o : Oper) (b a : Act) : Prop := ∀ d ∈ o.looksAt ops, b.tmps[d]? = a.tmps[d]?

theorem Agree.refl (o : Oper) (a : Act) : Agree ops o a a := fun _ _ => rfl
theorem Agree.trans {o : Oper} {a b c : Act} (x : Agree ops o a b) (y : Agree ops o b c) : Agree ops o a c := fun d hd => (x d hd).trans (y d hd)
theorem Agree.symm {o : Oper} {a b : Act} (x : Agree ops o a b) : Agree ops o b a := fun d hd => (x d hd).symm

theorem Agree.eval {o : Oper} {b a : Act} (k : Agree ops o b a) : ∀ x ∈ o.op.operands, b.eval x = a.eval x := by
  intro x hx
  cases x with
  | tmp d =>
    have : d ∈ o.looksAt ops := List.mem_append_left _ (List.mem_filterMap.2 ⟨.tmp d, by simpa using hx, rfl⟩)
    simp only [Act.eval, Array.getD_eq_getD_getElem?, k d this]
  | _ => rfl

theorem Agree.wanted {o : Oper} {b a : Act} (k : Agree ops o b a) : Region.wanted o (yielded ops b.tmps) = Region.wanted o (yielded ops a.tmps) := by
  unfold Region.wanted
  cases hg : o.guard with
  | none => rfl
  | some gw =>
    obtain ⟨g, want⟩ := gw
    have hy : yielded ops b.tmps g = yielded ops a.tmps g := by
      unfold yielded
      cases ht : (ops[g]?).bind (·.dst) with
      | none => rfl
      | some d =>
        have : d ∈ o.looksAt ops := by simp [Oper.looksAt, hg, ht]
        simp [k d this]
    simp only [hy]

theorem Agree.of_put {o : Oper} (a : Act) (dst : Option Tmp) (v : Value) (k : ∀ d, dst = some d → d ∉ o.looksAt ops) : Agree ops o (a.put dst v) a := by
  intro d hd
  cases dst with
  | none => rfl
  | some e =>
    have hne : e ≠ d := fun he => k e rfl (he ▸ hd)
    simp [Act.put, Array.getElem?_setIfInBounds_ne hne]

theorem Agree.op {o : Oper} {b a : Act} (k : Agree ops o b a) (hs : ∀ cs b, o.op ≠ .select cs b) : execOp b.eval o = execOp a.eval o := execOp_congr o hs k.eval

/-! ## Operations that read and that another order has not come to yet -/
structure PE where
  i : Nat
  o : Oper
  t : T Value
  v : Value
  pre : Nat
  wants : Bool

def RunsQ (ops : Array Oper) (n : Nat) (q : PE) (m : M) (a : Act) : Prop := ∃ b, TR m q.t n b.tmps ∧ Agree ops q.o b a ∧ Region.wanted q.o (yielded ops b.tmps) = q.wants

theorem RunsQ.mono {q : PE} {m' : M} (hle : M.le m m') : RunsQ ops n q m a → RunsQ ops n q m' a
  | ⟨b, h1, h2, h3⟩ => ⟨b, h1.mono hle, h2, h3⟩

theorem RunsQ.put {q : PE} {dst : Option Tmp} {v : Value} (k : ∀ d, dst = some d → d ∉ q.o.looksAt ops) : RunsQ ops n q m a → RunsQ ops n q m (a.put dst v)
  | ⟨b, h1, h2, h3⟩ => ⟨b, h1, h2.trans (Agree.of_put a dst v k).symm, h3⟩

theorem RunsQ.unput {q : PE} {dst : Option Tmp} {v : Value} (k : ∀ d, dst = some d → d ∉ q.o.looksAt ops) : RunsQ ops n q m (a.put dst v) → RunsQ ops n q m a
  | ⟨b, h1, h2, h3⟩ => ⟨b, h1, h2.trans (Agree.of_put a dst v k), h3⟩

def Lag (ops : Array Oper) (n : Nat) (t : T Value) : List PE → M → Act → Prop
  | [], m, a => TR m t n a.tmps
  | q :: L, m, a => RunsQ ops n q m a ∧ ∀ m' v', M.le m m' → VR m' q.v v' → Lag ops n t L m' (a.put q.o.dst v')

theorem Lag.mono {m' : M} (hle : M.le m m') : ∀ {L : List PE} {a : Act}, Lag ops n t L m a → Lag ops n t L m' a
  | [], _, k => TR.mono hle k
  | _ :: _, _, k => ⟨k.1.mono hle, fun m2 v' hle2 hv => k.2 m2 v' (M.le_trans hle hle2) hv⟩

theorem Lag.snoc {t' : T Value} {r : PE} (hw : wantA t ops r.o.guard = some r.wants) (hrt : r.t = t) (hp : ∀ (m : M) (a : Act) (v' : Value), TR m t n a.tmps → VR m r.v v' → TR m t' n (a.put r.o.dst v').tmps) :
    ∀ {L : List PE} {m : M} {a : Act}, Lag ops n t L m a → Lag ops n t' (L ++ [r]) m a
  | [], m, a, k => ⟨⟨a, by rw [hrt]; exact k, Agree.refl _ _, want_rel k hw⟩, fun m' v' hle hv => hp m' a v' (TR.mono hle k) hv⟩
  | _ :: _, _, _, k => ⟨k.1, fun m' v' hle hv => Lag.snoc hw hrt hp (k.2 m' v' hle hv)⟩

theorem Lag.out {p : PE} {L2 : List PE} {v' : Value} : ∀ {L1 : List PE} {m : M} {a : Act}, (∀ q ∈ L1, p.o.apart ops q.o = true) → Lag ops n t (L1 ++ p :: L2) m a → VR m p.v v' → Lag ops n t (L1 ++ L2) m (a.put p.o.dst v')
  | [], m, a, _, k, hv => k.2 m v' (M.le_refl m) hv
  | q :: L1, m, a, hap, k, hv => by
    obtain ⟨h1, h2, h3⟩ := Oper.apart_spec (hap q (by simp))
    refine ⟨k.1.put h1, fun m' v'' hle hv' => ?_⟩
    rw [Act.put_comm a v' v'' h2]
    exact Lag.out (fun q' hq' => hap q' (by simp [hq'])) (k.2 m' v'' hle hv') (hv.mono hle)

theorem Lag.wr {t' : T Value} {o : Oper} {v v' : Value} (hp : ∀ (m : M) (a : Act) (v' : Value), TR m t n a.tmps → VR m v v' → TR m t' n (a.put o.dst v').tmps) : ∀ {L : List PE} {m : M} {a : Act}, (∀ q ∈ L, o.apart ops q.o = true) →
    Lag ops n t L m a → VR m v v' → Lag ops n t' L m (a.put o.dst v')
  | [], m, a, _, k, hv => hp m a v' k hv
  | q :: L1, m, a, hap, k, hv => by
    obtain ⟨h1, h2, h3⟩ := Oper.apart_spec (hap q (by simp))
    refine ⟨k.1.put h1, fun m' v'' hle hv' => ?_⟩
    rw [Act.put_comm a v' v'' h2]
    exact Lag.wr hp (fun q' hq' => hap q' (by simp [hq'])) (k.2 m' v'' hle hv') (hv.mono hle)

theorem Lag.reach {o : Oper} : ∀ {L : List PE} {m : M} {a : Act}, (∀ q ∈ L, o.apart ops q.o = true) → (∀ q ∈ L, ∀ b : Act, TR m q.t n b.tmps → ∃ v', VR m q.v v') →
    Lag ops n t L m a → ∃ c, TR m t n c.tmps ∧ Agree ops o c a
  | [], m, a, _, _, k => ⟨a, k, Agree.refl _ _⟩
  | q :: L1, m, a, hap, hval, k => by
    obtain ⟨h1, h2, h3⟩ := Oper.apart_spec (hap q (by simp))
    obtain ⟨⟨b, hb, _⟩, k2⟩ := k
    obtain ⟨v', hv⟩ := hval q (by simp) b hb
    obtain ⟨c, hc, hag⟩ := Lag.reach (fun q' hq' => hap q' (by simp [hq'])) (fun q' hq' => hval q' (by simp [hq'])) (k2 m v' (M.le_refl m) hv)
    exact ⟨c, hc, hag.trans (Agree.of_put a _ _ h3)⟩

theorem Lag.at {p : PE} {L2 : List PE} : ∀ {L1 : List PE} {m : M} {a : Act}, (∀ q ∈ L1, p.o.apart ops q.o = true) → (∀ q ∈ L1, ∀ b : Act, TR m q.t n b.tmps → ∃ v', VR m q.v v') →
    Lag ops n t (L1 ++ p :: L2) m a → RunsQ ops n p m a
  | [], m, a, _, _, k => k.1
  | q :: L1, m, a, hap, hval, k => by
    obtain ⟨h1, h2, h3⟩ := Oper.apart_spec (hap q (by simp))
    obtain ⟨⟨b, hb, _⟩, k2⟩ := k
    obtain ⟨v', hv⟩ := hval q (by simp) b hb
    exact (Lag.at (fun q' hq' => hap q' (by simp [hq'])) (fun q' hq' => hval q' (by simp [hq'])) (k2 m v' (M.le_refl m) hv)).unput h3

/-! ## A write, from an act that it cannot tell from another -/
theorem awrite_wp2 {call : CallT} (hcall : CallSound P call) (hW : WR P m w0 h w) {c : Act} (hT : TR m t n c.tmps) {o : Oper} (hag : Agree ops o c a) {K : KV} (e : awrite P call t h o K = true) {next : Act → World → Prop} {Q : Exit → Act → World → Prop}
    (hn : ∀ m' v v' h' w', M.le m m' → VR m' v v' → WR P m' w0 h' w' → K v h' = true → next (a.put o.dst v') w') : o.wpIn (FW rd) nn P a w next Q := by
  by_cases hc : ∃ c f, o.op = .call c ∧ c.callee = .value f
  · obtain ⟨c2, f, ho, hcf⟩ := hc
    refine call_wp ho hcf fun nn => ?_
    unfold awrite at e
    rw [ho] at e
    simp only [wCall, hcf] at e
    have := hcall m w0 w h _ _ _ _ K hW (ev_rel (P := P) hT hW.glob f) (evL_rel (P := P) hT hW.glob c2.args.toList) e rd nn _ hn
    have hargs : (List.map c.eval c2.args.toList).toArray = c2.args.map a.eval := by
      apply Array.toList_inj.1
      simp only [Array.toList_map]
      exact List.map_congr_left fun x hx => hag.eval x (by rw [ho]; simp [Op.operands, Call.operands]; exact .inr (by simpa using hx))
    have hf : c.eval f = a.eval f := hag.eval f (by rw [ho]; simp [Op.operands, Call.operands, hcf])
    rw [hargs, hf] at this
    exact this
  · refine ran_wp ?_ (not_defer_write e) hn
    rw [← hag.op (not_select_write e)]
    exact awrite_ran hW hT e fun c f ho hcf => hc ⟨c, f, ho, hcf⟩

end
end Go.Ev
