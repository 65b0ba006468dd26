/- Operations in their place: temporaries, guards, plain regions. -/
import Derived.Test.YtlneoecgbbbahacGreatDoorEv13
namespace Go.Ev
open Go.RowKit

/-- The fence that lets all in. -/
def FW (rd : Option Nat) : Fence := { fn := fun _ => True, depth := none, alive := false, round := rd }

section
variable {P : Program} {m : M} {w0 w : World} {h : AHeap} {t : T Value} {n : Nat} {a : Act} {rd : Option Nat} {nn : Nat}

/-! ## Temporaries -/
theorem tget_set (f : Nat) (t : T Value) (d : Nat) (v : Value) (hd : d < f) (i : Nat) : tget (T.set f t d v) i = if i = d then v else tget t i := by
  unfold tget
  rw [T.get_set _ _ _ _ _ hd]
  by_cases h : i = d <;> simp [h]

theorem getD_set (a : Array Value) (d : Nat) (v : Value) (hd : d < a.size) (i : Nat) : (a.setIfInBounds d v).getD i undef = if i = d then v else a.getD i undef := by
  rw [Array.getD_eq_getD_getElem?, Array.getD_eq_getD_getElem?, Array.getElem?_setIfInBounds]
  by_cases h : i = d
  · subst h; simp [hd]
  · rw [if_neg (fun e => h e.symm), if_neg h]

theorem TR.set {tm : Array Value} (hT : TR m t n tm) {d : Nat} (hd : d < n) {v v' : Value} (hv : VR m v v') : TR m (T.set (d + 1) t d v) n (tm.setIfInBounds d v') := by
  refine ⟨by simpa using hT.1, fun i => ?_⟩
  rw [tget_set _ _ _ _ (Nat.lt_succ_self _), getD_set _ _ _ (by rw [hT.1]; exact hd)]
  split
  · exact hv
  · exact hT.2 i

theorem putK_rel {dst : Option Tmp} {v : Value} {K : T Value → Bool} (e : putK t n dst v K = true) :
    ∃ t', K t' = true ∧ ∀ (m : M) (a : Act) (v' : Value), TR m t n a.tmps → VR m v v' → TR m t' n (a.put dst v').tmps := by
  unfold putK at e
  split at e
  · exact ⟨t, e, fun m a v' hT _ => hT⟩
  · rename_i d
    cases hd : Nat.blt d n with
    | false => rw [hd] at e; cases e
    | true =>
      rw [hd, cond_true, fV1_eq, T.setK_eq] at e
      exact ⟨_, e, fun m a v' hT hv => hT.set (by simpa [Nat.blt_eq] using hd) hv⟩

theorem put_defers (dst : Option Tmp) (v : Value) : (a.put dst v).defers = a.defers := by cases dst <;> rfl

theorem want_rel (hT : TR m t n a.tmps) {ops : Array Oper} {o : Oper} {b : Bool} (e : wantA t ops o.guard = some b) : Region.wanted o (yielded ops a.tmps) = b := by
  unfold wantA at e
  unfold Region.wanted
  split at e
  · rename_i hg
    rw [hg]
    cases e
    rfl
  · rename_i j want hg
    rw [hg]
    simp only
    split at e
    · rename_i oj hoj
      split at e
      · rename_i d hd
        have hr := hT.2 d
        have hy : yielded ops a.tmps j = match a.tmps[d]? with | some (.bool b) => some b | _ => none := by
          unfold yielded
          rw [hoj]
          simp only [Option.bind_some, hd]
          cases a.tmps[d]? with
          | none => rfl
          | some u => cases u <;> rfl
        have hgd : a.tmps.getD d undef = (a.tmps[d]?).getD undef := Array.getD_eq_getD_getElem? ..
        rw [hy]
        split at e
        · rename_i b0 ht
          cases e
          have : tget t d = .bool b0 := by unfold tget; rw [ht]
          rw [this, hgd] at hr
          cases hq : a.tmps[d]? with
          | none => rw [hq] at hr; cases hr
          | some u =>
            rw [hq] at hr
            simp only [Option.getD_some] at hr
            cases hr
            cases b0 <;> cases want <;> rfl
        · rename_i cs ht
          cases hc : Nat.beq cs.size 0 with
          | false => rw [hc] at e; cases e
          | true =>
            rw [hc, cond_true] at e
            cases e
            have : tget t d = .tuple cs := by unfold tget; rw [ht]
            rw [this, hgd] at hr
            cases hq : a.tmps[d]? with
            | none => rfl
            | some u =>
              rw [hq] at hr
              simp only [Option.getD_some] at hr
              cases hr
              rfl
        · rename_i ht
          cases e
          have : tget t d = undef := by unfold tget; rw [ht]
          rw [this, hgd] at hr
          cases hq : a.tmps[d]? with
          | none => rfl
          | some u =>
            rw [hq] at hr
            simp only [Option.getD_some, undef] at hr
            cases hr
            rfl
        · cases e
      · cases e
    · cases e

/-! ## Operations -/
theorem not_defer_read {o : Oper} {v : Value} (e : aread P t h o = some v) : ∀ c, o.op ≠ .defer c := by
  intro c ho
  unfold aread at e
  rw [ho] at e
  cases e

theorem not_defer_write {o : Oper} {call : CallT} {K : KV} (e : awrite P call t h o K = true) : ∀ c, o.op ≠ .defer c := by
  intro c ho
  unfold awrite at e
  rw [ho] at e
  cases e

theorem read_wp {o : Oper} {v' : Value} {next : Act → World → Prop} {Q : Exit → Act → World → Prop} (hr : (execOp a.eval o).run P w = .ok (.value v') w) (hd : ∀ c, o.op ≠ .defer c)
    (hn : next (a.put o.dst v') w) : o.wpIn (FW rd) nn P a w next Q := by
  refine ⟨fun f _ => trivial, ?_⟩
  rw [Oper.semAt_eq _ _ _ hd, hr]
  exact hn

theorem ran_wp {o : Oper} {K : KV} {next : Act → World → Prop} {Q : Exit → Act → World → Prop} (hr : Ran P m w0 w K (execOp a.eval o)) (hd : ∀ c, o.op ≠ .defer c)
    (hn : ∀ m' v v' h' w', M.le m m' → VR m' v v' → WR P m' w0 h' w' → K v h' = true → next (a.put o.dst v') w') : o.wpIn (FW rd) nn P a w next Q := by
  obtain ⟨r, v, v', w', m', h', k1, k2, k3, k4, k5, k6⟩ := hr
  refine ⟨fun f _ => trivial, ?_⟩
  rw [Oper.semAt_eq _ _ _ hd, k1]
  rcases k2 with rfl | ⟨rfl, rfl⟩
  · exact hn _ _ _ _ _ k3 k4 k5 k6
  · exact hn _ _ _ _ _ k3 k4 k5 k6

/-- What becomes of a call. -/
def UponR (rd : Option Nat) (nn : Nat) (P : Program) (R : Value → World → Prop) : Result Next → Prop
  | .ok (.value v) w => R v w
  | .ok (.enter f args) w => CallsIn (FW rd) nn P f args w fun | .returned v, w' => R v w' | _, _ => False
  | .ok (.round l f tmps as bo) w => RoundIn (FW rd) nn P l f tmps as bo w fun | .returned v, w' => R v w' | _, _ => False
  | _ => False

/-- How function values are called: what the evaluator says is so. -/
def CallSound (P : Program) (call : CallT) : Prop :=
  ∀ (m : M) (w0 w : World) (h : AHeap) (fv fv' : Value) (args args' : List Value) (K : KV), WR P m w0 h w → VR m fv fv' → LR m args args' → call fv args h K = true →
    ∀ (rd : Option Nat) (nn : Nat) (R : Value → World → Prop), (∀ m' v v' h' w', M.le m m' → VR m' v v' → WR P m' w0 h' w' → K v h' = true → R v' w') →
      UponR rd nn P R ((do let d ← Deferred.ofValue fv' args'.toArray; invoke d.target d.args : Sem Next).run P w)

theorem call_wp {o : Oper} {c : Call} {f : Operand} {next : Act → World → Prop} {Q : Exit → Act → World → Prop} (ho : o.op = .call c) (hc : c.callee = .value f)
    (hu : ∀ nn, UponR rd nn P (fun v' w' => next (a.put o.dst v') w') ((do let d ← Deferred.ofValue (a.eval f) (c.args.map a.eval); invoke d.target d.args : Sem Next).run P w)) : o.wpIn (FW rd) nn P a w next Q := by
  refine ⟨fun f _ => trivial, ?_⟩
  rw [Oper.semAt_eq _ _ _ (fun c' h' => by rw [ho] at h'; cases h')]
  have he : execOp a.eval o = (do let d ← Deferred.ofValue (a.eval f) (c.args.map a.eval); invoke d.target d.args) := by
    simp only [execOp, ho, resolve, hc]
  rw [he]
  have h2 := hu (nn - 1)
  generalize (do let d ← Deferred.ofValue (a.eval f) (c.args.map a.eval); invoke d.target d.args : Sem Next).run P w = r at h2
  cases r with
  | halt x w' => exact h2.elim
  | ok x w' =>
    cases x with
    | value v => exact h2
    | enter g args =>
      refine ⟨fun hd => (by cases hd), CallsIn.mono h2 ?_⟩
      intro e w2 he2
      cases e with
      | returned v => exact he2
      | panicked _ => exact he2.elim
      | outgrown => exact he2.elim
    | round l g tmps as bo =>
      refine ⟨fun hd => (by cases hd), RoundIn.mono h2 ?_⟩
      intro e w2 he2
      cases e with
      | returned v => exact he2
      | panicked _ => exact he2.elim
      | outgrown => exact he2.elim
    | _ => exact h2.elim

/-- All operations that write. -/
theorem awrite_wp {call : CallT} (hcall : CallSound P call) (hW : WR P m w0 h w) (hT : TR m t n a.tmps) {o : Oper} {K : KV} (e : awrite P call t h o K = true) {next : Act → World → Prop} {Q : Exit → Act → World → Prop}
    (hn : ∀ m' v v' h' w', M.le m m' → VR m' v v' → WR P m' w0 h' w' → K v h' = true → next (a.put o.dst v') w') : o.wpIn (FW rd) nn P a w next Q := by
  by_cases hc : ∃ c f, o.op = .call c ∧ c.callee = .value f
  · obtain ⟨c, f, ho, hcf⟩ := hc
    refine call_wp ho hcf fun nn => ?_
    unfold awrite at e
    rw [ho] at e
    simp only [wCall, hcf] at e
    have := hcall m w0 w h _ _ _ _ K hW (ev_rel (P := P) hT hW.glob f) (evL_rel (P := P) hT hW.glob c.args.toList) e rd nn _ hn
    have hargs : (List.map a.eval c.args.toList).toArray = c.args.map a.eval := by
      apply Array.toList_inj.1
      simp
    rw [hargs] at this
    exact this
  · exact ran_wp (awrite_ran hW hT e fun c f ho hcf => hc ⟨c, f, ho, hcf⟩) (not_defer_write e) hn

/-! ## A region in the order of its text -/
theorem runOps_wp {call : CallT} (hcall : CallSound P call) {ops : Array Oper} {Q : Exit → Act → World → Prop} {K : T Value → AHeap → Bool} {w0 : World} {n : Nat} (ds : List Deferred) :
    ∀ (rest : List Oper) (k : Nat), (∀ j, rest[j]? = ops[k + j]?) → ∀ (m : M) (t : T Value) (h : AHeap) (a : Act) (w : World), WR P m w0 h w → TR m t n a.tmps → a.defers = ds → runOps P call ops n rest t h K = true →
      (∀ m' t' h' a' w', M.le m m' → TR m' t' n a'.tmps → WR P m' w0 h' w' → a'.defers = ds → K t' h' = true → Q .normal a' w') → wpOpsIn (FW rd) nn P ops Q (List.range' k rest.length) a w := by
  intro rest
  induction rest with
  | nil =>
    intro k _ m t h a w hW hT hd e hq
    exact hq m t h a w (M.le_refl m) hT hW hd (by simpa [runOps] using e)
  | cons o rest ih =>
    intro k hk m t h a w hW hT hd e hq
    have h0 : ops[k]? = some o := by simpa using (hk 0).symm
    have hk' : ∀ j, rest[j]? = ops[k + 1 + j]? := fun j => by have := hk (j + 1); simpa [Nat.add_assoc, Nat.add_comm 1 j] using this
    simp only [List.length_cons, List.range'_succ, wpOpsIn, h0]
    simp only [runOps] at e
    split at e
    · cases e
    · rename_i hwant
      rw [want_rel hT hwant]
      simp only [Bool.false_eq_true, if_false]
      obtain ⟨t', e', hp⟩ := putK_rel e
      refine ⟨fun f _ => trivial, ih (k + 1) hk' m t' h _ w hW (hp m a undef hT (undef_rel m)) (by rw [put_defers]; exact hd) e' hq⟩
    · rename_i hwant
      rw [want_rel hT hwant]
      simp only [if_true]
      cases hisw : isW P o.op with
      | true =>
        rw [hisw, cond_true] at e
        refine awrite_wp hcall hW hT e fun m' v v' h' w' hle hv hW' hK => ?_
        obtain ⟨t', e', hp⟩ := putK_rel hK
        exact ih (k + 1) hk' m' t' h' _ w' hW' (hp m' a v' (hT.mono hle) hv) (by rw [put_defers]; exact hd) e' (fun m2 t2 h2 a2 w2 hle2 => hq m2 t2 h2 a2 w2 (M.le_trans hle hle2))
      | false =>
        rw [hisw, cond_false] at e
        split at e
        · cases e
        · rename_i v hrd
          obtain ⟨v', hrun, hv⟩ := aread_rel hW hT hrd
          refine read_wp hrun (not_defer_read hrd) ?_
          obtain ⟨t', e', hp⟩ := putK_rel e
          exact ih (k + 1) hk' m t' h _ w hW (hp m a v' hT hv) (by rw [put_defers]; exact hd) e' hq

end
end Go.Ev
