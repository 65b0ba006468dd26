/- Code: what the evaluator says is so. -/
import Derived.Test.YtlneoecgbbbahacGreatDoorEv16
namespace Go.Ev
open Go.RowKit

section
variable {P : Program} {m : M} {w0 w : World} {h : AHeap} {t : T Value} {n : Nat} {a : Act} {rd : Option Nat} {nn : Nat}

theorem run_ofValue (fn : Fn) (first captured args : Array Value) (w : World) :
    (do let d ← Deferred.ofValue (.func fn first captured) args; invoke d.target d.args : Sem Next).run P w = (invoke (.fn fn captured) (first ++ args)).run P w := by
  simp [Deferred.ofValue]

theorem callVal_sound {ex : ExT} (hs : Sound P ex) : CallSound P (callVal P ex) := by
  intro m w0 w h fv fv' args args' K hW hf hargs e rd nn R hR
  unfold callVal at e
  split at e
  · rename_i g first captured
    cases hf with
    | @func _ _ first' _ captured' hf1 hf2 =>
      rw [run_ofValue]
      have hall : LR m (first.toList ++ args ++ captured.toList) (first'.toList ++ args' ++ captured'.toList) := (hf1.append hargs).append hf2
      have harr : (first' ++ args'.toArray ++ captured') = (first'.toList ++ args' ++ captured'.toList).toArray := by
        apply Array.toList_inj.1
        simp
      have hinv : ∀ w, (invoke (.fn (.func g) captured') (first' ++ args'.toArray)).run P w = (callFunc g (first'.toList ++ args' ++ captured'.toList).toArray).run P w := fun w => by
        simp only [invoke, harr]
      rw [hinv]
      unfold callFunc1 at e
      split at e
      · cases e
      · rename_i fn hfn
        split at e
        · rename_i c hb
          obtain ⟨k1, k2⟩ := callBody_sound (rd := rd) (nn := nn) hs hfn hb hW hall e hR
          rw [k1]
          exact k2
        · cases hp : plainL (first.toList ++ args ++ captured.toList) with
          | false => rw [hp] at e; cases e
          | true =>
            rw [hp, cond_true] at e
            have heq := plainL_eq _ _ hp hall
            rw [← heq]
            split at e
            · rename_i v hv
              cases hpv : plainB v with
              | false => rw [hpv] at e; cases e
              | true =>
                rw [hpv, cond_true] at e
                have hrun := pureOf_run (P := P) _ _ w hv
                have : (callFunc g (first.toList ++ args ++ captured.toList).toArray).run P w = .ok (.value v) w := hrun
                rw [this]
                exact hR m v v h w (M.le_refl m) (plain_rel m v hpv) hW e
            · cases e
  · rename_i l first captured
    cases hf with
    | @yield _ L d _ first' _ captured' hl hf1 hf2 =>
      rw [run_ofValue]
      have harr : (first' ++ args'.toArray) = (first'.toList ++ args').toArray := by
        apply Array.toList_inj.1
        simp
      have hinv : (invoke (.fn (.yield L) captured') (first' ++ args'.toArray)).run P w = (Instr.yield L (first'.toList ++ args').toArray).run P w := by
        simp only [invoke, harr]
      rw [hinv]
      exact roundK_sound hs hW hl (hf1.append hargs) e hR
  · cases e

/-! ## A range over a function -/
def afterEnd (ex : ExT) (n : Nat) (rd : Option Nat) (t : T Value) (ds : List Nat) (K : KT) (pe : Option Code) (h : AHeap) : Bool :=
  match pe with
  | none => K .normal t h ds
  | some c => ex n rd c t h ds K

theorem after_rel {ex : ExT} (hs : Sound P ex) (hW : WR P m w0 h w) (hT : TR m t n a.tmps) {ds : List Nat} (hD : DR m ds a.defers) {rdA rdc : Option Nat} (hrd : RdR m rdA rdc) {l L d : Nat} (hm : m l = some (L, d)) {K : KT}
    (e : after ex n rdA t ds K l h = true) {Q : Exit → Act → World → Prop}
    (hQ : ∀ e m' t' h' ds' a' w', M.le m m' → WR P m' w0 h' w' → TR m' t' n a'.tmps → DR m' ds' a'.defers → K e t' h' ds' = true → Q e a' w') :
    ∃ jump w₄, (Instr.endLoop L).run P w = .ok jump w₄ ∧ (match jump with | none => Q .normal a w₄ | some c => c.wpIn (FW rdc) nn P Q a w₄) := by
  unfold after at e
  split at e
  · rename_i st pe _ _ _ _ _ _ hg
    obtain ⟨B, d', g1, g2, _⟩ := hW.obj l _ hg
    rw [hm] at g1
    cases g1
    obtain ⟨r, r1, r2, r3, _⟩ := g2
    have hlt : L < w.heap.size := hW.dom _ _ _ hm
    have hst : st ≠ .busy := fun hb => by subst hb; cases e
    have hrun : (Instr.endLoop L).run P w = .ok pe { w with heap := w.heap.setIfInBounds L (.loop { r with state := .exhausted }) } := by
      have hb : r.state ≠ LoopState.busy := by rw [r2]; exact hst
      simp [Instr.endLoop, Instr.getLoop, getObj, setObj, Sem.run, r1, hb, r3]
    refine ⟨pe, _, hrun, ?_⟩
    have e2 : setO h l .gone (afterEnd ex n rdA t ds K pe) = true := by
      cases st with
      | busy => exact absurd rfl hst
      | _ => exact e
    obtain ⟨h', k1, k2⟩ := setO_rel hW e2 hg hm rfl rfl rfl (.loop { r with state := .exhausted }) ⟨{ r with state := .exhausted }, by simp [hlt]⟩
    cases pe with
    | none => exact hQ .normal m t h' ds a _ (M.le_refl m) k1 hT hD k2
    | some c => exact (hs n rdA c t h' ds K k2 m w0 _ a rdc nn Q k1 hT hD hrd hQ).1
  · cases e

theorem callGo_sound {ex : ExT} (hs : Sound P ex) (hW : WR P m w0 h w) {fv fv' : Value} {args args' : List Value} {K : KV} (hf : VR m fv fv') (hargs : LR m args args') (e : callGo P ex fv args h K = true)
    {R : Value → World → Prop} (hR : ∀ m' v v' h' w', M.le m m' → VR m' v v' → WR P m' w0 h' w' → K v h' = true → R v' w') :
    ∃ fn first captured g argsC, fv' = .func fn first captured ∧ (∀ w, (invoke (.fn fn captured) (first ++ args'.toArray)).run P w = .ok (.enter g argsC) w) ∧ CallsIn (FW rd) nn P g argsC w fun | .returned v, w' => R v w' | _, _ => False := by
  unfold callGo at e
  split at e
  · rename_i g first captured
    cases hf with
    | @func _ _ first' _ captured' hf1 hf2 =>
      have hall : LR m (first.toList ++ args ++ captured.toList) (first'.toList ++ args' ++ captured'.toList) := (hf1.append hargs).append hf2
      have harr : (first' ++ args'.toArray ++ captured') = (first'.toList ++ args' ++ captured'.toList).toArray := by
        apply Array.toList_inj.1
        simp
      split at e
      · cases e
      · rename_i fn hfn
        split at e
        · rename_i c hb
          obtain ⟨k1, k2⟩ := callBody_sound (rd := rd) (nn := nn) hs hfn hb hW hall e hR
          exact ⟨_, first', captured', g, _, rfl, fun w => by simp only [invoke, harr]; exact k1 w, k2⟩
        · cases e
  · cases e

theorem rangeGo {ex : ExT} (hs : Sound P ex) {f : Operand} {ps : Array Tmp} {as bo : Code} {rdA rdc : Option Nat} {Q : Exit → Act → World → Prop} (hT0 : TR m t n a.tmps) {mark : List Deferred} {L : Nat} {w₁ : World}
    (fnE : FuncId) (_henter : (Instr.enterLoop fnE a.tmps ps as bo rdc).run P w = .ok (L, mark) w₁)
    {m1 : M} {h1 : AHeap} {l : Nat} (hle : M.le m m1) (hW1 : WR P m1 w0 h1 w₁) (hl : m1 l = some (L, 0)) {ds : List Nat} (hD : DR m1 ds (mark ++ a.defers)) (hrd : RdR m1 rdA rdc) {K : KT}
    (e : callGo P ex (ev P t f) [.func (.yield l) #[] #[]] h1 (fun _ h => after ex n rdA t ds K l h) = true)
    (hQ : ∀ e m' t' h' ds' a' w', M.le m m' → WR P m' w0 h' w' → TR m' t' n a'.tmps → DR m' ds' a'.defers → K e t' h' ds' = true → Q e a' w') :
    ∃ (d : Deferred) (w₁' : World) (g : FuncId) (args : Array Value) (w₂ : World), (resolve a.eval (rangeCall f L) 0).run P w₁ = .ok d w₁' ∧ (∀ f', Target.leads P w₁' d.target d.args = some f' → (FW rdc).fn f') ∧
      (invoke d.target d.args).run P w₁' = .ok (.enter g args) w₂ ∧ ((FW rdc).depth.isSome = true → 1 ≤ nn) ∧ CallsIn (FW rdc) (nn - 1) P g args w₂ (rangePost (FW rdc) nn P L Q { a with defers := mark ++ a.defers }) := by
  have hT1 := hT0.mono hle
  have hf := ev_rel (P := P) hT1 hW1.glob f
  have hargs : LR m1 [Value.func (.yield l) #[] #[]] [Value.func (.yield L) #[] #[]] := .cons (.yield hl .nil .nil) .nil
  obtain ⟨fn, first, captured, g, argsC, k1, k2, k3⟩ := callGo_sound (rd := rdc) (nn := nn - 1) hs hW1 hf hargs e
    (R := fun _ w' => ∃ jump w₄, (Instr.endLoop L).run P w' = .ok jump w₄ ∧ (match jump with | none => Q .normal { a with defers := mark ++ a.defers } w₄ | some c => c.wpIn (FW rdc) nn P Q { a with defers := mark ++ a.defers } w₄))
    (fun m' v v' h' w' hle' hv hW' hK => after_rel (a := { a with defers := mark ++ a.defers }) hs hW' (hT1.mono hle') (hD.mono hle') (hrd.mono hle') (hle'.1 _ _ hl) hK
      (fun e m2 t2 h2 ds2 a2 w2 hle2 => hQ e m2 t2 h2 ds2 a2 w2 (M.le_trans hle (M.le_trans hle' hle2))))
  refine ⟨{ target := .fn fn captured, args := first ++ #[.func (.yield L) #[] #[]] }, w₁, g, argsC, w₁, ?_, fun _ _ => trivial, k2 w₁, fun hd => (by cases hd), CallsIn.mono k3 ?_⟩
  · have k1' : a.eval (rangeCall f L |>.callee |> fun | .value x => x | _ => f) = .func fn first captured := k1
    simp only [rangeCall] at k1' ⊢
    simp only [resolve]
    rw [show a.eval f = _ from k1]
    simp [Deferred.ofValue, Act.eval]
  · intro e w' he
    cases e with
    | returned v => exact he
    | panicked _ => exact he.elim
    | outgrown => exact he.elim

theorem region_wp (hds : DrawSound P) {call : CallT} (hcall : CallSound P call) (hW : WR P m w0 h w) (hT : TR m t n a.tmps) {id : Nat} {ops : Array Oper} {draw : Bool} {K : T Value → AHeap → Bool} (e : runRegion P call ops draw n t h K = true)
    {Q : Exit → Act → World → Prop} (hq : ∀ m' t' h' a' w', M.le m m' → TR m' t' n a'.tmps → WR P m' w0 h' w' → a'.defers = a.defers → K t' h' = true → Q .normal a' w') : (Code.region id ops draw).wpIn (FW rd) nn P Q a w := by
  cases draw with
  | false =>
    refine wpIn_region ?_
    rw [List.range_eq_range', ← Array.length_toList]
    simp only [runRegion, cond_false] at e
    exact runOps_wp hcall a.defers ops.toList 0 (by simp) m t h a w hW hT rfl e hq
  | true =>
    refine wpIn_region_draw fun tt => ?_
    exact hds call hcall ops n t h K m w0 w.drew a rd nn Q hW.drew hT e hq tt

theorem execStep_sound {ex : ExT} (hds : DrawSound P) (hs : Sound P ex) : Sound P (execStep P ex) := by
  intro n rd c t h ds K e m w0 w a rdc nn Q hW hT hD hrd hQ
  have hcall := callVal_sound hs
  have hx := fun x => ev_rel (P := P) hT hW.glob x
  unfold execStep at e
  split at e
  · exact ⟨wpIn_skip (hQ _ m t h ds a w (M.le_refl m) hW hT hD e), fun b hb => by cases hb⟩
  · refine ⟨region_wp hds hcall hW hT e fun m' t' h' a' w' hle hT' hW' hd hK => ?_, fun b hb => by cases hb⟩
    exact hQ .normal m' t' h' ds a' w' hle hW' hT' (by rw [hd]; exact hD.mono hle) hK
  · rename_i x y
    refine ⟨wpIn_seq ?_, fun b hb => by cases hb⟩
    refine (hs n rd x t h ds _ e m w0 w a rdc nn _ hW hT hD hrd ?_).1
    intro e' m' t' h' ds' a' w' hle hW' hT' hD' hK
    have hQ' : ∀ e2 m2 t2 h2 ds2 a2 w2, M.le m' m2 → WR P m2 w0 h2 w2 → TR m2 t2 n a2.tmps → DR m2 ds2 a2.defers → K e2 t2 h2 ds2 = true → Q e2 a2 w2 := fun e2 m2 t2 h2 ds2 a2 w2 hle2 => hQ e2 m2 t2 h2 ds2 a2 w2 (M.le_trans hle hle2)
    cases e' with
    | normal => exact (hs n rd y t' h' ds' K hK m' w0 w' a' rdc nn Q hW' hT' hD' (hrd.mono hle) hQ').1
    | exit id => exact hQ _ m' t' h' ds' a' w' hle hW' hT' hD' hK
    | goto l => exact hQ _ m' t' h' ds' a' w' hle hW' hT' hD' hK
    | ret => exact hQ _ m' t' h' ds' a' w' hle hW' hT' hD' hK
    | panic ch => exact hQ _ m' t' h' ds' a' w' hle hW' hT' hD' hK
    | outgrown => exact hQ _ m' t' h' ds' a' w' hle hW' hT' hD' hK
  · rename_i x c1 c2
    have hr := hx x
    split at e
    · rename_i hev
      rw [hev] at hr
      generalize hx' : a.eval x = x' at hr
      cases hr
      exact ⟨wpIn_cond_true hx' (hs n rd c1 t h ds K e m w0 w a rdc nn Q hW hT hD hrd hQ).1, fun b hb => by cases hb⟩
    · rename_i hev
      rw [hev] at hr
      generalize hx' : a.eval x = x' at hr
      cases hr
      exact ⟨wpIn_cond_false hx' (hs n rd c2 t h ds K e m w0 w a rdc nn Q hW hT hD hrd hQ).1, fun b hb => by cases hb⟩
    · cases e
  · rename_i id b
    refine ⟨wpIn_block ?_, fun b hb => by cases hb⟩
    refine (hs n rd b t h ds _ e m w0 w a rdc nn _ hW hT hD hrd ?_).1
    intro e' m' t' h' ds' a' w' hle hW' hT' hD' hK
    cases e' with
    | exit id' =>
      simp only at hK
      simp only [Exit.inBlock]
      cases hid : Nat.beq id' id with
      | true =>
        rw [hid, cond_true] at hK
        rw [if_pos (Nat.eq_of_beq_eq_true hid)]
        exact hQ _ m' t' h' ds' a' w' hle hW' hT' hD' hK
      | false =>
        rw [hid, cond_false] at hK
        rw [if_neg (Nat.ne_of_beq_eq_false hid)]
        exact hQ _ m' t' h' ds' a' w' hle hW' hT' hD' hK
    | normal => exact hQ _ m' t' h' ds' a' w' hle hW' hT' hD' hK
    | goto l => exact hQ _ m' t' h' ds' a' w' hle hW' hT' hD' hK
    | ret => exact hQ _ m' t' h' ds' a' w' hle hW' hT' hD' hK
    | panic ch => exact hQ _ m' t' h' ds' a' w' hle hW' hT' hD' hK
    | outgrown => exact hQ _ m' t' h' ds' a' w' hle hW' hT' hD' hK
  · rename_i b
    have hloop : LoopWp (FW rdc) nn P b Q a w := by
      refine loopWp_step ?_
      refine (hs n rd b t h ds _ e m w0 w a rdc nn _ hW hT hD hrd ?_).1
      intro e' m' t' h' ds' a' w' hle hW' hT' hD' hK
      have hQ' : ∀ e2 m2 t2 h2 ds2 a2 w2, M.le m' m2 → WR P m2 w0 h2 w2 → TR m2 t2 n a2.tmps → DR m2 ds2 a2.defers → K e2 t2 h2 ds2 = true → Q e2 a2 w2 := fun e2 m2 t2 h2 ds2 a2 w2 hle2 => hQ e2 m2 t2 h2 ds2 a2 w2 (M.le_trans hle hle2)
      cases e' with
      | normal => exact (hs n rd (.loop b) t' h' ds' K hK m' w0 w' a' rdc nn Q hW' hT' hD' (hrd.mono hle) hQ').2 b rfl
      | exit id => exact hQ _ m' t' h' ds' a' w' hle hW' hT' hD' hK
      | goto l => exact hQ _ m' t' h' ds' a' w' hle hW' hT' hD' hK
      | ret => exact hQ _ m' t' h' ds' a' w' hle hW' hT' hD' hK
      | panic ch => exact hQ _ m' t' h' ds' a' w' hle hW' hT' hD' hK
      | outgrown => exact hQ _ m' t' h' ds' a' w' hle hW' hT' hD' hK
    exact ⟨wpIn_of_loopWp hloop, fun b' hb => by cases hb; exact hloop⟩
  · exact ⟨wpIn_exit (hQ _ m t h ds a w (M.le_refl m) hW hT hD e), fun b hb => by cases hb⟩
  · exact ⟨wpIn_ret (hQ _ m t h ds a w (M.le_refl m) hW hT hD e), fun b hb => by cases hb⟩
  · exact ⟨wpIn_label (hQ _ m t h ds a w (M.le_refl m) hW hT hD e), fun b hb => by cases hb⟩
  · rename_i b
    refine ⟨wpIn_scope ?_, fun b hb => by cases hb⟩
    refine (hs n rd b t h ds _ e m w0 w a rdc nn _ hW hT hD hrd ?_).1
    intro e' m' t' h' ds' a' w' hle hW' hT' hD' hK
    cases e' with
    | goto l => cases hK
    | exit id' => exact hQ _ m' t' h' ds' a' w' hle hW' hT' hD' hK
    | normal => exact hQ _ m' t' h' ds' a' w' hle hW' hT' hD' hK
    | ret => exact hQ _ m' t' h' ds' a' w' hle hW' hT' hD' hK
    | panic ch => exact hQ _ m' t' h' ds' a' w' hle hW' hT' hD' hK
    | outgrown => exact hQ _ m' t' h' ds' a' w' hle hW' hT' hD' hK
  · rename_i f ps as bo
    refine ⟨wpIn_rangeFunc fun fnE _ => ?_, fun b hb => by cases hb⟩
    split at e
    · cases rdc with
      | some _ => exact hrd.elim
      | none =>
        obtain ⟨m1, h1, k1, k2, k3, k4⟩ := newO_rel hW e (.deferred (some [])) rfl rfl (fun m' _ => heap_alloc_new w _)
        have hT1 := hT.mono k1
        obtain ⟨m2, h2, q1, q2, q3, q4⟩ := newO_rel k3 k4 (.loop { state := .ready, pending := none, fn := fnE, tmps := a.tmps, params := ps, assign := as, body := bo, defers := w.heap.size }) rfl rfl
          (fun m' hle => ⟨_, heap_alloc_new _ _, rfl, rfl, hT1.mono hle, rfl, rfl, rfl, 0, hle.1 _ _ k2⟩)
        have henter : (Instr.enterLoop fnE a.tmps ps as bo none).run P w = .ok ((w.alloc (.deferred (some []))).heap.size, [{ target := .collected w.heap.size, args := #[] }])
            ((w.alloc (.deferred (some []))).alloc (.loop { state := .ready, pending := none, fn := fnE, tmps := a.tmps, params := ps, assign := as, body := bo, defers := w.heap.size })) := by
          simp [Instr.enterLoop]
        obtain ⟨d, w₁', g, args, w₂, z1, z2, z3, z4, z5⟩ := rangeGo (nn := nn) (Q := Q) hs hT fnE henter (M.le_trans k1 q1) q3 q2 (.cons (q1.1 _ _ k2) (hD.mono (M.le_trans k1 q1))) (rdA := none) trivial q4
          hQ
        exact ⟨_, _, _, d, w₁', g, args, w₂, henter, z1, z2, z3, z4, z5⟩
    · rename_i r
      cases rdc with
      | none => exact hrd.elim
      | some rc =>
        obtain ⟨dr, hr⟩ := hrd
        split at e
        · rename_i st pe tl nl ps0 as0 bo0 d0 hg
          obtain ⟨B, d', g1, g2, _⟩ := hW.obj r _ hg
          rw [hr] at g1
          cases g1
          obtain ⟨L0, r1, r2, r3, r4, r5, r6, r7, d2, r8⟩ := g2
          obtain ⟨m2, h2, q1, q2, q3, q4⟩ := newO_rel hW e (.loop { state := .ready, pending := none, fn := fnE, tmps := a.tmps, params := ps, assign := as, body := bo, defers := L0.defers }) rfl rfl
            (fun m' hle => ⟨_, heap_alloc_new _ _, rfl, rfl, hT.mono hle, rfl, rfl, rfl, d2, hle.1 _ _ r8⟩)
          have henter : (Instr.enterLoop fnE a.tmps ps as bo (some rc)).run P w = .ok (w.heap.size, [])
              (w.alloc (.loop { state := .ready, pending := none, fn := fnE, tmps := a.tmps, params := ps, assign := as, body := bo, defers := L0.defers })) := by
            simp [Instr.enterLoop, Instr.getLoop, getObj, Sem.run, r1]
          obtain ⟨d, w₁', g, args, w₂, z1, z2, z3, z4, z5⟩ := rangeGo (nn := nn) (Q := Q) hs hT fnE henter q1 q3 q2 (hD.mono q1) (rdA := some r) ⟨dr, q1.1 _ _ hr⟩ q4 hQ
          exact ⟨_, _, _, d, w₁', g, args, w₂, henter, z1, z2, z3, z4, z5⟩
        · cases e
  · cases e

theorem exec_sound (hds : DrawSound P) : ∀ f, Sound P (exec P f)
  | 0 => by intro n rd c t h ds K e; cases e
  | f + 1 => execStep_sound hds (exec_sound hds f)

end
end Go.Ev
