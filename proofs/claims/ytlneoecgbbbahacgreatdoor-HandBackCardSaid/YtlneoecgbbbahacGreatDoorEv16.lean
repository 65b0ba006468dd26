/- Calls, rounds, code: what the evaluator says is so. -/
import Derived.Test.YtlneoecgbbbahacGreatDoorEv15
namespace Go.Ev
open Go.RowKit

def Sound (P : Program) (ex : ExT) : Prop :=
  ∀ (n : Nat) (rd : Option Nat) (c : Code) (t : T Value) (h : AHeap) (ds : List Nat) (K : KT), ex n rd c t h ds K = true → ∀ (m : M) (w0 w : World) (a : Act) (rdc : Option Nat) (nn : Nat) (Q : Exit → Act → World → Prop),
    WR P m w0 h w → TR m t n a.tmps → DR m ds a.defers → RdR m rd rdc →
    (∀ e m' t' h' ds' a' w', M.le m m' → WR P m' w0 h' w' → TR m' t' n a'.tmps → DR m' ds' a'.defers → K e t' h' ds' = true → Q e a' w') →
    c.wpIn (FW rdc) nn P Q a w ∧ (∀ b, c = .loop b → LoopWp (FW rdc) nn P b Q a w)

section
variable {P : Program} {m : M} {w0 w : World} {h : AHeap} {t : T Value} {n : Nat} {a : Act} {rd : Option Nat} {nn : Nat}

/-! ## Arguments -/
theorem setArgs_rel {β : Type} : ∀ (l : List Value) (i : Nat) (t : T Value) (K : T Value → β), ∃ t', setArgs l i t K = K t' ∧ ∀ j, tget t' j = if i ≤ j then (l[j - i]?).getD (tget t j) else tget t j
  | [], i, t, K => ⟨t, rfl, fun j => by simp⟩
  | v :: l, i, t, K => by
    obtain ⟨t', k1, k2⟩ := setArgs_rel l (i + 1) (T.set (i + 1) t i v) K
    refine ⟨t', ?_, fun j => ?_⟩
    · simp only [setArgs, fV1_eq, T.setK_eq]
      exact k1
    · rw [k2, tget_set _ _ _ _ (Nat.lt_succ_self _)]
      by_cases h1 : i + 1 ≤ j
      · have h2 : i ≤ j := by omega
        have h3 : ¬ j = i := by omega
        have h4 : j - i = (j - (i + 1)) + 1 := by omega
        simp only [h1, h2, h3, if_true, if_false]
        rw [h4, List.getElem?_cons_succ]
      · rw [if_neg h1]
        by_cases h2 : j = i
        · subst h2; simp
        · rw [if_neg h2, if_neg (by omega)]

theorem args_TR {args args' : List Value} (k : LR m args args') (nt : Nat) (hle : args.length ≤ nt) {t : T Value} (ht : ∀ j, tget t j = if 0 ≤ j then (args[j - 0]?).getD (tget .leaf j) else tget .leaf j) :
    TR m t nt (args'.toArray ++ Array.replicate (nt - args'.toArray.size) undef) := by
  have hl := k.length
  refine ⟨by simp; omega, fun i => ?_⟩
  rw [ht]
  simp only [Nat.zero_le, if_true, Nat.sub_zero]
  rw [Array.getD_eq_getD_getElem?]
  by_cases hi : i < args.length
  · rw [Array.getElem?_append_left (by simpa [← hl] using hi), List.getElem?_eq_getElem hi]
    obtain ⟨v', k1, k2⟩ := k.get i _ (List.getElem?_eq_getElem hi)
    simp only [List.getElem?_toArray, k1, Option.getD_some]
    exact k2
  · rw [List.getElem?_eq_none (by omega)]
    have hleaf : tget (.leaf : T Value) i = undef := by unfold tget; rw [T.get_leaf]
    simp only [Option.getD_none, hleaf]
    rw [Array.getElem?_append_right (by simp; omega), Array.getElem?_replicate]
    split <;> exact undef_rel m

theorem setParams_rel {β : Type} : ∀ (ps : List Tmp) (vs vs' : List Value) (t : T Value) (tm : Array Value) (K : T Value → β), LR m vs vs' → vs.length = ps.length → (∀ p ∈ ps, p < n) → TR m t n tm →
    ∃ t', setParams ps vs t K = K t' ∧ TR m t' n ((ps.zip vs').foldl (fun tmps x => tmps.setIfInBounds x.1 x.2) tm)
  | [], _, _, t, tm, K, _, _, _, hT => ⟨t, rfl, by simpa using hT⟩
  | p :: ps, [], _, t, tm, K, _, hl, _, hT => by simp at hl
  | p :: ps, v :: vs, _, t, tm, K, .cons (v' := v') (l' := vs') hv k, hl, hp, hT => by
    obtain ⟨t', k1, k2⟩ := setParams_rel ps vs vs' (T.set (p + 1) t p v) (tm.setIfInBounds p v') K k (by simpa using hl) (fun q hq => hp q (by simp [hq])) (hT.set (hp p (by simp)) hv)
    refine ⟨t', ?_, ?_⟩
    · simp only [setParams, fV1_eq, T.setK_eq]
      exact k1
    · simpa using k2

/-! ## Results -/
def resF (tm : Array Value) (r : ResultVar) : Sem Value :=
  match r with
  | .tmp t => pure (tm.getD t undef)
  | .cell a t => do loadVar t (← asAddr (tm.getD a undef))

theorem results_eq (fn : Func) (tm : Array Value) : results fn tm = (do let vs ← fn.results.mapM (resF tm); pure (if h : vs.size = 1 then vs[0] else .tuple vs)) := rfl

theorem resA_rel (hW : WR P m w0 h w) {tm : Array Value} (hT : TR m t n tm) : ∀ {l : List ResultVar} {vs : List Value}, resA P h t l = some vs →
    ∃ vs', (l.mapM (resF tm) : Sem (List Value)).run P w = .ok vs' w ∧ LR m vs vs'
  | [], vs, e => by simp only [resA, Option.some.injEq] at e; subst e; exact ⟨[], by simp, .nil⟩
  | .tmp i :: l, vs, e => by
    simp only [resA] at e
    split at e
    · rename_i vs0 h0
      cases e
      obtain ⟨vs', k1, k2⟩ := resA_rel hW hT h0
      exact ⟨tm.getD i undef :: vs', by simp only [List.mapM_cons, resF, Sem.run_bind, Sem.run_pure, Result.andThen_ok, k1], .cons (hT.2 i) k2⟩
    · cases e
  | .cell i ty :: l, vs, e => by
    simp only [resA] at e
    split at e
    · rename_i b off hev
      split at e
      · rename_i c fam ro hg
        split at e
        · rename_i v0 vs0 h1 h2
          cases e
          have hr := hT.2 i
          have hev' : tget t i = .pointer (some ⟨b, off, none⟩) := hev
          rw [hev'] at hr
          generalize hx : tm.getD i undef = x' at hr
          cases hr with
          | @ptr _ B d _ hm =>
            obtain ⟨B', d', g1, g2, _⟩ := hW.obj b _ hg
            rw [hm] at g1
            cases g1
            obtain ⟨v', k1, k2⟩ := partL_load g2 h1
            obtain ⟨vs', k3, k4⟩ := resA_rel hW hT h2
            exact ⟨v' :: vs', by simp only [List.mapM_cons, resF, Sem.run_bind, hx, asAddr, Sem.run_pure, Result.andThen_ok, k1, k3], .cons k2 k4⟩
        · cases e
      · cases e
    · cases e

theorem results_rel (hW : WR P m w0 h w) {tm : Array Value} (hT : TR m t n tm) {fn : Func} {vs : List Value} (e : resA P h t fn.results.toList = some vs) :
    ∃ v', (results fn tm).run P w = .ok v' w ∧ VR m (result1 vs) v' := by
  obtain ⟨vs', k1, k2⟩ := resA_rel hW hT e
  rw [results_eq, Array.mapM_eq_mapM_toList, Sem.run_bind, Sem.run_map, k1, Result.andThen_ok, Result.andThen_ok, Sem.run_pure]
  refine ⟨_, rfl, ?_⟩
  cases k2 with
  | nil => exact .tuple .nil
  | cons hv ht =>
    cases ht with
    | nil => simpa [result1] using hv
    | cons hv2 ht2 =>
      simp only [result1, List.size_toArray, List.length_cons]
      rw [dif_neg (by omega)]
      exact .tuple (.cons hv (.cons hv2 ht2))

/-! ## The marks are taken -/
theorem marks_leave {fn : Func} {tm : Array Value} {R : Ending → World → Prop} {K : AHeap → Bool} : ∀ {ds : List Nat} {dl : List Deferred}, DR m ds dl → ∀ (h : AHeap) (w : World), WR P m w0 h w → endMarks h ds K = true →
    (∀ h' w', WR P m w0 h' w' → K h' = true → LeavesIn (FW rd) nn P fn tm R [] .returning w') → LeavesInM (FW rd) nn P fn tm R dl .returning w
  | _, _, .nil, h, w, hW, e, hK => hK h w hW e
  | _, _, .cons (d := d) (r := r) (x := x) hm ht, h, w, hW, e, hK => by
    simp only [endMarks] at e
    split at e
    · rename_i hg
      obtain ⟨B, d', g1, g2, _⟩ := hW.obj d _ hg
      rw [hm] at g1
      cases g1
      simp only [OR, if_true] at g2
      have hlt : r < w.heap.size := hW.dom _ _ _ hm
      obtain ⟨h', k1, k2⟩ := setO_rel hW e hg hm rfl rfl rfl (.deferred none) (by simp [OR, hlt])
      refine ⟨by simp, .inl ⟨r, _, rfl, ?_, marks_leave ht h' _ k1 k2 hK⟩⟩
      simp [Instr.takeDeferred, getObj, setObj, Sem.run, g2]
    · cases e

/-! ## Calls -/
theorem run_callFunc {g : FuncId} {fn : Func} {c : Code} (hf : P.funcs[g]? = some fn) (hb : fn.body = some c) (hn : (fn.name == "runtime.NumGoroutine") = false) (args : Array Value) (w : World) :
    (callFunc g args).run P w = .ok (.enter g args) w := by
  have hn' : fn.name ≠ "runtime.NumGoroutine" := by simpa using hn
  simp [callFunc, hf, hb, hn']

theorem callBody_sound {ex : ExT} (hs : Sound P ex) {g : FuncId} {fn : Func} {c : Code} (hf : P.funcs[g]? = some fn) (hb : fn.body = some c) (hW : WR P m w0 h w) {args args' : List Value} (hargs : LR m args args') {K : KV}
    (e : callBody ex P fn c args h K = true) {R : Value → World → Prop} (hR : ∀ m' v v' h' w', M.le m m' → VR m' v v' → WR P m' w0 h' w' → K v h' = true → R v' w') :
    (∀ w, (callFunc g args'.toArray).run P w = .ok (.enter g args'.toArray) w) ∧ CallsIn (FW rd) nn P g args'.toArray w fun | .returned v, w' => R v w' | _, _ => False := by
  unfold callBody at e
  cases hname : (fn.name == "runtime.NumGoroutine") with
  | true => rw [hname] at e; cases e
  | false =>
    rw [hname, cond_false] at e
    cases hlen : Nat.ble args.length fn.ntmps with
    | false => rw [hlen] at e; cases e
    | true =>
      rw [hlen, cond_true] at e
      obtain ⟨t, k1, k2⟩ := setArgs_rel args 0 .leaf fun t => ex fn.ntmps none c t h [] (finish P fn K)
      rw [k1] at e
      have hT := args_TR hargs fn.ntmps (Nat.le_of_ble_eq_true hlen) k2
      refine ⟨run_callFunc hf hb hname args'.toArray, ?_⟩
      have main : CallsIn (FW none) nn P g args'.toArray w fun | .returned v, w' => R v w' | _, _ => False := by
        refine callsIn_of_wp_marks hf hb trivial ?_
        refine (hs fn.ntmps none c t h [] _ e m w0 w { tmps := args'.toArray ++ Array.replicate (fn.ntmps - args'.toArray.size) undef, defers := [] } none nn _ hW hT .nil trivial ?_).1
        intro e' m' t' h' ds' a' w' hle hW' hT' hD' hK
        have key : (endMarks h' ds' fun h => match resA P h t' fn.results.toList with | some vs => K (result1 vs) h | none => false) = true →
            LeavesInM (FW none) nn P fn a'.tmps (fun | .returned v, w' => R v w' | _, _ => False) a'.defers .returning w' := by
          intro he
          refine marks_leave hD' h' w' hW' he ?_
          intro h2 w2 hW2 he2
          split at he2
          · rename_i vs hvs
            obtain ⟨v', q1, q2⟩ := results_rel hW2 hT' hvs
            exact ⟨v', q1, hR m' _ v' h2 w2 hle q2 hW2 he2⟩
          · cases he2
        cases e' with
        | normal => exact key hK
        | ret => exact key hK
        | exit id => cases hK
        | goto l => cases hK
        | panic ch => cases hK
        | outgrown => cases hK
      exact main

/-! ## Rounds -/
theorem loopState_rel (hW : WR P m w0 h w) {l L d : Nat} (hm : m l = some (L, d)) {st : LoopState} {pe : Option Code} {K : AHeap → Bool} (e : loopState h l st pe K = true) :
    ∃ r h', w.heap[L]? = some (.loop r) ∧ WR P m w0 h' { w with heap := w.heap.setIfInBounds L (.loop { r with state := st, pending := pe }) } ∧ K h' = true := by
  unfold loopState at e
  split at e
  · rename_i st0 pe0 tl nl ps as bo df hg
    obtain ⟨B, d', g1, g2, _⟩ := hW.obj l _ hg
    rw [hm] at g1
    cases g1
    obtain ⟨r, r1, r2, r3, r4, r5, r6, r7, d2, r8⟩ := g2
    have hlt : L < w.heap.size := hW.dom _ _ _ hm
    obtain ⟨h', k1, k2⟩ := setO_rel hW e hg hm rfl rfl rfl (.loop { r with state := st, pending := pe }) ⟨{ r with state := st, pending := pe }, by simp [hlt], rfl, rfl, r4, r5, r6, r7, d2, r8⟩
    exact ⟨r, h', r1, k1, k2⟩
  · cases e

theorem run_endRound {L : Nat} {r : Loop} (hr : w.heap[L]? = some (.loop r)) (jump : Option Code) :
    (Instr.endRound L jump).run P w = .ok (.bool jump.isNone) { w with heap := w.heap.setIfInBounds L (.loop { r with state := if jump.isNone then .ready else .done, pending := jump }) } := by
  simp [Instr.endRound, Instr.getLoop, getObj, setObj, Sem.run, hr]

theorem roundK_sound {ex : ExT} (hs : Sound P ex) (hW : WR P m w0 h w) {l L d : Nat} (hm : m l = some (L, d)) {args args' : List Value} (hargs : LR m args args') {K : KV}
    (e : roundK ex l args h K = true) {R : Value → World → Prop} (hR : ∀ m' v v' h' w', M.le m m' → VR m' v v' → WR P m' w0 h' w' → K v h' = true → R v' w') :
    UponR rd nn P R ((Instr.yield L args'.toArray).run P w) := by
  unfold roundK at e
  split at e
  · rename_i st pe tl nl ps as bo df hg
    obtain ⟨B, d', g1, g2, _⟩ := hW.obj l _ hg
    rw [hm] at g1
    cases g1
    obtain ⟨r, r1, r2, r3, r4, r5, r6, r7, d2, r8⟩ := g2
    subst r5
    subst r6
    subst r7
    cases hc : (Nat.beq args.length r.params.size && r.params.toList.all (fun p => Nat.blt p nl)) with
    | false => rw [hc] at e; cases e
    | true =>
      rw [hc, cond_true] at e
      simp only [Bool.and_eq_true] at hc
      have hlen : args.length = r.params.size := Nat.eq_of_beq_eq_true hc.1
      have hps : ∀ p ∈ r.params.toList, p < nl := fun p hp => by simpa [Nat.blt_eq] using (List.all_eq_true.1 hc.2) p hp
      obtain ⟨t', k1, k2⟩ := setParams_rel r.params.toList args args' tl r.tmps
        (fun t => ex nl (some l) r.assign t h [] (roundBody ex l nl r.body K)) hargs (by simpa using hlen) hps r4
      rw [k1] at e
      have hlen' : args'.toArray.size = r.params.size := by simp [← hargs.length, hlen]
      have hrun : (Instr.yield L args'.toArray).run P w = .ok (.round L r.fn ((r.params.zip args'.toArray).foldl (fun tmps x => tmps.setIfInBounds x.1 x.2) r.tmps) r.assign r.body) w := by
        simp only [Instr.yield, Instr.getLoop, getObj, Sem.run_bind, Sem.run, r1, Result.andThen_ok, Sem.run_pure]
        rw [if_neg (by rw [hlen']; simp)]
        rfl
      rw [hrun]
      have hzip : ((r.params.zip args'.toArray).foldl (fun tmps x => tmps.setIfInBounds x.1 x.2) r.tmps) = ((r.params.toList.zip args').foldl (fun tmps x => tmps.setIfInBounds x.1 x.2) r.tmps) := by
        rw [← Array.foldl_toList]
        simp
      rw [hzip]
      have main : RoundIn (FW none) nn P L r.fn ((r.params.toList.zip args').foldl (fun tmps x => tmps.setIfInBounds x.1 x.2) r.tmps) r.assign r.body w fun | .returned v, w' => R v w' | _, _ => False := by
        refine roundIn_of_wpIn trivial ?_
        refine (hs nl (some l) r.assign t' h [] _ e m w0 w { tmps := _, defers := [] } (some L) nn _ hW k2 .nil ⟨d, hm⟩ ?_).1
        intro e1 m1 t1 h1 ds1 a1 w1 hle1 hW1 hT1 hD1 hK1
        cases e1 with
        | normal =>
          simp only [roundBody] at hK1
          split at hK1
          · obtain ⟨tm1, dfs1⟩ := a1
            simp only at hD1 hT1
            obtain rfl : dfs1 = [] := by cases hD1; rfl
            unfold beginK at hK1
            split at hK1
            · rename_i pe1 tl1 nl1 ps1 as1 bo1 df1 hg1
              obtain ⟨B1, d1, q1, q2, _⟩ := hW1.obj l _ hg1
              rw [hle1.1 _ _ hm] at q1
              cases q1
              obtain ⟨r', s1, s2, s3, s4, s5, s6, s7, d3, s8⟩ := q2
              have hlt : L < w1.heap.size := hW1.dom _ _ _ (hle1.1 _ _ hm)
              obtain ⟨h2, u1, u2⟩ := setO_rel hW1 hK1 hg1 (hle1.1 _ _ hm) rfl rfl rfl (.loop { r' with state := .busy }) ⟨{ r' with state := .busy }, by simp [hlt], rfl, s3, s4, s5, s6, s7, d3, s8⟩
              refine ⟨{ w1 with heap := w1.heap.setIfInBounds L (.loop { r' with state := .busy }) }, ?_, ?_⟩
              · simp [Instr.beginRound, Instr.getLoop, getObj, setObj, Sem.run, s1, s2]
              · refine (hs nl (some l) r.body t1 h2 [] _ u2 m1 w0 _ { tmps := tm1, defers := [] } (some L) nn (roundPost P L fun | .returned v, w' => R v w' | _, _ => False) u1 hT1 .nil ⟨d, hle1.1 _ _ hm⟩ ?_).1
                intro e2 m2 t2 h3 ds2 a2 w3 hle2 hW2 hT2 hD2 hK2
                have hm2 := hle2.1 _ _ (hle1.1 _ _ hm)
                cases e2 with
                | normal =>
                  obtain ⟨r2, h4, v1, v2, v3⟩ := loopState_rel hW2 hm2 (st := .ready) (pe := none) (K := fun h => K (.bool true) h) hK2
                  exact ⟨_, _, run_endRound v1 none, hR m2 _ _ h4 _ (M.le_trans hle1 hle2) (.bool true) v2 v3⟩
                | ret =>
                  obtain ⟨r2, h4, v1, v2, v3⟩ := loopState_rel hW2 hm2 (st := .done) (pe := some .ret) (K := fun h => K (.bool false) h) hK2
                  exact ⟨_, _, run_endRound v1 (some .ret), hR m2 _ _ h4 _ (M.le_trans hle1 hle2) (.bool false) v2 v3⟩
                | exit id =>
                  obtain ⟨r2, h4, v1, v2, v3⟩ := loopState_rel hW2 hm2 (st := .done) (pe := some (.exit id)) (K := fun h => K (.bool false) h) hK2
                  exact ⟨_, _, run_endRound v1 (some (.exit id)), hR m2 _ _ h4 _ (M.le_trans hle1 hle2) (.bool false) v2 v3⟩
                | goto l => cases hK2
                | panic ch => cases hK2
                | outgrown => cases hK2
            · cases hK1
          · cases hK1
        | exit id => cases hK1
        | goto l => cases hK1
        | ret => cases hK1
        | panic ch => cases hK1
        | outgrown => cases hK1
      exact main
  · cases e

end
end Go.Ev
