/- Runs over states of which some is not known: one step after the other. -/
import Derived.Test.YtlneoecgbbbahacGreatDoorEv24
import Derived.Test.YtlneoecgbbbahacGreatDoorEv25
namespace Go.Ev
open Go.RowKit

/-- What may be stepped: an interpreter that is as good as its own step. -/
structure Steps (P : Program) (pr : Prim) (R : ExT) : Prop where
  step : ∀ {n rd c t h ds K}, execStepX P pr R n rd c t h ds K = true → R n rd c t h ds K = true

theorem steps_exA {P : Program} (hmix : P.follows .mixedOrders = true) {pr : Prim} (hp : PrimSound P pr) : Steps P pr (exA P) where
  step := fun {n rd c t h ds K} e => @decide_eq_true _ (Classical.propDecidable _) (execStepX_sound (drawSound hmix) hp (exA_sound P) n rd c t h ds K e)

def seqK (R : ExT) (n : Nat) (rd : Option Nat) (b : Code) (K : KT) : KT := fun e t h ds =>
  match e with
  | .normal => R n rd b t h ds K
  | e => K e t h ds

section
variable {P : Program} {pr : Prim} {R : ExT} {n : Nat} {rd : Option Nat} {t : T Value} {h : AHeap} {ds : List Nat} {K : KT}

theorem Steps.seq (S : Steps P pr R) {a b : Code} (k : R n rd a t h ds (seqK R n rd b K) = true) : R n rd (.seq a b) t h ds K = true := S.step k

theorem Steps.skip (S : Steps P pr R) (k : K .normal t h ds = true) : R n rd .skip t h ds K = true := S.step k
theorem Steps.ret (S : Steps P pr R) (k : K .ret t h ds = true) : R n rd .ret t h ds K = true := S.step k
theorem Steps.exit (S : Steps P pr R) {id : Nat} (k : K (.exit id) t h ds = true) : R n rd (.exit id) t h ds K = true := S.step k
theorem Steps.block (S : Steps P pr R) {id : Nat} {b : Code} (k : R n rd b t h ds (BlockK id K) = true) : R n rd (.block id b) t h ds K = true := S.step k

theorem Steps.cond (S : Steps P pr R) {x : Operand} {a b : Code} {v : Bool} (hx : ev P t x = .bool v) (h1 : v = true → R n rd a t h ds K = true) (h2 : v = false → R n rd b t h ds K = true) : R n rd (.cond x a b) t h ds K = true := by
  refine S.step ?_
  show execStep P R n rd (.cond x a b) t h ds K = true
  simp only [execStep]
  rw [hx]
  cases v with
  | true => exact h1 rfl
  | false => exact h2 rfl

theorem Steps.region (S : Steps P pr R) {id : Nat} {ops : Array Oper} (k : runOps P (withPrim pr (callVal P R)) ops n ops.toList t h (fun t h => K .normal t h ds) = true) : R n rd (.region id ops false) t h ds K = true := S.step k

theorem Steps.drawn (S : Steps P pr R) {id : Nat} {ops : Array Oper} (hr : regOk P ops = true) (k : drawGo P (withPrim pr (callVal P R)) ops n (Nat.succ ops.size) (infos P ops) 0 [] t h (fun t h => K .normal t h ds) = true) : R n rd (.region id ops true) t h ds K = true := by
  refine S.step ?_
  simp only [execStepX, runRegion, cond_true, hr, joinK_eq]
  exact k

theorem Steps.loop (S : Steps P pr R) {b : Code} {ι : Type} (I : ι → T Value → AHeap → Prop) (μ : ι → Nat)
    (body : ∀ i t h, I i t h → ∀ K' : KT, (∀ j t' h', μ j < μ i → I j t' h' → K' .normal t' h' ds = true) → (∀ e t' h' ds', e ≠ .normal → K e t' h' ds' = true → K' e t' h' ds' = true) → R n rd b t h ds K' = true) :
    ∀ i t h, I i t h → R n rd (.loop b) t h ds K = true := by
  intro i
  generalize hm : μ i = k
  induction k using Nat.strongRecOn generalizing i with
  | _ k ih =>
    intro t h hI
    refine S.step ?_
    show execStep P R n rd (.loop b) t h ds K = true
    simp only [execStep]
    refine body i t h hI _ (fun j t' h' hlt hj => ?_) (fun e t' h' ds' hne hK => ?_)
    · exact ih (μ j) (by omega) j rfl t' h' hj
    · cases e with
      | normal => exact absurd rfl hne
      | _ => exact hK

/-! ## Operations -/
variable {call : CallT} {ops : Array Oper} {o : Oper} {rest : List Oper} {KR : T Value → AHeap → Bool}

theorem ops_nil (k : KR t h = true) : runOps P call ops n [] t h KR = true := k

theorem ops_read {v : Value} {d : Tmp} (hg : o.guard = none) (hw : isW P o.op = false) (hd : o.dst = some d) (hlt : Nat.blt d n = true) (hr : aread P t h o = some v)
    (k : runOps P call ops n rest (T.set (d + 1) t d v) h KR = true) : runOps P call ops n (o :: rest) t h KR = true := by
  simp only [runOps, hg, wantA, hw, cond_false, hr, putK, hd, hlt, cond_true, fV1_eq, T.setK_eq]
  exact k

theorem ops_skip {g : Nat × Bool} {d : Tmp} (hg : o.guard = some g) (hw : wantA t ops (some g) = some false) (hd : o.dst = some d) (hlt : Nat.blt d n = true)
    (k : runOps P call ops n rest (T.set (d + 1) t d undef) h KR = true) : runOps P call ops n (o :: rest) t h KR = true := by
  simp only [runOps, hg, hw, putK, hd, hlt, cond_true, fV1_eq, T.setK_eq]
  exact k

theorem ops_readG {v : Value} {g : Nat × Bool} {d : Tmp} (hg : o.guard = some g) (hwa : wantA t ops (some g) = some true) (hw : isW P o.op = false) (hd : o.dst = some d) (hlt : Nat.blt d n = true) (hr : aread P t h o = some v)
    (k : runOps P call ops n rest (T.set (d + 1) t d v) h KR = true) : runOps P call ops n (o :: rest) t h KR = true := by
  simp only [runOps, hg, hwa, hw, cond_false, hr, putK, hd, hlt, cond_true, fV1_eq, T.setK_eq]
  exact k

/-- What an operation that writes hands on. -/
def Writes (P : Program) (call : CallT) (t : T Value) (h : AHeap) (o : Oper) (v : Value) (h' : AHeap) : Prop := ∀ K : KV, K v h' = true → awrite P call t h o K = true

theorem ops_write {v : Value} {h' : AHeap} {d : Tmp} (hg : o.guard = none) (hw : isW P o.op = true) (hd : o.dst = some d) (hlt : Nat.blt d n = true) (hr : Writes P call t h o v h')
    (k : runOps P call ops n rest (T.set (d + 1) t d v) h' KR = true) : runOps P call ops n (o :: rest) t h KR = true := by
  simp only [runOps, hg, wantA, hw, cond_true, putK, hd, hlt, fV1_eq, T.setK_eq]
  exact hr _ k

theorem ops_write0 {v : Value} {h' : AHeap} (hg : o.guard = none) (hw : isW P o.op = true) (hd : o.dst = none) (hr : Writes P call t h o v h')
    (k : runOps P call ops n rest t h' KR = true) : runOps P call ops n (o :: rest) t h KR = true := by
  simp only [runOps, hg, wantA, hw, cond_true, putK, hd]
  exact hr _ k

theorem tget_setE (f : Nat) (t : T Value) (k : Nat) (v : Value) (k' : Nat) (hk : Nat.blt k f = true) : tget (T.set f t k v) k' = bif Nat.beq k' k then v else tget t k' := by
  have hlt : k < f := by simpa [Nat.blt_eq] using hk
  rw [tget_set f t k v hlt]
  cases e : Nat.beq k' k with
  | true => rw [if_pos (Nat.eq_of_beq_eq_true e), cond_true]
  | false => rw [if_neg (Nat.ne_of_beq_eq_false e), cond_false]

/-! ## A contract at every world -/
/-- The state in which a call begins. -/
def argsT (args : List Value) : T Value := setArgs args 0 .leaf id

theorem setArgs_id {β : Type} : ∀ (l : List Value) (i : Nat) (t : T Value) (K : T Value → β), setArgs l i t K = K (setArgs l i t id)
  | [], _, _, _ => rfl
  | v :: l, i, t, K => by
    simp only [setArgs, fV1_eq, T.setK_eq]
    exact setArgs_id l _ _ K

theorem calls_of {P : Program} {f : FuncId} {fn : Func} {c : Code} (hf : P.funcs[f]? = some fn) (hb : fn.body = some c) (hname : (fn.name == "runtime.NumGoroutine") = false) {args : List Value} (hp : plainL args = true)
    (hlen : Nat.ble args.length fn.ntmps = true) {Post : Value → Prop} (hplain : ∀ v, Post v → plainB v = true)
    (e : exA P fn.ntmps none c (argsT args) ⟨.leaf, P.globals.size, .leaf⟩ [] (finish P fn fun v _ => @decide (Post v) (Classical.propDecidable _)) = true) {w : World} (hw : P.globals.size ≤ w.heap.size) :
    Calls P f args.toArray w fun e w' => ∃ v, e = .returned v ∧ Post v ∧ Below w.heap.size w w' := by
  have e2 : callBody (exA P) P fn c args ⟨.leaf, P.globals.size, .leaf⟩ (fun v _ => @decide (Post v) (Classical.propDecidable _)) = true := by
    unfold callBody
    rw [hname, cond_false, hlen, cond_true, setArgs_id]
    exact e
  obtain ⟨_, k⟩ := callBody_sound (rd := none) (nn := 0) (exA_sound P) hf hb (wr_start hw) (plainL_rel _ _ hp) e2 (R := fun v' w' => Post v' ∧ Below w.heap.size w w') (fun m' v v' h' w' hle hv hW hK => by
    have hP := @of_decide_eq_true _ (Classical.propDecidable _) hK
    have := plain_eq _ _ (hplain v hP) hv
    subst this
    exact ⟨hP, hW.below⟩)
  have k2 : CallsIn Fence.wide 0 P f args.toArray w _ := k
  refine (callsIn_wide.1 k2).mono fun e w' he => ?_
  cases e with
  | returned v => exact ⟨v, rfl, he⟩
  | panicked _ => exact he.elim
  | outgrown => exact he.elim
end
end Go.Ev
