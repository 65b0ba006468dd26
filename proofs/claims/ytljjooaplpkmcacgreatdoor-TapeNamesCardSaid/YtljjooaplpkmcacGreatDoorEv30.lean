/- A call cut out of a run: from one written-out state to the next. -/
import Derived.Test.YtljjooaplpkmcacGreatDoorEv26
namespace Go.Ev
open Go.RowKit

/-- A call, the state before it, its result and the state behind it. -/
structure CutRow where
  g : FuncId
  l : List Value
  hIn : AHeap
  v : Value
  hOut : AHeap

def KCut (v : Value) (h1 : AHeap) : Value → AHeap → Bool := fun v' h' => veq v' v && subH h1 h'

def CutSound (P : Program) (r : CutRow) : Prop := callVal P (exA P) (.func (.func r.g) ⟨[]⟩ ⟨[]⟩) r.l r.hIn (KCut r.v r.hOut) = true

def withCut (r : CutRow) (call : CallT) : CallT := fun f args h K =>
  match f with
  | .func (.func g) ⟨[]⟩ ⟨[]⟩ => bif Nat.beq g r.g && (veqL args r.l && subH r.hIn h) then K r.v r.hOut else call (.func (.func g) ⟨[]⟩ ⟨[]⟩) args h K
  | f => call f args h K

section
variable {P : Program}

theorem withCut_sound {r : CutRow} (hr : CutSound P r) {call : CallT} (hc : CallSound P call) : CallSound P (withCut r call) := by
  intro m w0 w h fv fv' args args' K hW hf hargs e rd nn R hR
  unfold withCut at e
  split at e
  · rename_i g
    cases hcond : (Nat.beq g r.g && (veqL args r.l && subH r.hIn h)) with
    | false =>
      rw [hcond, cond_false] at e
      exact hc m w0 w h _ _ args args' K hW hf hargs e rd nn R hR
    | true =>
      rw [hcond, cond_true] at e
      simp only [Bool.and_eq_true] at hcond
      obtain ⟨c1, c2, c3⟩ := hcond
      have hg := Nat.eq_of_beq_eq_true c1
      have hl := veqL_eq _ _ c2
      subst hg hl
      refine callVal_sound (exA_sound P) m w0 w r.hIn _ fv' _ args' (KCut r.v r.hOut) (hW.sub c3) hf hargs hr rd nn R ?_
      intro m' v v' h' w' hle hv hW' hK
      simp only [KCut, Bool.and_eq_true] at hK
      have hvv := veq_eq _ _ hK.1
      subst hvv
      exact hR m' _ v' r.hOut w' hle hv (hW'.sub hK.2) e
  · exact hc m w0 w h _ _ args args' K hW hf hargs e rd nn R hR

def execStepD (P : Program) (pr : Prim) (r : CutRow) (ex : ExT) : ExT := fun n rd c t h ds K =>
  match c with
  | .region _ ops draw => runRegion P (withCut r (withPrim pr (callVal P ex))) ops draw n t h fun t h => K .normal t h ds
  | c => execStep P ex n rd c t h ds K

theorem execStepD_sound {ex : ExT} (hds : DrawSound P) {pr : Prim} (hp : PrimSound P pr) {r : CutRow} (hr : CutSound P r) (hs : Sound P ex) : Sound P (execStepD P pr r ex) := by
  intro n rd c t h ds K e m w0 w a rdc nn Q hW hT hD hrd hQ
  unfold execStepD at e
  split at e
  · have hcall := withCut_sound hr (withPrim_sound hp (callVal_sound hs))
    refine ⟨region_wp hds hcall hW hT e fun m' t' h' a' w' hle hT' hW' hd hK => ?_, fun b hb => by cases hb⟩
    exact hQ .normal m' t' h' ds a' w' hle hW' hT' (by rw [hd]; exact hD.mono hle) hK
  · exact execStep_sound hds hs n rd c t h ds K e m w0 w a rdc nn Q hW hT hD hrd hQ

def execD (P : Program) (pr : Prim) (r : CutRow) : Nat → ExT
  | 0 => fun _ _ _ _ _ _ _ => false
  | Nat.succ f => execStepD P pr r (execD P pr r f)

theorem execD_sound (hds : DrawSound P) {pr : Prim} (hp : PrimSound P pr) {r : CutRow} (hr : CutSound P r) : ∀ f, Sound P (execD P pr r f)
  | 0 => by intro n rd c t h ds K e; cases e
  | f + 1 => execStepD_sound hds hp hr (execD_sound hds hp hr f)

/-! ## Its twin -/
def callValD (P : Program) (pr : Prim) (r : CutRow) (ex : ExT) (f : Value) (args : List Value) (h : AHeap) (K : Value → AHeap → Bool) : Bool :=
  match f with
  | .func (.func g) ⟨[]⟩ ⟨[]⟩ => bif Nat.beq g r.g && (veqL args r.l && subH r.hIn h) then K r.v r.hOut else callValX P pr ex (.func (.func g) ⟨[]⟩ ⟨[]⟩) args h K
  | f => callValX P pr ex f args h K

theorem callValD_eq (P : Program) (pr : Prim) (r : CutRow) (ex : ExT) : callValD P pr r ex = withCut r (withPrim pr (callVal P ex)) := by
  funext f args h K
  unfold callValD withCut
  rw [callValX_eq]

def stepD (P : Program) (pr : Prim) (r : CutRow) (c : Code) : XW :=
  match c with
  | .region _ ops draw => ⟨fun ex n _ t h ds K => (regionC P ops draw).run (callValD P pr r ex) n t h fun t h => K .normal t h ds⟩
  | c => stepC P c

theorem stepD_eq (P : Program) (pr : Prim) (r : CutRow) (c : Code) (ex : ExT) (n : Nat) (rd : Option Nat) (t : T Value) (h : AHeap) (ds : List Nat) (K : KT) : (stepD P pr r c).run ex n rd t h ds K = execStepD P pr r ex n rd c t h ds K := by
  unfold stepD execStepD
  split
  · simp only [regionC_eq, callValD_eq]
  · exact stepC_eq ..

def execDW (P : Program) (pr : Prim) (r : CutRow) : Nat → EXW
  | 0 => ⟨fun _ _ _ _ _ _ _ => false⟩
  | Nat.succ f => ⟨fun n rd c t h ds K => (stepD P pr r c).run (execDW P pr r f).run n rd t h ds K⟩

theorem execDW_eq (P : Program) (pr : Prim) (r : CutRow) : ∀ f, (execDW P pr r f).run = execD P pr r f
  | 0 => rfl
  | f + 1 => by
    funext n rd c t h ds K
    simp only [execDW, execD, stepD_eq, execDW_eq P pr r f]

theorem cut_of {r : CutRow} {fn : Func} {c : Code} (h1 : P.funcs[r.g]? = some fn) (h2 : fn.body = some c) (h3 : (fn.name == "runtime.NumGoroutine") = false)
    (h4 : Nat.ble r.l.length fn.ntmps = true)
    (e : SoundAt P fn.ntmps none c (argsT r.l) r.hIn [] (finish P fn (KCut r.v r.hOut))) : CutSound P r := by
  have : exA P fn.ntmps none c (argsT r.l) r.hIn [] (finish P fn (KCut r.v r.hOut)) = true := @decide_eq_true _ (Classical.propDecidable _) e
  unfold CutSound callVal callFunc1
  simp only [List.nil_append, List.append_nil, h1, h2]
  unfold callBody
  rw [h3, cond_false, h4, cond_true, setArgs_id]
  exact this

theorem at_cut (hmix : P.follows .mixedOrders = true) {pr : Prim} (hp : PrimSound P pr) {r : CutRow} (hr : CutSound P r) {n : Nat} {rd : Option Nat} {t : T Value} {h : AHeap} {ds : List Nat} {K : KT} {fuel : Nat} {c : Code}
    (e : (execDW P pr r fuel).run n rd c t h ds K = true) : SoundAt P n rd c t h ds K := by
  rw [execDW_eq] at e
  exact execD_sound (drawSound hmix) hp hr fuel n rd c t h ds K e
end
end Go.Ev
