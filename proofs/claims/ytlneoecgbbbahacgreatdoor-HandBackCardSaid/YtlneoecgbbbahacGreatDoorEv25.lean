/- Calls whose results are known beforehand: a table beside the evaluator. -/
import Derived.Test.YtlneoecgbbbahacGreatDoorEv22
import Derived.Test.YtlneoecgbbbahacGreatDoorEv23
namespace Go.Ev
open Go.RowKit

/-- The results of some functions at some arguments. -/
abbrev Prim := FuncId → List Value → AHeap → Option Value

/-- Each row of the table is a contract: at every world that the heap stands for. -/
def PrimSound (P : Program) (pr : Prim) : Prop :=
  ∀ g l h v, pr g l h = some v → plainB v = true ∧ (∃ fn c, P.funcs[g]? = some fn ∧ fn.body = some c ∧ (fn.name == "runtime.NumGoroutine") = false) ∧
    ∀ (m : M) (w0 w : World) (l' : List Value), WR P m w0 h w → LR m l l' → Calls P g l'.toArray w fun e w' => e = .returned v ∧ Below w.heap.size w w'

def withPrim (pr : Prim) (call : CallT) : CallT := fun f args h K =>
  match f with
  | .func (.func g) first captured => (match pr g (first.toList ++ args ++ captured.toList) h with | some v => K v h | none => call (.func (.func g) first captured) args h K)
  | f => call f args h K

section
variable {P : Program} {m : M} {w0 w w' : World} {h : AHeap}

theorem WR.past (hW : WR P m w0 h w) (hB : Below w.heap.size w w') : WR P m w0 h w' where
  obj := fun b o e => by
    obtain ⟨B, d, k1, k2, k3, k4⟩ := hW.obj b o e
    exact ⟨B, d, k1, OR.frame (hB.block B (hW.dom _ _ _ k1)) k2, k3, k4⟩
  fresh := hW.fresh
  spn := hW.spn
  spf := hW.spf
  spr := fun b B d z E e1 e2 => by
    obtain ⟨k1, k2⟩ := hW.spr b B d z E e1 e2
    refine ⟨fun j h1 h2 => ?_, k2⟩
    obtain ⟨q1, q2⟩ := k1 j h1 h2
    rw [hB.cell (p := ⟨B, j, none⟩) (hW.dom _ _ _ e1), hB.frozen (p := ⟨B, j, none⟩) (hW.dom _ _ _ e1)]
    exact ⟨q1, q2⟩
  dom := fun b B d e => Nat.lt_of_lt_of_le (hW.dom b B d e) hB.size
  apart := hW.apart
  kin := hW.kin
  fam := hW.fam
  below := hW.below.trans (hB.mono hW.below.size)
  glob := hW.glob

theorem withPrim_sound {pr : Prim} (hp : PrimSound P pr) {call : CallT} (hc : CallSound P call) : CallSound P (withPrim pr call) := by
  intro m w0 w h fv fv' args args' K hW hf hargs e rd nn R hR
  unfold withPrim at e
  split at e
  · rename_i g first captured
    split at e
    · rename_i v hv
      cases hf with
      | @func _ _ first' _ captured' hf1 hf2 =>
        rw [run_ofValue]
        have hall : LR m (first.toList ++ args ++ captured.toList) (first'.toList ++ args' ++ captured'.toList) := (hf1.append hargs).append hf2
        have harr : (first' ++ args'.toArray ++ captured') = (first'.toList ++ args' ++ captured'.toList).toArray := by
          apply Array.toList_inj.1
          simp
        have hinv : ∀ w, (invoke (.fn (.func g) captured') (first' ++ args'.toArray)).run P w = (callFunc g (first'.toList ++ args' ++ captured'.toList).toArray).run P w := fun w => by
          simp only [invoke, harr]
        rw [hinv]
        obtain ⟨q2, ⟨fn, c, q3, q4, q5⟩, q6⟩ := hp g _ h v hv
        rw [run_callFunc q3 q4 q5]
        have k := callsIn_wide (n := nn).2 (q6 m w0 w _ hW hall)
        refine CallsIn.mono (F := Fence.wide) k ?_
        rintro e' w' ⟨rfl, hB⟩
        exact hR m v v h w' (M.le_refl m) (plain_rel m v q2) (hW.past hB) e
    · exact hc m w0 w h _ _ args args' K hW hf hargs e rd nn R hR
  · exact hc m w0 w h _ _ args args' K hW hf hargs e rd nn R hR

/-! ## The evaluator with a table -/
def execStepX (P : Program) (pr : Prim) (ex : ExT) : ExT := fun n rd c t h ds K =>
  match c with
  | .region _ ops draw => runRegion P (withPrim pr (callVal P ex)) ops draw n t h fun t h => K .normal t h ds
  | c => execStep P ex n rd c t h ds K

theorem wr_globals {m : M} (hW : WR P m w0 h w) : P.globals.size ≤ w.heap.size := by
  rcases Nat.eq_zero_or_pos P.globals.size with e | e
  · omega
  · have := hW.dom (P.globals.size - 1) _ _ (hW.glob (P.globals.size - 1) (by omega))
    omega

theorem execStepX_sound {ex : ExT} (hds : DrawSound P) {pr : Prim} (hp : PrimSound P pr) (hs : Sound P ex) : Sound P (execStepX P pr ex) := by
  intro n rd c t h ds K e m w0 w a rdc nn Q hW hT hD hrd hQ
  unfold execStepX at e
  split at e
  · have hcall := withPrim_sound hp (callVal_sound hs)
    refine ⟨region_wp hds hcall hW hT e fun m' t' h' a' w' hle hT' hW' hd hK => ?_, fun b hb => by cases hb⟩
    exact hQ .normal m' t' h' ds a' w' hle hW' hT' (by rw [hd]; exact hD.mono hle) hK
  · exact execStep_sound hds hs n rd c t h ds K e m w0 w a rdc nn Q hW hT hD hrd hQ

def execX (P : Program) (pr : Prim) : Nat → ExT
  | 0 => fun _ _ _ _ _ _ _ => false
  | Nat.succ f => execStepX P pr (execX P pr f)

theorem execX_sound (hds : DrawSound P) {pr : Prim} (hp : PrimSound P pr) : ∀ f, Sound P (execX P pr f)
  | 0 => by intro n rd c t h ds K e; cases e
  | f + 1 => execStepX_sound hds hp (execX_sound hds hp f)

/-! ## Its twin -/
def callValX (P : Program) (pr : Prim) (ex : ExT) (f : Value) (args : List Value) (h : AHeap) (K : Value → AHeap → Bool) : Bool :=
  match f with
  | .func (.func g) first captured =>
    match pr g (first.toList ++ args ++ captured.toList) h with
    | some v => fV v fun v => K v h
    | none => (callC P g).run ex (first.toList ++ args ++ captured.toList) h K
  | .func (.yield l) first _ => roundK ex l (first.toList ++ args) h K
  | _ => false

theorem callValX_eq (P : Program) (pr : Prim) (ex : ExT) : callValX P pr ex = withPrim pr (callVal P ex) := by
  funext f args h K
  cases f with
  | func fn a c =>
    cases fn with
    | func g =>
      simp only [callValX, withPrim, callVal, callC_eq, fV_eq]
    | _ => rfl
  | _ => rfl

def stepX (P : Program) (pr : Prim) (c : Code) : XW :=
  match c with
  | .region _ ops draw => ⟨fun ex n _ t h ds K => (regionC P ops draw).run (callValX P pr ex) n t h fun t h => K .normal t h ds⟩
  | c => stepC P c

theorem stepX_eq (P : Program) (pr : Prim) (c : Code) (ex : ExT) (n : Nat) (rd : Option Nat) (t : T Value) (h : AHeap) (ds : List Nat) (K : KT) : (stepX P pr c).run ex n rd t h ds K = execStepX P pr ex n rd c t h ds K := by
  unfold stepX execStepX
  split
  · simp only [regionC_eq, callValX_eq]
  · exact stepC_eq ..

def execXW (P : Program) (pr : Prim) : Nat → EXW
  | 0 => ⟨fun _ _ _ _ _ _ _ => false⟩
  | Nat.succ f => ⟨fun n rd c t h ds K => (stepX P pr c).run (execXW P pr f).run n rd t h ds K⟩

theorem execXW_eq (P : Program) (pr : Prim) : ∀ f, (execXW P pr f).run = execX P pr f
  | 0 => rfl
  | f + 1 => by
    funext n rd c t h ds K
    simp only [execXW, execX, stepX_eq, execXW_eq P pr f]
end
end Go.Ev
