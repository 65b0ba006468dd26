/- A closed call that the evaluator finds true. -/
import Derived.Test.YtlneoecgbbbahacGreatDoorEv21
namespace Go.Ev
open Go.RowKit

theorem wr_start {P : Program} {w : World} (hw : P.globals.size ≤ w.heap.size) : WR P ⟨fun g => if g < P.globals.size then some (g, 0) else none, fun _ => none⟩ w ⟨.leaf, P.globals.size, .leaf⟩ w where
  obj := fun b o e => by simp [T.get] at e
  fresh := fun b hb => ⟨by simp; omega, by simp [T.get]⟩
  spn := fun _ _ => rfl
  spf := fun _ _ _ _ _ => rfl
  spr := fun b B d z E _ h => by cases h
  dom := fun b B d h => by
    simp only at h
    split at h
    · cases h; omega
    · cases h
  apart := fun b₁ b₂ o₁ o₂ B d₁ d₂ h => by simp [T.get] at h
  kin := fun b c f h => by simp [T.get] at h
  fam := fun b c f ro h => by simp [T.get] at h
  below := Below.refl _ _
  glob := fun g hg => by simp [hg]

theorem truly_sound {P : Program} (hmix : P.follows .mixedOrders = true) {fuel : Nat} {f : FuncId} {fn : Func} (hf : P.funcs[f]? = some fn) (hb0 : fn.body.isSome = true) (e : truly P fuel f ⟨.leaf, P.globals.size, .leaf⟩ = true) {w : World} (hw : P.globals.size ≤ w.heap.size) :
    Calls P f #[] w fun e w' => e = .returned (.bool true) ∧ Below w.heap.size w w' := by
  obtain ⟨c, hb⟩ := Option.isSome_iff_exists.1 hb0
  unfold truly callFunc1 at e
  rw [hf] at e
  simp only [hb] at e
  have hs := exec_sound (P := P) (drawSound hmix) fuel
  obtain ⟨_, k⟩ := callBody_sound (rd := none) (nn := 0) hs hf hb (wr_start hw) (.nil) e (R := fun v' w' => v' = .bool true ∧ Below w.heap.size w w') (fun m' v v' h' w' hle hv hW hK => by
    cases v with
    | bool b =>
      cases hv
      simp only at hK
      subst hK
      exact ⟨rfl, hW.below⟩
    | _ => simp at hK)
  have k2 : CallsIn Fence.wide 0 P f #[] w _ := k
  refine (callsIn_wide.1 k2).mono fun e w' he => ?_
  cases e with
  | returned v => exact ⟨by rw [he.1], he.2⟩
  | panicked _ => exact he.elim
  | outgrown => exact he.elim

end Go.Ev
