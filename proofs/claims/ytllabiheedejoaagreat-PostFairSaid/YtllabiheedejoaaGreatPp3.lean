import Derived.Test.YtllabiheedejoaaGreatPp2
/- What the reference does with the same orders (nothing of the program in it). -/
namespace Go.Proofs.Po
open Go Go.Ev
/-! ## The same steps -/
theorem pick_zero {O : List Od} {lf : List Int} {a : Nat} (h : lg lf a ≤ 0) : ∀ (l : List Nat) (acc : Option Nat), pickZ O lf a l acc = acc
  | [], acc => rfl
  | r :: l, acc => by
    have : canB O lf a r = false := by unfold canB; rw [decide_eq_false (by omega)]; rfl
    unfold pickZ stepP
    rw [this, Bool.false_and, cond_false]
    exact pick_zero h l acc
end Go.Proofs.Po
