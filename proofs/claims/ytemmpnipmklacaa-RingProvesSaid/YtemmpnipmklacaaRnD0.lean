import Derived.Test.YtemmpnipmklacaaRnA
namespace Go.Proofs.Rg
open Go Go.Ev Go.RowKit
set_option linter.unusedSimpArgs false

theorem neq0 : (!decide ((0 : Int) = 0)) = false := rfl
theorem eq00 : decide ((0 : Int) = 0) = true := rfl
theorem eq22 : decide ((2 : Int) = 2) = true := rfl
theorem neq_self (x : Int) : (!decide (x = x)) = false := by simp
theorem eq_self' (x : Int) : decide (x = x) = true := by simp
theorem len0 {h : AHeap} {v : Value} (k : IAt h v []) (t : T Value) (h1 : AHeap) (o : Oper) : rLen Try.prog t h1 o 27 v = some (iv 0) := k.len isI t h1 o

/-- What is in the table. -/
structure Tab (pr : Prim) : Prop where
  off : Off pr
  awake : ∀ h, pr 9 [] h = some (.bool true)

variable {pr : Prim} {R : ExT}
theorem ints_self (S : Ev.Steps Try.prog pr R) (h0 : AHeap) (av bv : Value) (a : List Int) (ha : IAt h0 av a) (hb : IAt h0 bv a) (hsz : (a.length : Int) ≤ 1000000) :
    Brings Try.prog R 16 [av, bv] h0 fun v h => v = .bool true ∧ h = h0 := fun K hK =>
  ints_y S h0 av bv a a ha hb hsz K fun v h' hk e => hK v h' hk ⟨by rw [e.1, decide_eq_true rfl], e.2⟩
end Go.Proofs.Rg
