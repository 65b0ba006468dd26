import Derived.Test.YtnlmonmeapbblaaGreatEv45
/- Quotients. -/
namespace Go.Ev
open Go.RowKit
section
variable {P : Program} {t : T Value} {dst : Option Tmp} {ty a b : TypeId} {pos : String} {af : Array Edge} {g : Option (Nat × Bool)} {x y : Operand} {i j : Int}
theorem bin_quo (hx : ev P t x = .int .i64 i) (hy : ev P t y = .int .i64 j) (hj : j ≠ 0) (h1 : -9223372036854775808 ≤ i.tdiv j) (h2 : i.tdiv j < 9223372036854775808) :
    rBin P t ⟨dst, .binOp .quo a x y b, ty, pos, af, g⟩ .quo a (.int .i64 j) (.int .i64 i) = some (.int .i64 (i.tdiv j)) := by
  show ground P t _ = _
  have e1 : evL P t (Op.operands (.binOp .quo a x y b)).toList = [.int .i64 i, .int .i64 j] := by simp only [Op.operands, evL, hx, hy]
  have ew : IntKind.i64.wrap (i.tdiv j) = i.tdiv j := by
    rw [← wrapF_eq, wrap64 _ h1 h2]
  have e6 : pureOf P (execOp (ev P t) ⟨dst, .binOp .quo a x y b, ty, pos, af, g⟩) = some (.value (.int .i64 (i.tdiv j))) := by
    simp [execOp, hx, hy, binOp, Op.intDiv, hj, ew, eqGuard, pureOf, bind, Sem.bind, pure]
  unfold ground
  rw [e1, e6]
  rfl
end
end Go.Ev
