import Derived.Test.YthgmipngikdknaaGreatPoM
/- The law's helpers; whether a list is a truth, and how orders come, by the reference. -/
namespace Go.Proofs.Po
open Go Go.Ev Go.RowKit
set_option linter.unusedSimpArgs false
variable {pr:Prim} {R:ExT}
section
variable {P:Program} {h:AHeap} {call:CallT} {ops:Array Oper} {n:Nat} {rest:List Oper} {t:T Value} {KR:T Value → AHeap → Bool} {dst:Option Tmp} {v:Value} {l:List Int} {a e:TypeId} {x:Operand}
end

/-! ## Structs of integers, compared -/
def gX (x y:Sa):Bool:=beqI x.bu y.bu && (beqI x.se y.se && (beqI x.nu y.nu && beqI x.pr y.pr))
theorem eqInts_Sa (x y:Sa):eqInts (cSa x) (cSa y) = some (gX x y):=by
 have hk:beqKind IntKind.i64 IntKind.i64 = true:=rfl
 unfold cSa gX
 simp only [eqInts,hk,cond_true]
 cases beqI x.bu y.bu<;>cases beqI x.se y.se<;>cases beqI x.nu y.nu<;>cases beqI x.pr y.pr<;>rfl
/-! ## Whether a list is a truth, by the reference -/
end Go.Proofs.Po
