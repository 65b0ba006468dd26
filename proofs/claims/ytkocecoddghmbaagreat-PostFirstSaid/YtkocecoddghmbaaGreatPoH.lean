import Derived.Test.YtkocecoddghmbaaGreatPoN
import Derived.Test.YtkocecoddghmbaaGreatPoS
import Derived.Test.YtkocecoddghmbaaGreatPp6
import Derived.Test.YtkocecoddghmbaaGreatEvE
/- Copies onto which can be appended; structs compared in the program's regions that draw their order. -/
namespace Go.Proofs.Po
open Go Go.Ev Go.RowKit
set_option linter.unusedSimpArgs false
variable {pr : Prim} {R : ExT}
section
variable {P : Program} {h : AHeap} {call : CallT} {ops : Array Oper} {n : Nat} {rest : List Oper} {t : T Value} {KR : T Value → AHeap → Bool} {dst : Option Tmp} {v : Value} {l : List Int} {a e : TypeId} {x : Operand}
end
section
variable {P : Program} {n : Nat} {t : T Value} {h : AHeap} {ops : Array Oper} {call : CallT} {fl : Nat} {ids : List (Nat × Nat)} {f : Nat} {l : List Info} {i m done : Nat} {hist : List Seen} {KR : T Value → AHeap → Bool} {ty : TypeId} {pos : String} {af : Array Edge} {g : Option (Nat × Bool)} {d : Tmp}
end
/-- Truth values at two temporaries, compared. -/
theorem neqB {i j : Nat} (hij : i ≠ j) {t : T Value} {ty : TypeId} {pos : String} {af : Array Edge} {g : Option (Nat × Bool)} {dst : Option Tmp} {p q : Bool} (h1 : tget t i = .bool p) (h2 : tget t j = .bool q)
    (hr : ground Tryz.prog (T.set (j + 1) (T.set (i + 1) .leaf i (.bool p)) j (.bool q)) ⟨dst, .binOp .neq 4 (.tmp i) (.tmp j) 4, ty, pos, af, g⟩ = some (.bool (p != q))) :
    rBin Tryz.prog t ⟨dst, .binOp .neq 4 (.tmp i) (.tmp j) 4, ty, pos, af, g⟩ .neq 4 (.bool q) (.bool p) = some (.bool (p != q)) := by
  rw [rBin_bool, nilB]
  exact bin_congr (t' := T.set (j + 1) (T.set (i + 1) .leaf i (.bool p)) j (.bool q)) h1 h2 (by rw [tget_ne (Nat.lt_succ_self _) hij, tget_eq (Nat.lt_succ_self _)]) (tget_eq (Nat.lt_succ_self _)) hr
end Go.Proofs.Po
