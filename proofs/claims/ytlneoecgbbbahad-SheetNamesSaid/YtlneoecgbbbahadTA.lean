/- The first examples of the document are returned: a row of the table. -/
import Derived.Test.YtlneoecgbbbahadAw
import Derived.Test.YtlneoecgbbbahadTZ
namespace Go.Proofs
open Go Go.Ev
set_option maxRecDepth 10000000 in
theorem awake_row : RowOk Try.prog 17 [] (.bool true) := by
  refine ⟨rfl, rfl, ⟨Try.f17, (Try.f17.body).getD .skip, by kernel_rfl, rfl, by kernel_rfl⟩, fun w hw => ?_⟩
  have s := Ytlneoecgbbbahad.aw.run_all
  have hN : Ytlneoecgbbbahad.aw.lawN = Ytlneoecgbbbahad.aw.lawF.ntmps := by kernel_rfl
  have hG : Ytlneoecgbbbahad.aw.h0 = ⟨.leaf, Try.prog.globals.size, .leaf⟩ := by rw [show Try.prog.globals.size = 0 from by kernel_rfl]; rfl
  rw [hN, hG] at s
  exact truly_parts (by kernel_rfl) (by kernel_rfl) (by kernel_rfl) s hw

theorem prim1_sound : PrimSound Try.prog prim1 := by
  intro g l h v e
  unfold prim1 at e
  cases h1 : Nat.beq g 17 with
  | true =>
    rw [h1, cond_true] at e
    obtain rfl := Nat.eq_of_beq_eq_true h1
    split at e
    · cases e
      exact awake_row.prim h
    · cases e
  | false =>
    rw [h1, cond_false] at e
    cases e
end Go.Proofs
