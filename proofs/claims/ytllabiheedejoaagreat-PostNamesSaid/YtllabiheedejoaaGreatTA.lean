/- The first examples of the document are returned: a row of the table. -/
import Derived.Test.YtllabiheedejoaaGreatAw
import Derived.Test.YtllabiheedejoaaGreatTZ
namespace Go.Proofs
open Go Go.Ev
set_option maxRecDepth 10000000 in
theorem awake_row : RowOk Tryz.prog 11 [] (.bool true) := by
  refine ⟨rfl, rfl, ⟨Tryz.f11, (Tryz.f11.body).getD .skip, by kernel_rfl, rfl, by kernel_rfl⟩, fun w hw => ?_⟩
  have s := YtllabiheedejoaaGreat.aw.run_all
  have hN : YtllabiheedejoaaGreat.aw.lawN = YtllabiheedejoaaGreat.aw.lawF.ntmps := by kernel_rfl
  have hG : YtllabiheedejoaaGreat.aw.h0 = ⟨.leaf, Tryz.prog.globals.size, .leaf⟩ := by rw [show Tryz.prog.globals.size = 0 from by kernel_rfl]; rfl
  rw [hN, hG] at s
  exact truly_parts (by kernel_rfl) (by kernel_rfl) (by kernel_rfl) s hw

theorem prim1_sound : PrimSound Tryz.prog prim1 := by
  intro g l h v e
  unfold prim1 at e
  cases h1 : Nat.beq g 11 with
  | true =>
    rw [h1, cond_true] at e
    obtain rfl := Nat.eq_of_beq_eq_true h1
    split at e
    · cases e
      exact awake_row.prim h
    · cases e
  | false =>
    rw [h1, cond_false] at e
    cases e
end Go.Proofs
