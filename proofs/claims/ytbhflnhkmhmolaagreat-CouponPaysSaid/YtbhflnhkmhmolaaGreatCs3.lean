import Derived.Test.YtbhflnhkmhmolaaGreatCs2
import Derived.Test.YtbhflnhkmhmolaaGreatCn8
/- CouponWhole: what each house has registered, in shares and units, is as the document says. -/
namespace Go.Proofs.Cp
open Go Go.Ev Go.RowKit
set_option linter.unusedSimpArgs false

theorem reg_eq {c : Co} (hv : Val c) (a b : List Int) (day : Int) : regL c a b day = heldL c a b day := by
  have hl := hv.held
  have h4 := hv.h4
  have h1 : (regL c a b day).length = c.held.length := by unfold regL; rw [List.length_take, holdP_len]; omega
  have h2 : (heldL c a b day).length = c.held.length := by unfold heldL; rw [heldFrom_len]
  refine List.ext_getElem (h1.trans h2.symm) fun i hi hj => ?_
  have e1 := hold_end hv a b day i
  have e2 := held_end hv a b day i
  rw [List.getD_eq_getElem?_getD, List.getElem?_eq_getElem (by rw [holdP_len]; omega)] at e1
  rw [List.getD_eq_getElem?_getD, List.getElem?_eq_getElem hj] at e2
  have e3 : (regL c a b day)[i] = (holdP c (datesL c a b) day (byQ day))[i]'(by rw [holdP_len]; omega) := by
    unfold regL
    exact List.getElem_take
  rw [e3]
  exact e1.trans e2.symm
theorem thin_nil {c : Co} {a b : List Int} (h : thinB c a b = true) : thinB c [] [] = true ∧ a.length ≤ 7 ∧ b.length ≤ 7 := by
  unfold thinB at h ⊢
  simp only [Bool.and_eq_true, decide_eq_true_eq] at h ⊢
  obtain ⟨h1, h2, h3, h4, h5, h6, h7⟩ := h
  exact ⟨⟨h1, h2, h3, h4, h5, by decide, by decide⟩, by omega, by omega⟩
theorem prU2 (x y : Value) : partL Tryz.prog 30 [x, y] 0 = some (.agg ⟨[x, y]⟩) := part_0 (l := [x, y]) prU rfl
variable {pr : Prim} {R : ExT}
end Go.Proofs.Cp
