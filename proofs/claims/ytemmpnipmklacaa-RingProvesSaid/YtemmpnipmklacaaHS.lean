import Derived.Test.YtemmpnipmklacaaH0
import Derived.Test.YtemmpnipmklacaaH1
import Derived.Test.YtemmpnipmklacaaH2
import Derived.Test.YtemmpnipmklacaaH3
import Derived.Test.YtemmpnipmklacaaH4
import Derived.Test.YtemmpnipmklacaaH5
import Derived.Test.YtemmpnipmklacaaH6
/- The rows are right. -/
namespace Go.Proofs
open Go Go.Ev
set_option maxRecDepth 10000000
theorem gsz : Try.prog.globals.size = 0 := by kernel_rfl
theorem at_row {pr : Prim} (hp : PrimSound Try.prog pr) {n : Nat} {rd : Option Nat} {t : T Value} {h : AHeap} {ds : List Nat} {K : KT} {fuel : Nat} {c : Code} (e : (execXW Try.prog pr fuel).run n rd c t h ds K = true) : SoundAt Try.prog n rd c t h ds K := by
  rw [execXW_eq] at e
  exact execX_sound (drawSound hmixT) hp fuel n rd c t h ds K e
theorem ok_ra0 : HOk Try.prog ra0 := by
  refine ⟨by rw [gsz]; decide, rfl, Try.f62, (Try.f62.body).getD .skip, by kernel_rfl, rfl, by kernel_rfl, by kernel_rfl, ?_⟩
  rw [gsz]
  exact at_row prim0_sound run_ra0
theorem ok_ra1 : HOk Try.prog ra1 := by
  refine ⟨by rw [gsz]; decide, rfl, Try.f62, (Try.f62.body).getD .skip, by kernel_rfl, rfl, by kernel_rfl, by kernel_rfl, ?_⟩
  rw [gsz]
  exact at_row prim0_sound run_ra1
theorem ok_ra2 : HOk Try.prog ra2 := by
  refine ⟨by rw [gsz]; decide, rfl, Try.f62, (Try.f62.body).getD .skip, by kernel_rfl, rfl, by kernel_rfl, by kernel_rfl, ?_⟩
  rw [gsz]
  exact at_row prim0_sound run_ra2
theorem ok_ra3 : HOk Try.prog ra3 := by
  refine ⟨by rw [gsz]; decide, rfl, Try.f62, (Try.f62.body).getD .skip, by kernel_rfl, rfl, by kernel_rfl, by kernel_rfl, ?_⟩
  rw [gsz]
  exact at_row prim0_sound run_ra3
theorem ok_ra4 : HOk Try.prog ra4 := by
  refine ⟨by rw [gsz]; decide, rfl, Try.f62, (Try.f62.body).getD .skip, by kernel_rfl, rfl, by kernel_rfl, by kernel_rfl, ?_⟩
  rw [gsz]
  exact at_row prim0_sound run_ra4
theorem ok_ra5 : HOk Try.prog ra5 := by
  refine ⟨by rw [gsz]; decide, rfl, Try.f62, (Try.f62.body).getD .skip, by kernel_rfl, rfl, by kernel_rfl, by kernel_rfl, ?_⟩
  rw [gsz]
  exact at_row prim0_sound run_ra5
theorem ok_ra6 : HOk Try.prog ra6 := by
  refine ⟨by rw [gsz]; decide, rfl, Try.f62, (Try.f62.body).getD .skip, by kernel_rfl, rfl, by kernel_rfl, by kernel_rfl, ?_⟩
  rw [gsz]
  exact at_row prim0_sound run_ra6
theorem ok_ra7 : HOk Try.prog ra7 := by
  refine ⟨by rw [gsz]; decide, rfl, Try.f62, (Try.f62.body).getD .skip, by kernel_rfl, rfl, by kernel_rfl, by kernel_rfl, ?_⟩
  rw [gsz]
  exact at_row prim0_sound run_ra7
theorem ok_ra8 : HOk Try.prog ra8 := by
  refine ⟨by rw [gsz]; decide, rfl, Try.f62, (Try.f62.body).getD .skip, by kernel_rfl, rfl, by kernel_rfl, by kernel_rfl, ?_⟩
  rw [gsz]
  exact at_row prim0_sound run_ra8
theorem ok_ra9 : HOk Try.prog ra9 := by
  refine ⟨by rw [gsz]; decide, rfl, Try.f62, (Try.f62.body).getD .skip, by kernel_rfl, rfl, by kernel_rfl, by kernel_rfl, ?_⟩
  rw [gsz]
  exact at_row prim0_sound run_ra9
theorem ok_ra10 : HOk Try.prog ra10 := by
  refine ⟨by rw [gsz]; decide, rfl, Try.f62, (Try.f62.body).getD .skip, by kernel_rfl, rfl, by kernel_rfl, by kernel_rfl, ?_⟩
  rw [gsz]
  exact at_row prim0_sound run_ra10
theorem ok_ra11 : HOk Try.prog ra11 := by
  refine ⟨by rw [gsz]; decide, rfl, Try.f62, (Try.f62.body).getD .skip, by kernel_rfl, rfl, by kernel_rfl, by kernel_rfl, ?_⟩
  rw [gsz]
  exact at_row prim0_sound run_ra11
theorem ok_ra12 : HOk Try.prog ra12 := by
  refine ⟨by rw [gsz]; decide, rfl, Try.f62, (Try.f62.body).getD .skip, by kernel_rfl, rfl, by kernel_rfl, by kernel_rfl, ?_⟩
  rw [gsz]
  exact at_row prim0_sound run_ra12
theorem ok_ra13 : HOk Try.prog ra13 := by
  refine ⟨by rw [gsz]; decide, rfl, Try.f62, (Try.f62.body).getD .skip, by kernel_rfl, rfl, by kernel_rfl, by kernel_rfl, ?_⟩
  rw [gsz]
  exact at_row prim0_sound run_ra13
theorem ok_ra14 : HOk Try.prog ra14 := by
  refine ⟨by rw [gsz]; decide, rfl, Try.f62, (Try.f62.body).getD .skip, by kernel_rfl, rfl, by kernel_rfl, by kernel_rfl, ?_⟩
  rw [gsz]
  exact at_row prim0_sound run_ra14
theorem ok_ra15 : HOk Try.prog ra15 := by
  refine ⟨by rw [gsz]; decide, rfl, Try.f62, (Try.f62.body).getD .skip, by kernel_rfl, rfl, by kernel_rfl, by kernel_rfl, ?_⟩
  rw [gsz]
  exact at_row prim0_sound run_ra15
theorem ok_ra16 : HOk Try.prog ra16 := by
  refine ⟨by rw [gsz]; decide, rfl, Try.f62, (Try.f62.body).getD .skip, by kernel_rfl, rfl, by kernel_rfl, by kernel_rfl, ?_⟩
  rw [gsz]
  exact at_row prim0_sound run_ra16
theorem ok_ra17 : HOk Try.prog ra17 := by
  refine ⟨by rw [gsz]; decide, rfl, Try.f62, (Try.f62.body).getD .skip, by kernel_rfl, rfl, by kernel_rfl, by kernel_rfl, ?_⟩
  rw [gsz]
  exact at_row prim0_sound run_ra17
theorem ok_ra18 : HOk Try.prog ra18 := by
  refine ⟨by rw [gsz]; decide, rfl, Try.f62, (Try.f62.body).getD .skip, by kernel_rfl, rfl, by kernel_rfl, by kernel_rfl, ?_⟩
  rw [gsz]
  exact at_row prim0_sound run_ra18
theorem all_ra : ∀ r, r ∈ ras → HOk Try.prog r := by
  intro r hr
  simp only [ras, List.mem_cons, List.not_mem_nil, or_false] at hr
  rcases hr with rfl | rfl | rfl | rfl | rfl | rfl | rfl | rfl | rfl | rfl | rfl | rfl | rfl | rfl | rfl | rfl | rfl | rfl | rfl
  · exact ok_ra0
  · exact ok_ra1
  · exact ok_ra2
  · exact ok_ra3
  · exact ok_ra4
  · exact ok_ra5
  · exact ok_ra6
  · exact ok_ra7
  · exact ok_ra8
  · exact ok_ra9
  · exact ok_ra10
  · exact ok_ra11
  · exact ok_ra12
  · exact ok_ra13
  · exact ok_ra14
  · exact ok_ra15
  · exact ok_ra16
  · exact ok_ra17
  · exact ok_ra18
theorem primH_sound : PrimSound Try.prog primH := hprim_sound gsz prim0_sound all_ra
end Go.Proofs
