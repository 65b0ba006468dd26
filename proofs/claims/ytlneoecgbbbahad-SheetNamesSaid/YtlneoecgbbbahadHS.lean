/- The rows are right. -/
import Derived.Test.YtlneoecgbbbahadH0
import Derived.Test.YtlneoecgbbbahadH1
import Derived.Test.YtlneoecgbbbahadH2
import Derived.Test.YtlneoecgbbbahadH3
import Derived.Test.YtlneoecgbbbahadH4
import Derived.Test.YtlneoecgbbbahadH5
import Derived.Test.YtlneoecgbbbahadH6
import Derived.Test.YtlneoecgbbbahadH7
import Derived.Test.YtlneoecgbbbahadH8
import Derived.Test.YtlneoecgbbbahadH9
namespace Go.Proofs
open Go Go.Ev
set_option maxRecDepth 10000000
theorem gsz : Try.prog.globals.size = 0 := by kernel_rfl
theorem at_row {pr : Prim} (hp : PrimSound Try.prog pr) {n : Nat} {rd : Option Nat} {t : T Value} {h : AHeap} {ds : List Nat} {K : KT} {fuel : Nat} {c : Code} (e : (execXW Try.prog pr fuel).run n rd c t h ds K = true) : SoundAt Try.prog n rd c t h ds K := by
  rw [execXW_eq] at e
  exact execX_sound (drawSound hmixT) hp fuel n rd c t h ds K e
theorem ok_ra0 : HOk Try.prog ra0 := by
  refine ⟨by rw [gsz]; decide, rfl, Try.f35, (Try.f35.body).getD .skip, by kernel_rfl, rfl, by kernel_rfl, by kernel_rfl, ?_⟩
  rw [gsz]
  exact at_row prim0_sound run_ra0
theorem ok_ra1 : HOk Try.prog ra1 := by
  refine ⟨by rw [gsz]; decide, rfl, Try.f35, (Try.f35.body).getD .skip, by kernel_rfl, rfl, by kernel_rfl, by kernel_rfl, ?_⟩
  rw [gsz]
  exact at_row prim0_sound run_ra1
theorem ok_ra2 : HOk Try.prog ra2 := by
  refine ⟨by rw [gsz]; decide, rfl, Try.f35, (Try.f35.body).getD .skip, by kernel_rfl, rfl, by kernel_rfl, by kernel_rfl, ?_⟩
  rw [gsz]
  exact at_row prim0_sound run_ra2
theorem ok_ra3 : HOk Try.prog ra3 := by
  refine ⟨by rw [gsz]; decide, rfl, Try.f35, (Try.f35.body).getD .skip, by kernel_rfl, rfl, by kernel_rfl, by kernel_rfl, ?_⟩
  rw [gsz]
  exact at_row prim0_sound run_ra3
theorem ok_ra4 : HOk Try.prog ra4 := by
  refine ⟨by rw [gsz]; decide, rfl, Try.f35, (Try.f35.body).getD .skip, by kernel_rfl, rfl, by kernel_rfl, by kernel_rfl, ?_⟩
  rw [gsz]
  exact at_row prim0_sound run_ra4
theorem ok_ra5 : HOk Try.prog ra5 := by
  refine ⟨by rw [gsz]; decide, rfl, Try.f35, (Try.f35.body).getD .skip, by kernel_rfl, rfl, by kernel_rfl, by kernel_rfl, ?_⟩
  rw [gsz]
  exact at_row prim0_sound run_ra5
theorem ok_ra6 : HOk Try.prog ra6 := by
  refine ⟨by rw [gsz]; decide, rfl, Try.f35, (Try.f35.body).getD .skip, by kernel_rfl, rfl, by kernel_rfl, by kernel_rfl, ?_⟩
  rw [gsz]
  exact at_row prim0_sound run_ra6
theorem ok_ra7 : HOk Try.prog ra7 := by
  refine ⟨by rw [gsz]; decide, rfl, Try.f35, (Try.f35.body).getD .skip, by kernel_rfl, rfl, by kernel_rfl, by kernel_rfl, ?_⟩
  rw [gsz]
  exact at_row prim0_sound run_ra7
theorem ok_ra8 : HOk Try.prog ra8 := by
  refine ⟨by rw [gsz]; decide, rfl, Try.f35, (Try.f35.body).getD .skip, by kernel_rfl, rfl, by kernel_rfl, by kernel_rfl, ?_⟩
  rw [gsz]
  exact at_row prim0_sound run_ra8
theorem ok_ra9 : HOk Try.prog ra9 := by
  refine ⟨by rw [gsz]; decide, rfl, Try.f35, (Try.f35.body).getD .skip, by kernel_rfl, rfl, by kernel_rfl, by kernel_rfl, ?_⟩
  rw [gsz]
  exact at_row prim0_sound run_ra9
theorem all_ra : ∀ r, r ∈ ras → HOk Try.prog r := by
  intro r hr
  simp only [ras, List.mem_cons, List.not_mem_nil, or_false] at hr
  rcases hr with rfl | rfl | rfl | rfl | rfl | rfl | rfl | rfl | rfl | rfl
  · exact ok_ra0
  · exact ok_ra1
  · exact ok_ra2
  · exact ok_ra3
  · exact ok_ra4
  · exact ok_ra5
  · exact ok_ra6
  · exact ok_ra7
  · exact ok_ra8
  · exact ok_ra9
theorem primH_sound : PrimSound Try.prog primH := hprim_sound gsz prim0_sound all_ra
end Go.Proofs
