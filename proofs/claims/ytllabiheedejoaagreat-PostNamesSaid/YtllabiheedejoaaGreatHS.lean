/- The rows are right. -/
import Derived.Test.YtllabiheedejoaaGreatH0
import Derived.Test.YtllabiheedejoaaGreatH1
import Derived.Test.YtllabiheedejoaaGreatH2
import Derived.Test.YtllabiheedejoaaGreatH3
import Derived.Test.YtllabiheedejoaaGreatH4
namespace Go.Proofs
open Go Go.Ev
set_option maxRecDepth 10000000
theorem gsz : Tryz.prog.globals.size = 0 := by kernel_rfl
theorem at_row {pr : Prim} (hp : PrimSound Tryz.prog pr) {n : Nat} {rd : Option Nat} {t : T Value} {h : AHeap} {ds : List Nat} {K : KT} {fuel : Nat} {c : Code} (e : (execXW Tryz.prog pr fuel).run n rd c t h ds K = true) : SoundAt Tryz.prog n rd c t h ds K := by
  rw [execXW_eq] at e
  exact execX_sound (drawSound hmixT) hp fuel n rd c t h ds K e
theorem ok_ra0 : HOk Tryz.prog ra0 := by
  refine ⟨by rw [gsz]; decide, rfl, Tryz.f21, (Tryz.f21.body).getD .skip, by kernel_rfl, rfl, by kernel_rfl, by kernel_rfl, ?_⟩
  rw [gsz]
  exact at_row prim0_sound run_ra0
theorem ok_ra1 : HOk Tryz.prog ra1 := by
  refine ⟨by rw [gsz]; decide, rfl, Tryz.f21, (Tryz.f21.body).getD .skip, by kernel_rfl, rfl, by kernel_rfl, by kernel_rfl, ?_⟩
  rw [gsz]
  exact at_row prim0_sound run_ra1
theorem ok_ra2 : HOk Tryz.prog ra2 := by
  refine ⟨by rw [gsz]; decide, rfl, Tryz.f21, (Tryz.f21.body).getD .skip, by kernel_rfl, rfl, by kernel_rfl, by kernel_rfl, ?_⟩
  rw [gsz]
  exact at_row prim0_sound run_ra2
theorem ok_ra3 : HOk Tryz.prog ra3 := by
  refine ⟨by rw [gsz]; decide, rfl, Tryz.f21, (Tryz.f21.body).getD .skip, by kernel_rfl, rfl, by kernel_rfl, by kernel_rfl, ?_⟩
  rw [gsz]
  exact at_row prim0_sound run_ra3
theorem ok_ra4 : HOk Tryz.prog ra4 := by
  refine ⟨by rw [gsz]; decide, rfl, Tryz.f31, (Tryz.f31.body).getD .skip, by kernel_rfl, rfl, by kernel_rfl, by kernel_rfl, ?_⟩
  rw [gsz]
  exact at_row prim0_sound run_ra4
theorem all_ra : ∀ r, r ∈ ras → HOk Tryz.prog r := by
  intro r hr
  simp only [ras, List.mem_cons, List.not_mem_nil, or_false] at hr
  rcases hr with rfl | rfl | rfl | rfl | rfl
  · exact ok_ra0
  · exact ok_ra1
  · exact ok_ra2
  · exact ok_ra3
  · exact ok_ra4
theorem primH_sound : PrimSound Tryz.prog primH := hprim_sound gsz prim0_sound all_ra
end Go.Proofs
