import Derived.Test.YtljjooaplpkmcacGreatDoorAwA
import Derived.Test.YtljjooaplpkmcacGreatDoorAwB
import Derived.Test.YtljjooaplpkmcacGreatDoorAwC
import Derived.Test.YtljjooaplpkmcacGreatDoorAwE
import Derived.Test.YtljjooaplpkmcacGreatDoorAwH
import Derived.Test.YtljjooaplpkmcacGreatDoorAwG
import Derived.Test.YtljjooaplpkmcacGreatDoorAwF
import Derived.Test.YtljjooaplpkmcacGreatDoorU6
import Derived.Test.YtljjooaplpkmcacGreatDoorTK
import Derived.Test.YtljjooaplpkmcacGreatDoorRunA
import Derived.Test.YtljjooaplpkmcacGreatDoorRunB
import Derived.Test.YtljjooaplpkmcacGreatDoorRunC
import Derived.Test.YtljjooaplpkmcacGreatDoorRunE
import Derived.Test.YtljjooaplpkmcacGreatDoorRunF
import Derived.Test.YtljjooaplpkmcacGreatDoorRunG
import Derived.Test.YtljjooaplpkmcacGreatDoorRunH
/- The run of the law, out of its parts. -/
namespace Go.Proofs.YtljjooaplpkmcacGreatDoor.aw
open Go Go.Ev
set_option maxRecDepth 10000000
theorem at_runX {pr : Prim} (hp : PrimSound Tryz.prog pr) {n : Nat} {rd : Option Nat} {t : T Value} {h : AHeap} {ds : List Nat} {K : KT} {fuel : Nat} {c : Code} (e : (execXW Tryz.prog pr fuel).run n rd c t h ds K = true) : SoundAt Tryz.prog n rd c t h ds K := by
  rw [execXW_eq] at e
  exact execX_sound (drawSound hmixT) hp fuel n rd c t h ds K e
theorem round_sound : SoundAt Tryz.prog n0 none a0 u2 g2 [] (Chk u3 g3 []) := by
  have hl := at_runX prim3_sound r4
  unfold KX at hl
  rw [show a0 = .seq (nthC 0 a0) (.block 0 (.loop lb)) from by kernel_rfl]
  exact at_seq (at_runX prim3_sound q2) (at_block (at_loop (at_runX prim3_sound r0) (at_loop (at_runX prim3_sound r1) (at_loop (at_runX prim3_sound r2) (at_loop (at_runX prim3_sound r3) hl)))))
theorem cut_sound : CutSound Tryz.prog cut := by
  refine cut_of (fn := f0) (c := b0) (by kernel_rfl) (by kernel_rfl) (by kernel_rfl) (by kernel_rfl) ?_
  exact at_nth (k := 0) (c := b0) (by kernel_rfl) (at_runX prim3_sound q0) (at_nth (k := 1) (c := b0) (by kernel_rfl) (at_runX prim3_sound q1) (at_nth (k := 2) (c := b0) (by kernel_rfl) round_sound (at_runX prim3_sound q3)))
theorem run_all : SoundAt Tryz.prog lawN none lawC t0 h0 [] (finish Tryz.prog lawF Kt) :=
  at_nth (k := 0) (c := lawC) (by kernel_rfl) (at_runX prim3_sound p0) (at_nth (k := 1) (c := lawC) (by kernel_rfl) (at_runX prim3_sound p1) (at_nth (k := 2) (c := lawC) (by kernel_rfl) (at_runX prim3_sound p2) (at_nth (k := 3) (c := lawC) (by kernel_rfl) (at_runX prim3_sound p3) (at_nth (k := 4) (c := lawC) (by kernel_rfl) (at_cut hmixT prim3_sound cut_sound p4) (at_nth (k := 5) (c := lawC) (by kernel_rfl) (at_runX prim3_sound p5) (at_nth (k := 6) (c := lawC) (by kernel_rfl) (at_runX prim3_sound p6) (at_nth (k := 7) (c := lawC) (by kernel_rfl) (at_runX prim3_sound p7) (at_runX prim3_sound p8))))))))
end Go.Proofs.YtljjooaplpkmcacGreatDoor.aw

/- The first examples of the document are returned: a row of the table. -/
namespace Go.Proofs
open Go Go.Ev
set_option maxRecDepth 10000000 in
theorem awake_row : RowOk Tryz.prog 16 [] (.bool true) := by
  refine ⟨rfl, rfl, ⟨Tryz.f16, (Tryz.f16.body).getD .skip, by kernel_rfl, rfl, by kernel_rfl⟩, fun w hw => ?_⟩
  have s := YtljjooaplpkmcacGreatDoor.aw.run_all
  have hN : YtljjooaplpkmcacGreatDoor.aw.lawN = YtljjooaplpkmcacGreatDoor.aw.lawF.ntmps := by kernel_rfl
  have hG : YtljjooaplpkmcacGreatDoor.aw.h0 = ⟨.leaf, Tryz.prog.globals.size, .leaf⟩ := by rw [show Tryz.prog.globals.size = 6 from by kernel_rfl]; rfl
  rw [hN, hG] at s
  exact truly_parts (by kernel_rfl) (by kernel_rfl) (by kernel_rfl) s hw

theorem prim4_sound : PrimSound Tryz.prog prim4 := by
  intro g l h v e
  unfold prim4 at e
  cases h1 : Nat.beq g 16 with
  | true =>
    rw [h1, cond_true] at e
    obtain rfl := Nat.eq_of_beq_eq_true h1
    split at e
    · cases e
      exact awake_row.prim h
    · cases e
  | false =>
    rw [h1, cond_false] at e
    exact prim3_sound g l h v e
end Go.Proofs

/- The run of the law, out of its parts. -/
namespace Go.Proofs.YtljjooaplpkmcacGreatDoor.run
open Go Go.Ev
set_option maxRecDepth 10000000
theorem at_runX {pr : Prim} (hp : PrimSound Tryz.prog pr) {n : Nat} {rd : Option Nat} {t : T Value} {h : AHeap} {ds : List Nat} {K : KT} {fuel : Nat} {c : Code} (e : (execXW Tryz.prog pr fuel).run n rd c t h ds K = true) : SoundAt Tryz.prog n rd c t h ds K := by
  rw [execXW_eq] at e
  exact execX_sound (drawSound hmixT) hp fuel n rd c t h ds K e
theorem run_all : SoundAt Tryz.prog lawN none lawC t0 h0 [] (finish Tryz.prog lawF Kt) :=
  at_nth (k := 0) (c := lawC) (by kernel_rfl) (at_runX prim3_sound p0) (at_nth (k := 1) (c := lawC) (by kernel_rfl) (at_runX prim3_sound p1) (at_nth (k := 2) (c := lawC) (by kernel_rfl) (at_runX prim3_sound p2) (at_nth (k := 3) (c := lawC) (by kernel_rfl) (at_runX prim3_sound p3) (at_nth (k := 4) (c := lawC) (by kernel_rfl) (at_runX prim3_sound p4) (at_nth (k := 5) (c := lawC) (by kernel_rfl) (at_runX prim3_sound p5) (at_nth (k := 6) (c := lawC) (by kernel_rfl) (at_runX prim3_sound p6) (at_nth (k := 7) (c := lawC) (by kernel_rfl) (at_runX prim3_sound p7) (at_nth (k := 8) (c := lawC) (by kernel_rfl) (at_runX prim3_sound p8) (at_nth (k := 9) (c := lawC) (by kernel_rfl) (at_runX prim3_sound p9) (at_nth (k := 10) (c := lawC) (by kernel_rfl) (at_runX prim3_sound p10) (at_nth (k := 11) (c := lawC) (by kernel_rfl) (at_runX prim3_sound p11) (at_nth (k := 12) (c := lawC) (by kernel_rfl) (at_runX prim3_sound p12) (at_nth (k := 13) (c := lawC) (by kernel_rfl) (at_runX prim3_sound p13) (at_nth (k := 14) (c := lawC) (by kernel_rfl) (at_runX prim3_sound p14) (at_nth (k := 15) (c := lawC) (by kernel_rfl) (at_runX prim3_sound p15) (at_nth (k := 16) (c := lawC) (by kernel_rfl) (at_runX prim3_sound p16) (at_nth (k := 17) (c := lawC) (by kernel_rfl) (at_runX prim3_sound p17) (at_nth (k := 18) (c := lawC) (by kernel_rfl) (at_runX prim3_sound p18) (at_nth (k := 19) (c := lawC) (by kernel_rfl) (at_runX prim3_sound p19) (at_nth (k := 20) (c := lawC) (by kernel_rfl) (at_runX prim3_sound p20) (at_nth (k := 21) (c := lawC) (by kernel_rfl) (at_runX prim3_sound p21) (at_nth (k := 22) (c := lawC) (by kernel_rfl) (at_runX prim4_sound p22) (at_runX prim3_sound p23)))))))))))))))))))))))
end Go.Proofs.YtljjooaplpkmcacGreatDoor.run
