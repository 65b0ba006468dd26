/- The run of the law, out of its parts. -/
import Derived.Test.YtlneoecgbbbahadRunA
import Derived.Test.YtlneoecgbbbahadRunB
import Derived.Test.YtlneoecgbbbahadRunC
import Derived.Test.YtlneoecgbbbahadRunE
import Derived.Test.YtlneoecgbbbahadRunF
import Derived.Test.YtlneoecgbbbahadRunG
import Derived.Test.YtlneoecgbbbahadRunH
import Derived.Test.YtlneoecgbbbahadRunI
import Derived.Test.YtlneoecgbbbahadTB
namespace Go.Proofs.Ytlneoecgbbbahad.run
open Go Go.Ev
set_option maxRecDepth 10000000
theorem at_runX {pr : Prim} (hp : PrimSound Try.prog pr) {n : Nat} {rd : Option Nat} {t : T Value} {h : AHeap} {ds : List Nat} {K : KT} {fuel : Nat} {c : Code} (e : (execXW Try.prog pr fuel).run n rd c t h ds K = true) : SoundAt Try.prog n rd c t h ds K := by
  rw [execXW_eq] at e
  exact execX_sound (drawSound hmixT) hp fuel n rd c t h ds K e
theorem run_all : SoundAt Try.prog lawN none lawC t0 h0 [] (finish Try.prog lawF Kt) :=
  at_nth (k := 0) (c := lawC) (by kernel_rfl) (at_runX prim0_sound p0) (at_nth (k := 1) (c := lawC) (by kernel_rfl) (at_runX prim0_sound p1) (at_nth (k := 2) (c := lawC) (by kernel_rfl) (at_runX prim0_sound p2) (at_nth (k := 3) (c := lawC) (by kernel_rfl) (at_runX prim0_sound p3) (at_nth (k := 4) (c := lawC) (by kernel_rfl) (at_runX prim0_sound p4) (at_nth (k := 5) (c := lawC) (by kernel_rfl) (at_runX prim0_sound p5) (at_nth (k := 6) (c := lawC) (by kernel_rfl) (at_runX prim0_sound p6) (at_nth (k := 7) (c := lawC) (by kernel_rfl) (at_runX primH_sound p7) (at_nth (k := 8) (c := lawC) (by kernel_rfl) (at_runX prim0_sound p8) (at_nth (k := 9) (c := lawC) (by kernel_rfl) (at_runX primH_sound p9) (at_nth (k := 10) (c := lawC) (by kernel_rfl) (at_runX prim0_sound p10) (at_nth (k := 11) (c := lawC) (by kernel_rfl) (at_runX prim0_sound p11) (at_nth (k := 12) (c := lawC) (by kernel_rfl) (at_runX prim0_sound p12) (at_nth (k := 13) (c := lawC) (by kernel_rfl) (at_runX prim0_sound p13) (at_nth (k := 14) (c := lawC) (by kernel_rfl) (at_runX prim0_sound p14) (at_nth (k := 15) (c := lawC) (by kernel_rfl) (at_runX prim0_sound p15) (at_nth (k := 16) (c := lawC) (by kernel_rfl) (at_runX prim0_sound p16) (at_nth (k := 17) (c := lawC) (by kernel_rfl) (at_runX prim0_sound p17) (at_nth (k := 18) (c := lawC) (by kernel_rfl) (at_runX prim0_sound p18) (at_nth (k := 19) (c := lawC) (by kernel_rfl) (at_runX prim0_sound p19) (at_nth (k := 20) (c := lawC) (by kernel_rfl) (at_runX prim0_sound p20) (at_nth (k := 21) (c := lawC) (by kernel_rfl) (at_runX prim0_sound p21) (at_nth (k := 22) (c := lawC) (by kernel_rfl) (at_runX prim0_sound p22) (at_nth (k := 23) (c := lawC) (by kernel_rfl) (at_runX prim1_sound p23) (at_runX prim0_sound p24))))))))))))))))))))))))
end Go.Proofs.Ytlneoecgbbbahad.run
