/- The run of the law, out of its parts. -/
import Derived.Test.YtlneoecgbbbahadAwA
import Derived.Test.YtlneoecgbbbahadAwB
import Derived.Test.YtlneoecgbbbahadAwC
import Derived.Test.YtlneoecgbbbahadAwE
import Derived.Test.YtlneoecgbbbahadAwF
import Derived.Test.YtlneoecgbbbahadAwG
import Derived.Test.YtlneoecgbbbahadHS
namespace Go.Proofs.Ytlneoecgbbbahad.aw
open Go Go.Ev
set_option maxRecDepth 10000000
theorem at_runX {pr : Prim} (hp : PrimSound Try.prog pr) {n : Nat} {rd : Option Nat} {t : T Value} {h : AHeap} {ds : List Nat} {K : KT} {fuel : Nat} {c : Code} (e : (execXW Try.prog pr fuel).run n rd c t h ds K = true) : SoundAt Try.prog n rd c t h ds K := by
  rw [execXW_eq] at e
  exact execX_sound (drawSound hmixT) hp fuel n rd c t h ds K e
theorem run_all : SoundAt Try.prog lawN none lawC t0 h0 [] (finish Try.prog lawF Kt) :=
  at_nth (k := 0) (c := lawC) (by kernel_rfl) (at_runX prim0_sound p0) (at_nth (k := 1) (c := lawC) (by kernel_rfl) (at_runX prim0_sound p1) (at_nth (k := 2) (c := lawC) (by kernel_rfl) (at_runX prim0_sound p2) (at_nth (k := 3) (c := lawC) (by kernel_rfl) (at_runX prim0_sound p3) (at_nth (k := 4) (c := lawC) (by kernel_rfl) (at_runX prim0_sound p4) (at_nth (k := 5) (c := lawC) (by kernel_rfl) (at_runX primH_sound p5) (at_nth (k := 6) (c := lawC) (by kernel_rfl) (at_runX primH_sound p6) (at_nth (k := 7) (c := lawC) (by kernel_rfl) (at_runX prim0_sound p7) (at_nth (k := 8) (c := lawC) (by kernel_rfl) (at_runX prim0_sound p8) (at_runX prim0_sound p9)))))))))
end Go.Proofs.Ytlneoecgbbbahad.aw
