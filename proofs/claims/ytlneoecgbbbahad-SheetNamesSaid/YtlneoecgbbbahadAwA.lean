/- Parts of the run: each statement from one written-out state to the next. -/
import Derived.Test.YtlneoecgbbbahadAwD
namespace Go.Proofs.Ytlneoecgbbbahad.aw
open Go Go.Ev
set_option maxRecDepth 10000000
theorem p0 : (execXW Try.prog prim0 1000).run lawN none (nthC 0 lawC) t0 h0 [] (Chk t1 h1 []) = true := by kernel_rfl
theorem p5 : (execXW Try.prog primH 1000).run lawN none (nthC 5 lawC) t5 h5 [] (Chk t6 h6 []) = true := by kernel_rfl
theorem p6 : (execXW Try.prog primH 1000).run lawN none (nthC 6 lawC) t6 h6 [] (Chk t7 h7 []) = true := by kernel_rfl
theorem p8 : (execXW Try.prog prim0 1000).run lawN none (nthC 8 lawC) t8 h8 [] (Chk t9 h9 []) = true := by kernel_rfl
theorem p9 : (execXW Try.prog prim0 1000).run lawN none (restC 9 lawC) t9 h9 [] (finish Try.prog lawF Kt) = true := by kernel_rfl
end Go.Proofs.Ytlneoecgbbbahad.aw
