/- Parts of the run: each statement from one written-out state to the next. -/
import Derived.Test.YtjedggkiiplohaaRunD
namespace Go.Proofs.Ytjedggkiiplohaa.run
open Go Go.Ev
set_option maxRecDepth 10000000
theorem p0 : (execXW Try.prog prim0 1000).run lawN none (nthC 0 lawC) t0 h0 [] (Chk t1 h1 []) = true := by kernel_rfl
theorem p2 : (execXW Try.prog prim0 1000).run lawN none (nthC 2 lawC) t2 h2 [] (Chk t3 h3 []) = true := by kernel_rfl
theorem p3 : (execXW Try.prog prim0 1000).run lawN none (nthC 3 lawC) t3 h3 [] (Chk t4 h4 []) = true := by kernel_rfl
theorem p4 : (execXW Try.prog prim0 1000).run lawN none (nthC 4 lawC) t4 h4 [] (Chk t5 h5 []) = true := by kernel_rfl
theorem p5 : (execXW Try.prog prim0 1000).run lawN none (nthC 5 lawC) t5 h5 [] (Chk t6 h6 []) = true := by kernel_rfl
theorem p6 : (execXW Try.prog prim0 1000).run lawN none (nthC 6 lawC) t6 h6 [] (Chk t7 h7 []) = true := by kernel_rfl
theorem p7 : (execXW Try.prog prim0 1000).run lawN none (nthC 7 lawC) t7 h7 [] (Chk t8 h8 []) = true := by kernel_rfl
theorem p8 : (execXW Try.prog prim0 1000).run lawN none (nthC 8 lawC) t8 h8 [] (Chk t9 h9 []) = true := by kernel_rfl
theorem p9 : (execXW Try.prog prim0 1000).run lawN none (nthC 9 lawC) t9 h9 [] (Chk t10 h10 []) = true := by kernel_rfl
theorem p10 : (execXW Try.prog prim0 1000).run lawN none (nthC 10 lawC) t10 h10 [] (Chk t11 h11 []) = true := by kernel_rfl
theorem p12 : (execXW Try.prog prim0 1000).run lawN none (restC 12 lawC) t12 h12 [] (finish Try.prog lawF Kt) = true := by kernel_rfl
end Go.Proofs.Ytjedggkiiplohaa.run
