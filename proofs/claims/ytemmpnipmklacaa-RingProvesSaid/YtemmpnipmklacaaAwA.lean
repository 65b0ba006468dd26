import Derived.Test.YtemmpnipmklacaaAwD
/- Parts of the run: each statement from one written-out state to the next. -/
namespace Go.Proofs.Ytemmpnipmklacaa.aw
open Go Go.Ev
set_option maxRecDepth 10000000
theorem p0 : (execXW Try.prog prim0 1000).run lawN none (nthC 0 lawC) t0 h0 [] (Chk t1 h1 []) = true := by kernel_rfl
theorem p1 : (execXW Try.prog prim0 1000).run lawN none (nthC 1 lawC) t1 h1 [] (Chk t2 h2 []) = true := by kernel_rfl
theorem p2 : (execXW Try.prog prim0 1000).run lawN none (nthC 2 lawC) t2 h2 [] (Chk t3 h3 []) = true := by kernel_rfl
theorem p3 : (execXW Try.prog prim0 1000).run lawN none (nthC 3 lawC) t3 h3 [] (Chk t4 h4 []) = true := by kernel_rfl
theorem p7 : (execXW Try.prog prim0 1000).run lawN none (nthC 7 lawC) t7 h7 [] (Chk t8 h8 []) = true := by kernel_rfl
theorem p8 : (execXW Try.prog prim0 1000).run lawN none (restC 8 lawC) t8 h8 [] (finish Try.prog lawF Kt) = true := by kernel_rfl
end Go.Proofs.Ytemmpnipmklacaa.aw
