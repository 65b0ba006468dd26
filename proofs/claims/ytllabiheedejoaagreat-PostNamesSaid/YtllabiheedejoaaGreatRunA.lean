/- Parts of the run: each statement from one written-out state to the next. -/
import Derived.Test.YtllabiheedejoaaGreatRunD
namespace Go.Proofs.YtllabiheedejoaaGreat.run
open Go Go.Ev
set_option maxRecDepth 10000000
theorem p0 : (execXW Tryz.prog primH 1000).run lawN none (nthC 0 lawC) t0 h0 [] (Chk t1 h1 []) = true := by kernel_rfl
theorem p5 : (execXW Tryz.prog primH 1000).run lawN none (nthC 5 lawC) t5 h5 [] (Chk t6 h6 []) = true := by kernel_rfl
theorem p7 : (execXW Tryz.prog primH 1000).run lawN none (nthC 7 lawC) t7 h7 [] (Chk t8 h8 []) = true := by kernel_rfl
theorem p8 : (execXW Tryz.prog primH 1000).run lawN none (nthC 8 lawC) t8 h8 [] (Chk t9 h9 []) = true := by kernel_rfl
theorem p9 : (execXW Tryz.prog primH 1000).run lawN none (nthC 9 lawC) t9 h9 [] (Chk t10 h10 []) = true := by kernel_rfl
theorem p10 : (execXW Tryz.prog primH 1000).run lawN none (nthC 10 lawC) t10 h10 [] (Chk t11 h11 []) = true := by kernel_rfl
theorem p11 : (execXW Tryz.prog primH 1000).run lawN none (nthC 11 lawC) t11 h11 [] (Chk t12 h12 []) = true := by kernel_rfl
theorem p12 : (execXW Tryz.prog primH 1000).run lawN none (nthC 12 lawC) t12 h12 [] (Chk t13 h13 []) = true := by kernel_rfl
theorem p13 : (execXW Tryz.prog primH 1000).run lawN none (nthC 13 lawC) t13 h13 [] (Chk t14 h14 []) = true := by kernel_rfl
theorem p14 : (execXW Tryz.prog primH 1000).run lawN none (nthC 14 lawC) t14 h14 [] (Chk t15 h15 []) = true := by kernel_rfl
theorem p15 : (execXW Tryz.prog prim1 1000).run lawN none (nthC 15 lawC) t15 h15 [] (Chk t16 h16 []) = true := by kernel_rfl
theorem p16 : (execXW Tryz.prog primH 1000).run lawN none (restC 16 lawC) t16 h16 [] (finish Tryz.prog lawF Kt) = true := by kernel_rfl
end Go.Proofs.YtllabiheedejoaaGreat.run
