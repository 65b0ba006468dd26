/- Parts of the run: each statement from one written-out state to the next. -/
import Derived.Test.YthgengjgkhobcaaGreatRunD
namespace Go.Proofs.YthgengjgkhobcaaGreat.run
open Go Go.Ev
set_option maxRecDepth 10000000
theorem p0 : (execXW Tryz.prog prim0 1000).run lawN none (nthC 0 lawC) t0 h0 [] (Chk t1 h1 []) = true := by kernel_rfl
theorem p13 : (execXW Tryz.prog prim0 1000).run lawN none (nthC 13 lawC) t13 h13 [] (Chk t14 h14 []) = true := by kernel_rfl
theorem p14 : (execXW Tryz.prog prim0 1000).run lawN none (nthC 14 lawC) t14 h14 [] (Chk t15 h15 []) = true := by kernel_rfl
theorem p15 : (execXW Tryz.prog prim0 1000).run lawN none (nthC 15 lawC) t15 h15 [] (Chk t16 h16 []) = true := by kernel_rfl
theorem p16 : (execXW Tryz.prog prim0 1000).run lawN none (nthC 16 lawC) t16 h16 [] (Chk t17 h17 []) = true := by kernel_rfl
theorem p17 : (execXW Tryz.prog prim0 1000).run lawN none (nthC 17 lawC) t17 h17 [] (Chk t18 h18 []) = true := by kernel_rfl
theorem p18 : (execXW Tryz.prog prim0 1000).run lawN none (nthC 18 lawC) t18 h18 [] (Chk t19 h19 []) = true := by kernel_rfl
theorem p19 : (execXW Tryz.prog prim0 1000).run lawN none (nthC 19 lawC) t19 h19 [] (Chk t20 h20 []) = true := by kernel_rfl
theorem p20 : (execXW Tryz.prog prim0 1000).run lawN none (nthC 20 lawC) t20 h20 [] (Chk t21 h21 []) = true := by kernel_rfl
theorem p21 : (execXW Tryz.prog prim0 1000).run lawN none (nthC 21 lawC) t21 h21 [] (Chk t22 h22 []) = true := by kernel_rfl
theorem p22 : (execXW Tryz.prog prim0 1000).run lawN none (nthC 22 lawC) t22 h22 [] (Chk t23 h23 []) = true := by kernel_rfl
theorem p23 : (execXW Tryz.prog prim0 1000).run lawN none (nthC 23 lawC) t23 h23 [] (Chk t24 h24 []) = true := by kernel_rfl
theorem p26 : (execXW Tryz.prog prim0 1000).run lawN none (restC 26 lawC) t26 h26 [] (finish Tryz.prog lawF Kt) = true := by kernel_rfl
end Go.Proofs.YthgengjgkhobcaaGreat.run
