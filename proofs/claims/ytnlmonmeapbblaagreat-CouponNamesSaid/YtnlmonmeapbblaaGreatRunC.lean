/- Parts of the run: each statement from one written-out state to the next. -/
import Derived.Test.YtnlmonmeapbblaaGreatRunD
namespace Go.Proofs.YtnlmonmeapbblaaGreat.run
open Go Go.Ev
set_option maxRecDepth 10000000
theorem p17 : (execXW Tryz.prog prim0 1000).run lawN none (nthC 17 lawC) t17 h17 [] (Chk t18 h18 []) = true := by kernel_rfl
theorem p18 : (execXW Tryz.prog prim0 1000).run lawN none (nthC 18 lawC) t18 h18 [] (Chk t19 h19 []) = true := by kernel_rfl
theorem p19 : (execXW Tryz.prog prim0 1000).run lawN none (nthC 19 lawC) t19 h19 [] (Chk t20 h20 []) = true := by kernel_rfl
theorem p20 : (execXW Tryz.prog prim0 1000).run lawN none (nthC 20 lawC) t20 h20 [] (Chk t21 h21 []) = true := by kernel_rfl
theorem p21 : (execXW Tryz.prog prim0 1000).run lawN none (nthC 21 lawC) t21 h21 [] (Chk t22 h22 []) = true := by kernel_rfl
theorem p22 : (execXW Tryz.prog prim0 1000).run lawN none (nthC 22 lawC) t22 h22 [] (Chk t23 h23 []) = true := by kernel_rfl
theorem p23 : (execXW Tryz.prog prim0 1000).run lawN none (nthC 23 lawC) t23 h23 [] (Chk t24 h24 []) = true := by kernel_rfl
theorem p24 : (execXW Tryz.prog prim0 1000).run lawN none (nthC 24 lawC) t24 h24 [] (Chk t25 h25 []) = true := by kernel_rfl
theorem p25 : (execXW Tryz.prog prim0 1000).run lawN none (nthC 25 lawC) t25 h25 [] (Chk t26 h26 []) = true := by kernel_rfl
theorem p26 : (execXW Tryz.prog prim0 1000).run lawN none (nthC 26 lawC) t26 h26 [] (Chk t27 h27 []) = true := by kernel_rfl
theorem p27 : (execXW Tryz.prog prim0 1000).run lawN none (nthC 27 lawC) t27 h27 [] (Chk t28 h28 []) = true := by kernel_rfl
end Go.Proofs.YtnlmonmeapbblaaGreat.run
