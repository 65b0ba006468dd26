/- Parts of the run: each statement from one written-out state to the next. -/
import Derived.Test.YtnlmonmeapbblaaGreatRunD
namespace Go.Proofs.YtnlmonmeapbblaaGreat.run
open Go Go.Ev
set_option maxRecDepth 10000000
theorem p10 : (execXW Tryz.prog prim0 1000).run lawN none (nthC 10 lawC) t10 h10 [] (Chk t11 h11 []) = true := by kernel_rfl
theorem p11 : (execXW Tryz.prog prim0 1000).run lawN none (nthC 11 lawC) t11 h11 [] (Chk t12 h12 []) = true := by kernel_rfl
theorem p12 : (execXW Tryz.prog prim0 1000).run lawN none (nthC 12 lawC) t12 h12 [] (Chk t13 h13 []) = true := by kernel_rfl
theorem p13 : (execXW Tryz.prog prim0 1000).run lawN none (nthC 13 lawC) t13 h13 [] (Chk t14 h14 []) = true := by kernel_rfl
theorem p14 : (execXW Tryz.prog prim0 1000).run lawN none (nthC 14 lawC) t14 h14 [] (Chk t15 h15 []) = true := by kernel_rfl
theorem p15 : (execXW Tryz.prog prim0 1000).run lawN none (nthC 15 lawC) t15 h15 [] (Chk t16 h16 []) = true := by kernel_rfl
theorem p16 : (execXW Tryz.prog prim0 1000).run lawN none (nthC 16 lawC) t16 h16 [] (Chk t17 h17 []) = true := by kernel_rfl
end Go.Proofs.YtnlmonmeapbblaaGreat.run
