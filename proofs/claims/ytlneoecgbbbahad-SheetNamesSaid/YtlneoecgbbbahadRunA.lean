/- Parts of the run: each statement from one written-out state to the next. -/
import Derived.Test.YtlneoecgbbbahadRunD
namespace Go.Proofs.Ytlneoecgbbbahad.run
open Go Go.Ev
set_option maxRecDepth 10000000
theorem p0 : (execXW Try.prog prim0 1000).run lawN none (nthC 0 lawC) t0 h0 [] (Chk t1 h1 []) = true := by kernel_rfl
theorem p6 : (execXW Try.prog prim0 1000).run lawN none (nthC 6 lawC) t6 h6 [] (Chk t7 h7 []) = true := by kernel_rfl
theorem p7 : (execXW Try.prog primH 1000).run lawN none (nthC 7 lawC) t7 h7 [] (Chk t8 h8 []) = true := by kernel_rfl
theorem p8 : (execXW Try.prog prim0 1000).run lawN none (nthC 8 lawC) t8 h8 [] (Chk t9 h9 []) = true := by kernel_rfl
theorem p9 : (execXW Try.prog primH 1000).run lawN none (nthC 9 lawC) t9 h9 [] (Chk t10 h10 []) = true := by kernel_rfl
theorem p10 : (execXW Try.prog prim0 1000).run lawN none (nthC 10 lawC) t10 h10 [] (Chk t11 h11 []) = true := by kernel_rfl
theorem p11 : (execXW Try.prog prim0 1000).run lawN none (nthC 11 lawC) t11 h11 [] (Chk t12 h12 []) = true := by kernel_rfl
theorem p12 : (execXW Try.prog prim0 1000).run lawN none (nthC 12 lawC) t12 h12 [] (Chk t13 h13 []) = true := by kernel_rfl
theorem p13 : (execXW Try.prog prim0 1000).run lawN none (nthC 13 lawC) t13 h13 [] (Chk t14 h14 []) = true := by kernel_rfl
theorem p16 : (execXW Try.prog prim0 1000).run lawN none (nthC 16 lawC) t16 h16 [] (Chk t17 h17 []) = true := by kernel_rfl
theorem p17 : (execXW Try.prog prim0 1000).run lawN none (nthC 17 lawC) t17 h17 [] (Chk t18 h18 []) = true := by kernel_rfl
theorem p18 : (execXW Try.prog prim0 1000).run lawN none (nthC 18 lawC) t18 h18 [] (Chk t19 h19 []) = true := by kernel_rfl
theorem p19 : (execXW Try.prog prim0 1000).run lawN none (nthC 19 lawC) t19 h19 [] (Chk t20 h20 []) = true := by kernel_rfl
theorem p20 : (execXW Try.prog prim0 1000).run lawN none (nthC 20 lawC) t20 h20 [] (Chk t21 h21 []) = true := by kernel_rfl
theorem p21 : (execXW Try.prog prim0 1000).run lawN none (nthC 21 lawC) t21 h21 [] (Chk t22 h22 []) = true := by kernel_rfl
theorem p22 : (execXW Try.prog prim0 1000).run lawN none (nthC 22 lawC) t22 h22 [] (Chk t23 h23 []) = true := by kernel_rfl
theorem p23 : (execXW Try.prog prim1 1000).run lawN none (nthC 23 lawC) t23 h23 [] (Chk t24 h24 []) = true := by kernel_rfl
theorem p24 : (execXW Try.prog prim0 1000).run lawN none (restC 24 lawC) t24 h24 [] (finish Try.prog lawF Kt) = true := by kernel_rfl
end Go.Proofs.Ytlneoecgbbbahad.run
