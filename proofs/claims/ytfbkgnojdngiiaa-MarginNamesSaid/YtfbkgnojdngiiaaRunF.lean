/- Parts of the run: each statement from one written-out state to the next. -/
import Derived.Test.YtfbkgnojdngiiaaRunD
namespace Go.Proofs.Ytfbkgnojdngiiaa.run
open Go Go.Ev
set_option maxRecDepth 10000000
theorem p13 : (execXW Try.prog prim0 1000).run lawN none (nthC 13 lawC) t13 h13 [] (Chk t14 h14 []) = true := by kernel_rfl
theorem p14 : (execXW Try.prog prim0 1000).run lawN none (nthC 14 lawC) t14 h14 [] (Chk t15 h15 []) = true := by kernel_rfl
theorem p15 : (execXW Try.prog prim0 1000).run lawN none (nthC 15 lawC) t15 h15 [] (Chk t16 h16 []) = true := by kernel_rfl
theorem p29 : (execXW Try.prog prim1 1000).run lawN none (nthC 29 lawC) t29 h29 [] (Chk t30 h30 []) = true := by kernel_rfl
end Go.Proofs.Ytfbkgnojdngiiaa.run
