import Derived.Test.YthgmipngikdknaaGreatAwD
/- Parts of the run: each statement from one written-out state to the next. -/
namespace Go.Proofs.YthgmipngikdknaaGreat.aw
open Go Go.Ev
set_option maxRecDepth 10000000
theorem p4:(lM Tryz.prog prim0 1000).run lawN none (nthC 4 lawC) t4 h4 [] (Chk t5 h5 []) = true:=by kernel_rfl
end Go.Proofs.YthgmipngikdknaaGreat.aw
