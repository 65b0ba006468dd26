import Derived.Test.YthgmipngikdknaaGreatAwD
/- Parts of the run: each statement from one written-out state to the next. -/
namespace Go.Proofs.YthgmipngikdknaaGreat.aw
open Go Go.Ev
set_option maxRecDepth 10000000
theorem p0:(lM Tryz.prog prim0 1000).run lawN none (nthC 0 lawC) t0 h0 [] (Chk t1 h1 []) = true:=by kernel_rfl
theorem p8:(lM Tryz.prog prim0 1000).run lawN none (restC 8 lawC) t8 h8 [] (finish Tryz.prog lawF Kt) = true:=by kernel_rfl
end Go.Proofs.YthgmipngikdknaaGreat.aw
