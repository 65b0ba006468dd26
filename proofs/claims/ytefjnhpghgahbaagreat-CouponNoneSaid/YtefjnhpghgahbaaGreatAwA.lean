import Derived.Test.YtefjnhpghgahbaaGreatAwD
/- Parts of the run: each statement from one written-out state to the next. -/
namespace Go.Proofs.YtefjnhpghgahbaaGreat.aw
open Go Go.Ev
set_option maxRecDepth 10000000
theorem p0:(execXW Tryz.prog prim0 1000).run lawN none (nthC 0 lawC) t0 h0 [] (Chk t1 h1 []) = true:=by kernel_rfl
theorem p1:(execXW Tryz.prog prim0 1000).run lawN none (nthC 1 lawC) t1 h1 [] (Chk t2 h2 []) = true:=by kernel_rfl
theorem p2:(execXW Tryz.prog prim0 1000).run lawN none (nthC 2 lawC) t2 h2 [] (Chk t3 h3 []) = true:=by kernel_rfl
theorem p3:(execXW Tryz.prog prim0 1000).run lawN none (nthC 3 lawC) t3 h3 [] (Chk t4 h4 []) = true:=by kernel_rfl
theorem p4:(execXW Tryz.prog prim0 1000).run lawN none (nthC 4 lawC) t4 h4 [] (Chk t5 h5 []) = true:=by kernel_rfl
theorem p5:(execXW Tryz.prog prim0 1000).run lawN none (nthC 5 lawC) t5 h5 [] (Chk t6 h6 []) = true:=by kernel_rfl
theorem p8:(execXW Tryz.prog prim0 1000).run lawN none (nthC 8 lawC) t8 h8 [] (Chk t9 h9 []) = true:=by kernel_rfl
theorem p9:(execXW Tryz.prog prim0 1000).run lawN none (restC 9 lawC) t9 h9 [] (finish Tryz.prog lawF Kt) = true:=by kernel_rfl
end Go.Proofs.YtefjnhpghgahbaaGreat.aw
