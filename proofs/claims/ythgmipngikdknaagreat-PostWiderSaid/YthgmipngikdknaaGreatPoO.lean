import Derived.Test.YthgmipngikdknaaGreatPoN
/- How orders come, by the reference; sales compared and converted. -/
namespace Go.Proofs.Po
open Go Go.Ev Go.RowKit
set_option linter.unusedSimpArgs false
variable {pr:Prim} {R:ExT}
theorem slAt_ne {h0 h:AHeap} {sz:Nat} {v:Value} {cs:List (List Value)} (k:SlAt h0 sz v cs) (hn:h0.nx ≤ h.nx) (hg:∀ j,blk v = some j → j < h0.nx → h.bl.get j = h0.bl.get j):SlAt h sz v cs:=by
 rcases k with k|⟨b,cap,f,ro,k1,rfl,k3,k4,k5⟩
 ·exact .inl k
 ·exact .inr ⟨b,cap,f,ro,k1,rfl,Nat.lt_of_lt_of_le k3 hn,(hg b rfl k3).trans k4,k5⟩
/-! ## Sales -/
end Go.Proofs.Po
