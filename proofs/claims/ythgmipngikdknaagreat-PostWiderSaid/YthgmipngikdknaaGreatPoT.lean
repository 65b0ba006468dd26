import Derived.Test.YthgmipngikdknaaGreatPo2
import Derived.Test.YthgmipngikdknaaGreatTA
/- The table. -/
namespace Go.Proofs.Po
open Go Go.Ev
abbrev primR:Prim:=prim1
theorem primR_sound:kK Tryz.prog primR:=prim1_sound
theorem primR_tab:Tab primR where
 off:=fun g l h hg=>by
  unfold offB at hg
  simp only [Bool.not_eq_true'] at hg
  show prim1 g l h = none
  unfold prim1
  rw [hg,cond_false]
 awake:=fun _=>rfl
end Go.Proofs.Po
