import Derived.Test.YthgmipngikdknaaGreatAwA
import Derived.Test.YthgmipngikdknaaGreatAwB
import Derived.Test.YthgmipngikdknaaGreatAwC
import Derived.Test.YthgmipngikdknaaGreatAwE
import Derived.Test.YthgmipngikdknaaGreatAwF
import Derived.Test.YthgmipngikdknaaGreatAwG
import Derived.Test.YthgmipngikdknaaGreatAwH
import Derived.Test.YthgmipngikdknaaGreatAwI
import Derived.Test.YthgmipngikdknaaGreatTS
import Derived.Test.YthgmipngikdknaaGreatTZ
/- The run of the law, out of its parts. -/
namespace Go.Proofs.YthgmipngikdknaaGreat.aw
open Go Go.Ev
set_option maxRecDepth 10000000
theorem nS {pr:Prim} (hp:kK Tryz.prog pr) {n:Nat} {rd:Option Nat} {t:T Value} {h:AHeap} {ds:List Nat} {K:KT} {fuel:Nat} {c:Code} (e:(lM Tryz.prog pr fuel).run n rd c t h ds K = true):kU Tryz.prog n rd c t h ds K:=by
 rw [execXW_eq] at e
 exact execX_sound (drawSound hmixT) hp fuel n rd c t h ds K e
theorem run_all:kU Tryz.prog lawN none lawC t0 h0 [] (finish Tryz.prog lawF Kt):=
 sU (k:=0) (c:=lawC) (by kernel_rfl) (nS prim0_sound p0) (sU (k:=1) (c:=lawC) (by kernel_rfl) (nS prim0_sound p1) (sU (k:=2) (c:=lawC) (by kernel_rfl) (nS prim0_sound p2) (sU (k:=3) (c:=lawC) (by kernel_rfl) (nS prim0_sound p3) (sU (k:=4) (c:=lawC) (by kernel_rfl) (nS prim0_sound p4) (sU (k:=5) (c:=lawC) (by kernel_rfl) (nS prim0_sound p5) (sU (k:=6) (c:=lawC) (by kernel_rfl) (nS prim0_sound p6) (sU (k:=7) (c:=lawC) (by kernel_rfl) (nS prim0_sound p7) (nS prim0_sound p8))))))))
end Go.Proofs.YthgmipngikdknaaGreat.aw

/- The first examples of the document are returned: a row of the table. -/
namespace Go.Proofs
open Go Go.Ev
set_option maxRecDepth 10000000 in
theorem awake_row:RowOk Tryz.prog 11 [] (.bool true):=by
 refine ⟨rfl,rfl,⟨Tryz.f11,(Tryz.f11.body).getD .skip,by kernel_rfl,rfl,by kernel_rfl⟩,fun w hw=>?_⟩
 have s:=YthgmipngikdknaaGreat.aw.run_all
 have hN:YthgmipngikdknaaGreat.aw.lawN = YthgmipngikdknaaGreat.aw.lawF.ntmps:=by kernel_rfl
 have hG:YthgmipngikdknaaGreat.aw.h0 = ⟨.leaf,Tryz.prog.globals.size,.leaf⟩:=by rw [show Tryz.prog.globals.size = 0 from by kernel_rfl]; rfl
 rw [hN,hG] at s
 exact truly_parts (by kernel_rfl) (by kernel_rfl) (by kernel_rfl) s hw

theorem prim1_sound:kK Tryz.prog prim1:=by
 intro g l h v e
 unfold prim1 at e
 cases h1:Nat.beq g 11 with
 | true =>
  rw [h1,cond_true] at e
  obtain rfl:=Nat.eq_of_beq_eq_true h1
  split at e
  ·cases e
   exact awake_row.prim h
  ·cases e
 | false =>
  rw [h1,cond_false] at e
  cases e
end Go.Proofs
