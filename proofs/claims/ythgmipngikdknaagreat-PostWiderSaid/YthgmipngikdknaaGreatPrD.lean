import Derived.Test.YthgmipngikdknaaGreatPo5
import Derived.Test.YthgmipngikdknaaGreatPoL
/- Words, truths picked by them, orders that are ready. -/
namespace Go.Proofs.Po
open Nat (reduceEqDiff reduceAdd reduceSub)
open Go Go.Ev Go.RowKit
set_option linter.unusedSimpArgs false
section
variable {P:Program} {ops:Array Oper} {n f:Nat} {l:List Info} {done i m:Nat} {hist:List Seen} {t:T Value} {h:AHeap} {KR:T Value → AHeap → Bool} {call:CallT}
end
abbrev u8v (n:Int):Value:=.int .u8 n
theorem s8:bH Tryz.prog 5 = some 1:=by kernel_rfl
theorem p8 (c:List Value) (o:Nat):dD Tryz.prog 5 c o = c[o]?:=by kernel_rfl
theorem w_cv8 {x:Operand}:isW Tryz.prog (.convert 5 3 x) = false:=by
 show isDig Tryz.prog 5 3 = false
 kernel_rfl
variable {pr:Prim} {R:ExT}
/-- Thin, valid orders. -/
def readyB (O:List Od):Bool:=decide ((O.length:Int) ≤ 9) && decide (dY O = 0)
set_option maxHeartbeats 4000000 in
theorem ready_y (S:Ev.Steps Tryz.prog pr R) (hoff:Off pr) (h0:AHeap) (v:Value) (O:List Od) (hb:PoAt h0 v O) :
  bD Tryz.prog R 28 [.agg ⟨poV v⟩] h0 fun u _=>u = .bool (readyB O):=by
 refine aV (fn:=Tryz.f28) (c:=(Tryz.f28.body).getD .skip) (by kernel_rfl) rfl (by kernel_rfl) rfl (fun K hK=>?_)
 generalize hF:finish Tryz.prog Tryz.f28 K = KF
 simp only [Tryz.f28,Option.getD_some,bJ,aX,aZ,T.setK_eq,id]
 have hKn:∀ b,b = readyB O → ∀ g,Kp h0 g → K (.bool b) g = true:=fun b e g hk=>hK _ _ hk (by rw [e])
 clear hK
 unfold readyB at hKn
 repeat refine S.seq ?_
 refine S.region ?_
 simp (disch:=first|omega|simp only [aA,aB]<;>omega|decide) only [rUz,↓reduceIte,reduceEqDiff,reduceAdd]
 have hb1:(h0.add (poV v)).bl.get h0.nx = some (.cells (poV v) h0.nx false):=aP rfl
 have hk1:Kp h0 (h0.add (poV v)):=Kp.refl.add
 have hn1:h0.nx < (h0.add (poV v)).nx:=Nat.lt_succ_self _
 generalize h0.add (poV v) = H at hb1 hk1 hn1 ⊢
 generalize h0.nx = B1 at hb1 hn1 ⊢
 repeat refine S.seq ?_
 refine S.region ?_
 simp (disch:=first|omega|simp only [aA,aB]<;>omega|decide) only [rUz,↓reduceIte,reduceEqDiff,reduceAdd,hb1,bT pA (dR v)]
 refine bC (fid:=39) (first:=#[]) (captured:=#[]) (Post:=fun u _=>u = .bool (decide ((O.length:Int) ≤ 9))) rfl (hoff _ _ _ rfl) (by simp (disch:=first|omega|simp only [aA,aB]<;>omega|decide) only [rUz,↓reduceIte,reduceEqDiff,reduceAdd]; exact thin_y S H v O (hb.mono hk1)) ?_
 rintro u g hkg rfl
 replace hb1:=(hkg.get hn1).trans hb1
 replace hk1:=hk1.trans hkg
 cases h1:decide ((O.length:Int) ≤ 9) with
 | false =>
  rw [h1,Bool.false_and] at hKn
  simp (disch:=first|omega|simp only [aA,aB]<;>omega|decide) only [rUz,↓reduceIte,reduceEqDiff,reduceAdd,h1]
  refine S.ret ?_
  try simp only [aJ,aF]
  subst hF
  simp only [finish,aI]
  rw [show Tryz.f28.results.toList = [.tmp 2] from rfl]
  simp (disch:=first|omega|simp only [aA,aB]<;>omega|decide) only [bK,aY,aS,aT,aQ,aU,aO,upd_ne,aP,aW,result1]
  exact hKn _ rfl _ hk1
 | true =>
  rw [h1,Bool.true_and] at hKn
  simp (disch:=first|omega|simp only [aA,aB]<;>omega|decide) only [rUz,↓reduceIte,reduceEqDiff,reduceAdd,h1,hb1,bT pA (dR v)]
  refine bC (fid:=40) (first:=#[]) (captured:=#[]) (Post:=fun u _=>u = iv (dY O)) rfl (hoff _ _ _ rfl) (by simp (disch:=first|omega|simp only [aA,aB]<;>omega|decide) only [rUz,↓reduceIte,reduceEqDiff,reduceAdd]; exact rfault_y S hoff g v O (hb.mono hk1)) ?_
  rintro u g2 hkg2 rfl
  simp (disch:=first|omega|simp only [aA,aB]<;>omega|decide) only [rUz,↓reduceIte,reduceEqDiff,reduceAdd]
  refine S.ret ?_
  try simp only [aJ,aF]
  subst hF
  simp only [finish,aI]
  rw [show Tryz.f28.results.toList = [.tmp 2] from rfl]
  simp (disch:=first|omega|simp only [aA,aB]<;>omega|decide) only [bK,aY,aS,aT,aQ,aU,aO,upd_ne,aP,aW,result1]
  exact hKn _ rfl _ (hk1.trans hkg2)
end Go.Proofs.Po

/- A truth of valid orders, by words. -/
namespace Go.Proofs.Po
open Nat (reduceEqDiff reduceAdd reduceSub)
open Go Go.Ev Go.RowKit
set_option linter.unusedSimpArgs false
variable {pr:Prim} {R:ExT}
abbrev i1 (l:List Int):List (List Value):=l.map fun n=>[iv n]
end Go.Proofs.Po
