import Derived.Test.YthgmipngikdknaaGreatPoB
/- Sorting by the library; arrivals. -/
set_option maxHeartbeats 16000000
set_option maxRecDepth 100000
namespace Go.Proofs.Po
open Nat (reduceEqDiff reduceAdd reduceSub)
open Go Go.Ev Go.RowKit
set_option linter.unusedSimpArgs false
variable {pr:Prim} {R:ExT}
theorem dg1:isDig Tryz.prog 184 5 = false:=by kernel_rfl
theorem dg2:isDig Tryz.prog 5 3 = false:=by kernel_rfl
theorem dg3:isDig Tryz.prog 3 78 = false:=by kernel_rfl

theorem len64_1 (S:Ev.Steps Tryz.prog pr R) (h0:AHeap):bD Tryz.prog R 131 [.int .u64 1] h0 fun u h=>u = iv 1 ∧ h = h0:=by
 refine aV (fn:=Tryz.f131) (c:=(Tryz.f131.body).getD .skip) (by kernel_rfl) rfl (by kernel_rfl) rfl (fun K hK=>?_)
 generalize hF:finish Tryz.prog Tryz.f131 K = KF
 simp only [Tryz.f131,Option.getD_some,bJ,aX,aZ,T.setK_eq,id]
 have d1:decide ((4294967296:Int) ≤ 1) = false:=rfl
 have d2:decide ((65536:Int) ≤ 1) = false:=rfl
 have d3:decide ((256:Int) ≤ 1) = false:=rfl
 repeat refine S.seq ?_
 refine S.region ?_
 simp (disch:=first|omega|simp only [aA,aB]<;>omega|decide) only [rUz,↓reduceIte,reduceEqDiff,reduceAdd]
 repeat refine S.seq ?_
 refine S.region ?_
 simp (disch:=first|omega|simp only [aA,aB]<;>omega|decide) only [rUz,↓reduceIte,reduceEqDiff,reduceAdd,d1]
 repeat refine S.seq ?_
 refine S.cond (v:=false) (by first|rfl|(simp (disch:=first|omega|simp only [aA,aB]<;>omega|decide) only [rUz,↓reduceIte,reduceEqDiff,reduceAdd]<;>rfl)) (fun e=>by cases e) (fun _=>?_)
 repeat refine S.seq ?_
 refine S.skip ?_
 simp (disch:=first|omega|simp only [aA,aB]<;>omega|decide) only [rUz,↓reduceIte,reduceEqDiff,reduceAdd]
 repeat refine S.seq ?_
 refine S.region ?_
 simp (disch:=first|omega|simp only [aA,aB]<;>omega|decide) only [rUz,↓reduceIte,reduceEqDiff,reduceAdd,d2]
 repeat refine S.seq ?_
 refine S.cond (v:=false) (by first|rfl|(simp (disch:=first|omega|simp only [aA,aB]<;>omega|decide) only [rUz,↓reduceIte,reduceEqDiff,reduceAdd]<;>rfl)) (fun e=>by cases e) (fun _=>?_)
 repeat refine S.seq ?_
 refine S.skip ?_
 simp (disch:=first|omega|simp only [aA,aB]<;>omega|decide) only [rUz,↓reduceIte,reduceEqDiff,reduceAdd]
 repeat refine S.seq ?_
 refine S.region ?_
 simp (disch:=first|omega|simp only [aA,aB]<;>omega|decide) only [rUz,↓reduceIte,reduceEqDiff,reduceAdd,d3]
 repeat refine S.seq ?_
 refine S.cond (v:=false) (by first|rfl|(simp (disch:=first|omega|simp only [aA,aB]<;>omega|decide) only [rUz,↓reduceIte,reduceEqDiff,reduceAdd]<;>rfl)) (fun e=>by cases e) (fun _=>?_)
 repeat refine S.seq ?_
 refine S.skip ?_
 simp (disch:=first|omega|simp only [aA,aB]<;>omega|decide) only [rUz,↓reduceIte,reduceEqDiff,reduceAdd]
 repeat refine S.seq ?_
 refine S.region ?_
 simp (disch:=first|omega|simp only [aA,aB]<;>omega|decide) only [rUz,↓reduceIte,reduceEqDiff,reduceAdd,rd_conv,w_convert,dg1]
 refine dG (v:=.int .u8 1) (by kernel_rfl) ?_
 simp (disch:=first|omega|simp only [aA,aB]<;>omega|decide) only [rUz,↓reduceIte,reduceEqDiff,reduceAdd,rd_index]
 refine dG (v:=.int .u8 1) (by kernel_rfl) ?_
 simp (disch:=first|omega|simp only [aA,aB]<;>omega|decide) only [rUz,↓reduceIte,reduceEqDiff,reduceAdd,rd_conv,w_convert,dg2]
 refine dG (v:=iv 1) (by kernel_rfl) ?_
 simp (disch:=first|omega|simp only [aA,aB]<;>omega|decide) only [rUz,↓reduceIte,reduceEqDiff,reduceAdd]
 refine S.ret ?_
 try simp only [aJ,aF]
 subst hF
 simp only [finish,aI]
 rw [show Tryz.f131.results.toList = [.tmp 2] from rfl]
 simp (disch:=first|omega|simp only [aA,aB]<;>omega|decide) only [bK,aY,aS,aT,aQ,aU,aO,upd_ne,aP,aW,result1]
 exact hK _ _ Kp.refl ⟨rfl,rfl⟩

theorem len64_2 (S:Ev.Steps Tryz.prog pr R) (h0:AHeap):bD Tryz.prog R 131 [.int .u64 2] h0 fun u h=>u = iv 2 ∧ h = h0:=by
 refine aV (fn:=Tryz.f131) (c:=(Tryz.f131.body).getD .skip) (by kernel_rfl) rfl (by kernel_rfl) rfl (fun K hK=>?_)
 generalize hF:finish Tryz.prog Tryz.f131 K = KF
 simp only [Tryz.f131,Option.getD_some,bJ,aX,aZ,T.setK_eq,id]
 have d1:decide ((4294967296:Int) ≤ 2) = false:=rfl
 have d2:decide ((65536:Int) ≤ 2) = false:=rfl
 have d3:decide ((256:Int) ≤ 2) = false:=rfl
 repeat refine S.seq ?_
 refine S.region ?_
 simp (disch:=first|omega|simp only [aA,aB]<;>omega|decide) only [rUz,↓reduceIte,reduceEqDiff,reduceAdd]
 repeat refine S.seq ?_
 refine S.region ?_
 simp (disch:=first|omega|simp only [aA,aB]<;>omega|decide) only [rUz,↓reduceIte,reduceEqDiff,reduceAdd,d1]
 repeat refine S.seq ?_
 refine S.cond (v:=false) (by first|rfl|(simp (disch:=first|omega|simp only [aA,aB]<;>omega|decide) only [rUz,↓reduceIte,reduceEqDiff,reduceAdd]<;>rfl)) (fun e=>by cases e) (fun _=>?_)
 repeat refine S.seq ?_
 refine S.skip ?_
 simp (disch:=first|omega|simp only [aA,aB]<;>omega|decide) only [rUz,↓reduceIte,reduceEqDiff,reduceAdd]
 repeat refine S.seq ?_
 refine S.region ?_
 simp (disch:=first|omega|simp only [aA,aB]<;>omega|decide) only [rUz,↓reduceIte,reduceEqDiff,reduceAdd,d2]
 repeat refine S.seq ?_
 refine S.cond (v:=false) (by first|rfl|(simp (disch:=first|omega|simp only [aA,aB]<;>omega|decide) only [rUz,↓reduceIte,reduceEqDiff,reduceAdd]<;>rfl)) (fun e=>by cases e) (fun _=>?_)
 repeat refine S.seq ?_
 refine S.skip ?_
 simp (disch:=first|omega|simp only [aA,aB]<;>omega|decide) only [rUz,↓reduceIte,reduceEqDiff,reduceAdd]
 repeat refine S.seq ?_
 refine S.region ?_
 simp (disch:=first|omega|simp only [aA,aB]<;>omega|decide) only [rUz,↓reduceIte,reduceEqDiff,reduceAdd,d3]
 repeat refine S.seq ?_
 refine S.cond (v:=false) (by first|rfl|(simp (disch:=first|omega|simp only [aA,aB]<;>omega|decide) only [rUz,↓reduceIte,reduceEqDiff,reduceAdd]<;>rfl)) (fun e=>by cases e) (fun _=>?_)
 repeat refine S.seq ?_
 refine S.skip ?_
 simp (disch:=first|omega|simp only [aA,aB]<;>omega|decide) only [rUz,↓reduceIte,reduceEqDiff,reduceAdd]
 repeat refine S.seq ?_
 refine S.region ?_
 simp (disch:=first|omega|simp only [aA,aB]<;>omega|decide) only [rUz,↓reduceIte,reduceEqDiff,reduceAdd,rd_conv,w_convert,dg1]
 refine dG (v:=.int .u8 2) (by kernel_rfl) ?_
 simp (disch:=first|omega|simp only [aA,aB]<;>omega|decide) only [rUz,↓reduceIte,reduceEqDiff,reduceAdd,rd_index]
 refine dG (v:=.int .u8 2) (by kernel_rfl) ?_
 simp (disch:=first|omega|simp only [aA,aB]<;>omega|decide) only [rUz,↓reduceIte,reduceEqDiff,reduceAdd,rd_conv,w_convert,dg2]
 refine dG (v:=iv 2) (by kernel_rfl) ?_
 simp (disch:=first|omega|simp only [aA,aB]<;>omega|decide) only [rUz,↓reduceIte,reduceEqDiff,reduceAdd]
 refine S.ret ?_
 try simp only [aJ,aF]
 subst hF
 simp only [finish,aI]
 rw [show Tryz.f131.results.toList = [.tmp 2] from rfl]
 simp (disch:=first|omega|simp only [aA,aB]<;>omega|decide) only [bK,aY,aS,aT,aQ,aU,aO,upd_ne,aP,aW,result1]
 exact hK _ _ Kp.refl ⟨rfl,rfl⟩

theorem len64_3 (S:Ev.Steps Tryz.prog pr R) (h0:AHeap):bD Tryz.prog R 131 [.int .u64 3] h0 fun u h=>u = iv 2 ∧ h = h0:=by
 refine aV (fn:=Tryz.f131) (c:=(Tryz.f131.body).getD .skip) (by kernel_rfl) rfl (by kernel_rfl) rfl (fun K hK=>?_)
 generalize hF:finish Tryz.prog Tryz.f131 K = KF
 simp only [Tryz.f131,Option.getD_some,bJ,aX,aZ,T.setK_eq,id]
 have d1:decide ((4294967296:Int) ≤ 3) = false:=rfl
 have d2:decide ((65536:Int) ≤ 3) = false:=rfl
 have d3:decide ((256:Int) ≤ 3) = false:=rfl
 repeat refine S.seq ?_
 refine S.region ?_
 simp (disch:=first|omega|simp only [aA,aB]<;>omega|decide) only [rUz,↓reduceIte,reduceEqDiff,reduceAdd]
 repeat refine S.seq ?_
 refine S.region ?_
 simp (disch:=first|omega|simp only [aA,aB]<;>omega|decide) only [rUz,↓reduceIte,reduceEqDiff,reduceAdd,d1]
 repeat refine S.seq ?_
 refine S.cond (v:=false) (by first|rfl|(simp (disch:=first|omega|simp only [aA,aB]<;>omega|decide) only [rUz,↓reduceIte,reduceEqDiff,reduceAdd]<;>rfl)) (fun e=>by cases e) (fun _=>?_)
 repeat refine S.seq ?_
 refine S.skip ?_
 simp (disch:=first|omega|simp only [aA,aB]<;>omega|decide) only [rUz,↓reduceIte,reduceEqDiff,reduceAdd]
 repeat refine S.seq ?_
 refine S.region ?_
 simp (disch:=first|omega|simp only [aA,aB]<;>omega|decide) only [rUz,↓reduceIte,reduceEqDiff,reduceAdd,d2]
 repeat refine S.seq ?_
 refine S.cond (v:=false) (by first|rfl|(simp (disch:=first|omega|simp only [aA,aB]<;>omega|decide) only [rUz,↓reduceIte,reduceEqDiff,reduceAdd]<;>rfl)) (fun e=>by cases e) (fun _=>?_)
 repeat refine S.seq ?_
 refine S.skip ?_
 simp (disch:=first|omega|simp only [aA,aB]<;>omega|decide) only [rUz,↓reduceIte,reduceEqDiff,reduceAdd]
 repeat refine S.seq ?_
 refine S.region ?_
 simp (disch:=first|omega|simp only [aA,aB]<;>omega|decide) only [rUz,↓reduceIte,reduceEqDiff,reduceAdd,d3]
 repeat refine S.seq ?_
 refine S.cond (v:=false) (by first|rfl|(simp (disch:=first|omega|simp only [aA,aB]<;>omega|decide) only [rUz,↓reduceIte,reduceEqDiff,reduceAdd]<;>rfl)) (fun e=>by cases e) (fun _=>?_)
 repeat refine S.seq ?_
 refine S.skip ?_
 simp (disch:=first|omega|simp only [aA,aB]<;>omega|decide) only [rUz,↓reduceIte,reduceEqDiff,reduceAdd]
 repeat refine S.seq ?_
 refine S.region ?_
 simp (disch:=first|omega|simp only [aA,aB]<;>omega|decide) only [rUz,↓reduceIte,reduceEqDiff,reduceAdd,rd_conv,w_convert,dg1]
 refine dG (v:=.int .u8 3) (by kernel_rfl) ?_
 simp (disch:=first|omega|simp only [aA,aB]<;>omega|decide) only [rUz,↓reduceIte,reduceEqDiff,reduceAdd,rd_index]
 refine dG (v:=.int .u8 2) (by kernel_rfl) ?_
 simp (disch:=first|omega|simp only [aA,aB]<;>omega|decide) only [rUz,↓reduceIte,reduceEqDiff,reduceAdd,rd_conv,w_convert,dg2]
 refine dG (v:=iv 2) (by kernel_rfl) ?_
 simp (disch:=first|omega|simp only [aA,aB]<;>omega|decide) only [rUz,↓reduceIte,reduceEqDiff,reduceAdd]
 refine S.ret ?_
 try simp only [aJ,aF]
 subst hF
 simp only [finish,aI]
 rw [show Tryz.f131.results.toList = [.tmp 2] from rfl]
 simp (disch:=first|omega|simp only [aA,aB]<;>omega|decide) only [bK,aY,aS,aT,aQ,aU,aO,upd_ne,aP,aW,result1]
 exact hK _ _ Kp.refl ⟨rfl,rfl⟩

theorem len64_4 (S:Ev.Steps Tryz.prog pr R) (h0:AHeap):bD Tryz.prog R 131 [.int .u64 4] h0 fun u h=>u = iv 3 ∧ h = h0:=by
 refine aV (fn:=Tryz.f131) (c:=(Tryz.f131.body).getD .skip) (by kernel_rfl) rfl (by kernel_rfl) rfl (fun K hK=>?_)
 generalize hF:finish Tryz.prog Tryz.f131 K = KF
 simp only [Tryz.f131,Option.getD_some,bJ,aX,aZ,T.setK_eq,id]
 have d1:decide ((4294967296:Int) ≤ 4) = false:=rfl
 have d2:decide ((65536:Int) ≤ 4) = false:=rfl
 have d3:decide ((256:Int) ≤ 4) = false:=rfl
 repeat refine S.seq ?_
 refine S.region ?_
 simp (disch:=first|omega|simp only [aA,aB]<;>omega|decide) only [rUz,↓reduceIte,reduceEqDiff,reduceAdd]
 repeat refine S.seq ?_
 refine S.region ?_
 simp (disch:=first|omega|simp only [aA,aB]<;>omega|decide) only [rUz,↓reduceIte,reduceEqDiff,reduceAdd,d1]
 repeat refine S.seq ?_
 refine S.cond (v:=false) (by first|rfl|(simp (disch:=first|omega|simp only [aA,aB]<;>omega|decide) only [rUz,↓reduceIte,reduceEqDiff,reduceAdd]<;>rfl)) (fun e=>by cases e) (fun _=>?_)
 repeat refine S.seq ?_
 refine S.skip ?_
 simp (disch:=first|omega|simp only [aA,aB]<;>omega|decide) only [rUz,↓reduceIte,reduceEqDiff,reduceAdd]
 repeat refine S.seq ?_
 refine S.region ?_
 simp (disch:=first|omega|simp only [aA,aB]<;>omega|decide) only [rUz,↓reduceIte,reduceEqDiff,reduceAdd,d2]
 repeat refine S.seq ?_
 refine S.cond (v:=false) (by first|rfl|(simp (disch:=first|omega|simp only [aA,aB]<;>omega|decide) only [rUz,↓reduceIte,reduceEqDiff,reduceAdd]<;>rfl)) (fun e=>by cases e) (fun _=>?_)
 repeat refine S.seq ?_
 refine S.skip ?_
 simp (disch:=first|omega|simp only [aA,aB]<;>omega|decide) only [rUz,↓reduceIte,reduceEqDiff,reduceAdd]
 repeat refine S.seq ?_
 refine S.region ?_
 simp (disch:=first|omega|simp only [aA,aB]<;>omega|decide) only [rUz,↓reduceIte,reduceEqDiff,reduceAdd,d3]
 repeat refine S.seq ?_
 refine S.cond (v:=false) (by first|rfl|(simp (disch:=first|omega|simp only [aA,aB]<;>omega|decide) only [rUz,↓reduceIte,reduceEqDiff,reduceAdd]<;>rfl)) (fun e=>by cases e) (fun _=>?_)
 repeat refine S.seq ?_
 refine S.skip ?_
 simp (disch:=first|omega|simp only [aA,aB]<;>omega|decide) only [rUz,↓reduceIte,reduceEqDiff,reduceAdd]
 repeat refine S.seq ?_
 refine S.region ?_
 simp (disch:=first|omega|simp only [aA,aB]<;>omega|decide) only [rUz,↓reduceIte,reduceEqDiff,reduceAdd,rd_conv,w_convert,dg1]
 refine dG (v:=.int .u8 4) (by kernel_rfl) ?_
 simp (disch:=first|omega|simp only [aA,aB]<;>omega|decide) only [rUz,↓reduceIte,reduceEqDiff,reduceAdd,rd_index]
 refine dG (v:=.int .u8 3) (by kernel_rfl) ?_
 simp (disch:=first|omega|simp only [aA,aB]<;>omega|decide) only [rUz,↓reduceIte,reduceEqDiff,reduceAdd,rd_conv,w_convert,dg2]
 refine dG (v:=iv 3) (by kernel_rfl) ?_
 simp (disch:=first|omega|simp only [aA,aB]<;>omega|decide) only [rUz,↓reduceIte,reduceEqDiff,reduceAdd]
 refine S.ret ?_
 try simp only [aJ,aF]
 subst hF
 simp only [finish,aI]
 rw [show Tryz.f131.results.toList = [.tmp 2] from rfl]
 simp (disch:=first|omega|simp only [aA,aB]<;>omega|decide) only [bK,aY,aS,aT,aQ,aU,aO,upd_ne,aP,aW,result1]
 exact hK _ _ Kp.refl ⟨rfl,rfl⟩

theorem len64_5 (S:Ev.Steps Tryz.prog pr R) (h0:AHeap):bD Tryz.prog R 131 [.int .u64 5] h0 fun u h=>u = iv 3 ∧ h = h0:=by
 refine aV (fn:=Tryz.f131) (c:=(Tryz.f131.body).getD .skip) (by kernel_rfl) rfl (by kernel_rfl) rfl (fun K hK=>?_)
 generalize hF:finish Tryz.prog Tryz.f131 K = KF
 simp only [Tryz.f131,Option.getD_some,bJ,aX,aZ,T.setK_eq,id]
 have d1:decide ((4294967296:Int) ≤ 5) = false:=rfl
 have d2:decide ((65536:Int) ≤ 5) = false:=rfl
 have d3:decide ((256:Int) ≤ 5) = false:=rfl
 repeat refine S.seq ?_
 refine S.region ?_
 simp (disch:=first|omega|simp only [aA,aB]<;>omega|decide) only [rUz,↓reduceIte,reduceEqDiff,reduceAdd]
 repeat refine S.seq ?_
 refine S.region ?_
 simp (disch:=first|omega|simp only [aA,aB]<;>omega|decide) only [rUz,↓reduceIte,reduceEqDiff,reduceAdd,d1]
 repeat refine S.seq ?_
 refine S.cond (v:=false) (by first|rfl|(simp (disch:=first|omega|simp only [aA,aB]<;>omega|decide) only [rUz,↓reduceIte,reduceEqDiff,reduceAdd]<;>rfl)) (fun e=>by cases e) (fun _=>?_)
 repeat refine S.seq ?_
 refine S.skip ?_
 simp (disch:=first|omega|simp only [aA,aB]<;>omega|decide) only [rUz,↓reduceIte,reduceEqDiff,reduceAdd]
 repeat refine S.seq ?_
 refine S.region ?_
 simp (disch:=first|omega|simp only [aA,aB]<;>omega|decide) only [rUz,↓reduceIte,reduceEqDiff,reduceAdd,d2]
 repeat refine S.seq ?_
 refine S.cond (v:=false) (by first|rfl|(simp (disch:=first|omega|simp only [aA,aB]<;>omega|decide) only [rUz,↓reduceIte,reduceEqDiff,reduceAdd]<;>rfl)) (fun e=>by cases e) (fun _=>?_)
 repeat refine S.seq ?_
 refine S.skip ?_
 simp (disch:=first|omega|simp only [aA,aB]<;>omega|decide) only [rUz,↓reduceIte,reduceEqDiff,reduceAdd]
 repeat refine S.seq ?_
 refine S.region ?_
 simp (disch:=first|omega|simp only [aA,aB]<;>omega|decide) only [rUz,↓reduceIte,reduceEqDiff,reduceAdd,d3]
 repeat refine S.seq ?_
 refine S.cond (v:=false) (by first|rfl|(simp (disch:=first|omega|simp only [aA,aB]<;>omega|decide) only [rUz,↓reduceIte,reduceEqDiff,reduceAdd]<;>rfl)) (fun e=>by cases e) (fun _=>?_)
 repeat refine S.seq ?_
 refine S.skip ?_
 simp (disch:=first|omega|simp only [aA,aB]<;>omega|decide) only [rUz,↓reduceIte,reduceEqDiff,reduceAdd]
 repeat refine S.seq ?_
 refine S.region ?_
 simp (disch:=first|omega|simp only [aA,aB]<;>omega|decide) only [rUz,↓reduceIte,reduceEqDiff,reduceAdd,rd_conv,w_convert,dg1]
 refine dG (v:=.int .u8 5) (by kernel_rfl) ?_
 simp (disch:=first|omega|simp only [aA,aB]<;>omega|decide) only [rUz,↓reduceIte,reduceEqDiff,reduceAdd,rd_index]
 refine dG (v:=.int .u8 3) (by kernel_rfl) ?_
 simp (disch:=first|omega|simp only [aA,aB]<;>omega|decide) only [rUz,↓reduceIte,reduceEqDiff,reduceAdd,rd_conv,w_convert,dg2]
 refine dG (v:=iv 3) (by kernel_rfl) ?_
 simp (disch:=first|omega|simp only [aA,aB]<;>omega|decide) only [rUz,↓reduceIte,reduceEqDiff,reduceAdd]
 refine S.ret ?_
 try simp only [aJ,aF]
 subst hF
 simp only [finish,aI]
 rw [show Tryz.f131.results.toList = [.tmp 2] from rfl]
 simp (disch:=first|omega|simp only [aA,aB]<;>omega|decide) only [bK,aY,aS,aT,aQ,aU,aO,upd_ne,aP,aW,result1]
 exact hK _ _ Kp.refl ⟨rfl,rfl⟩

theorem len64_6 (S:Ev.Steps Tryz.prog pr R) (h0:AHeap):bD Tryz.prog R 131 [.int .u64 6] h0 fun u h=>u = iv 3 ∧ h = h0:=by
 refine aV (fn:=Tryz.f131) (c:=(Tryz.f131.body).getD .skip) (by kernel_rfl) rfl (by kernel_rfl) rfl (fun K hK=>?_)
 generalize hF:finish Tryz.prog Tryz.f131 K = KF
 simp only [Tryz.f131,Option.getD_some,bJ,aX,aZ,T.setK_eq,id]
 have d1:decide ((4294967296:Int) ≤ 6) = false:=rfl
 have d2:decide ((65536:Int) ≤ 6) = false:=rfl
 have d3:decide ((256:Int) ≤ 6) = false:=rfl
 repeat refine S.seq ?_
 refine S.region ?_
 simp (disch:=first|omega|simp only [aA,aB]<;>omega|decide) only [rUz,↓reduceIte,reduceEqDiff,reduceAdd]
 repeat refine S.seq ?_
 refine S.region ?_
 simp (disch:=first|omega|simp only [aA,aB]<;>omega|decide) only [rUz,↓reduceIte,reduceEqDiff,reduceAdd,d1]
 repeat refine S.seq ?_
 refine S.cond (v:=false) (by first|rfl|(simp (disch:=first|omega|simp only [aA,aB]<;>omega|decide) only [rUz,↓reduceIte,reduceEqDiff,reduceAdd]<;>rfl)) (fun e=>by cases e) (fun _=>?_)
 repeat refine S.seq ?_
 refine S.skip ?_
 simp (disch:=first|omega|simp only [aA,aB]<;>omega|decide) only [rUz,↓reduceIte,reduceEqDiff,reduceAdd]
 repeat refine S.seq ?_
 refine S.region ?_
 simp (disch:=first|omega|simp only [aA,aB]<;>omega|decide) only [rUz,↓reduceIte,reduceEqDiff,reduceAdd,d2]
 repeat refine S.seq ?_
 refine S.cond (v:=false) (by first|rfl|(simp (disch:=first|omega|simp only [aA,aB]<;>omega|decide) only [rUz,↓reduceIte,reduceEqDiff,reduceAdd]<;>rfl)) (fun e=>by cases e) (fun _=>?_)
 repeat refine S.seq ?_
 refine S.skip ?_
 simp (disch:=first|omega|simp only [aA,aB]<;>omega|decide) only [rUz,↓reduceIte,reduceEqDiff,reduceAdd]
 repeat refine S.seq ?_
 refine S.region ?_
 simp (disch:=first|omega|simp only [aA,aB]<;>omega|decide) only [rUz,↓reduceIte,reduceEqDiff,reduceAdd,d3]
 repeat refine S.seq ?_
 refine S.cond (v:=false) (by first|rfl|(simp (disch:=first|omega|simp only [aA,aB]<;>omega|decide) only [rUz,↓reduceIte,reduceEqDiff,reduceAdd]<;>rfl)) (fun e=>by cases e) (fun _=>?_)
 repeat refine S.seq ?_
 refine S.skip ?_
 simp (disch:=first|omega|simp only [aA,aB]<;>omega|decide) only [rUz,↓reduceIte,reduceEqDiff,reduceAdd]
 repeat refine S.seq ?_
 refine S.region ?_
 simp (disch:=first|omega|simp only [aA,aB]<;>omega|decide) only [rUz,↓reduceIte,reduceEqDiff,reduceAdd,rd_conv,w_convert,dg1]
 refine dG (v:=.int .u8 6) (by kernel_rfl) ?_
 simp (disch:=first|omega|simp only [aA,aB]<;>omega|decide) only [rUz,↓reduceIte,reduceEqDiff,reduceAdd,rd_index]
 refine dG (v:=.int .u8 3) (by kernel_rfl) ?_
 simp (disch:=first|omega|simp only [aA,aB]<;>omega|decide) only [rUz,↓reduceIte,reduceEqDiff,reduceAdd,rd_conv,w_convert,dg2]
 refine dG (v:=iv 3) (by kernel_rfl) ?_
 simp (disch:=first|omega|simp only [aA,aB]<;>omega|decide) only [rUz,↓reduceIte,reduceEqDiff,reduceAdd]
 refine S.ret ?_
 try simp only [aJ,aF]
 subst hF
 simp only [finish,aI]
 rw [show Tryz.f131.results.toList = [.tmp 2] from rfl]
 simp (disch:=first|omega|simp only [aA,aB]<;>omega|decide) only [bK,aY,aS,aT,aQ,aU,aO,upd_ne,aP,aW,result1]
 exact hK _ _ Kp.refl ⟨rfl,rfl⟩

theorem nT {P:Program} {g:FuncId} {args:List Value} {h0:AHeap} {z:Int} (k:bD P R g args h0 fun u h=>u = iv z ∧ h = h0):bD P R g args h0 fun u h=>(∃ z,u = iv z) ∧ h = h0:=
 fun K hK=>k K fun v h' hk hp=>hK v h' hk ⟨⟨z,hp.1⟩,hp.2⟩
theorem one6 {n:Nat} (h1:1 ≤ n) (h6:n ≤ 6):n = 1 ∨ n = 2 ∨ n = 3 ∨ n = 4 ∨ n = 5 ∨ n = 6:=by omega
theorem len64_y (S:Ev.Steps Tryz.prog pr R) (h0:AHeap) (n:Nat) (h1:1 ≤ n) (h6:n ≤ 6):bD Tryz.prog R 131 [.int .u64 (n:Int)] h0 fun u h=>(∃ z,u = iv z) ∧ h = h0:=by
 rcases one6 h1 h6 with rfl|rfl|rfl|rfl|rfl|rfl
 ·exact nT (len64_1 S h0)
 ·exact nT (len64_2 S h0)
 ·exact nT (len64_3 S h0)
 ·exact nT (len64_4 S h0)
 ·exact nT (len64_5 S h0)
 ·exact nT (len64_6 S h0)
theorem len_y (S:Ev.Steps Tryz.prog pr R) (hoff:Off pr) (h0:AHeap) (n:Nat) (h1:1 ≤ n) (h6:n ≤ 6):bD Tryz.prog R 114 [.int .u64 (n:Int)] h0 fun u h=>(∃ z,u = iv z) ∧ h = h0:=by
 refine aV (fn:=Tryz.f114) (c:=(Tryz.f114.body).getD .skip) (by kernel_rfl) rfl (by kernel_rfl) rfl (fun K hK=>?_)
 generalize hF:finish Tryz.prog Tryz.f114 K = KF
 simp only [Tryz.f114,Option.getD_some,bJ,aX,aZ,T.setK_eq,id]
 repeat refine S.seq ?_
 refine S.region ?_
 simp (disch:=first|omega|simp only [aA,aB]<;>omega|decide) only [rUz,↓reduceIte,reduceEqDiff,reduceAdd]
 repeat refine S.seq ?_
 refine S.cond (v:=false) (by first|rfl|(simp (disch:=first|omega|simp only [aA,aB]<;>omega|decide) only [rUz,↓reduceIte,reduceEqDiff,reduceAdd]<;>rfl)) (fun e=>by cases e) (fun _=>?_)
 repeat refine S.seq ?_
 refine S.skip ?_
 simp (disch:=first|omega|simp only [aA,aB]<;>omega|decide) only [rUz,↓reduceIte,reduceEqDiff,reduceAdd]
 repeat refine S.seq ?_
 refine S.region ?_
 simp (disch:=first|omega|simp only [aA,aB]<;>omega|decide) only [rUz,↓reduceIte,reduceEqDiff,reduceAdd]
 refine bC (fid:=131) (first:=#[]) (captured:=#[]) (Post:=fun u h=>(∃ z,u = iv z) ∧ h = h0) rfl (hoff _ _ _ rfl) (by simp (disch:=first|omega|simp only [aA,aB]<;>omega|decide) only [rUz,↓reduceIte,reduceEqDiff,reduceAdd]; exact len64_y S h0 n h1 h6) ?_
 rintro u g - ⟨⟨z,rfl⟩,rfl⟩
 simp (disch:=first|omega|simp only [aA,aB]<;>omega|decide) only [rUz,↓reduceIte,reduceEqDiff,reduceAdd]
 refine S.ret ?_
 try simp only [aJ,aF]
 subst hF
 simp only [finish,aI]
 rw [show Tryz.f114.results.toList = [.tmp 2] from rfl]
 simp (disch:=first|omega|simp only [aA,aB]<;>omega|decide) only [bK,aY,aS,aT,aQ,aU,aO,upd_ne,aP,aW,result1]
 exact hK _ _ Kp.refl ⟨⟨z,rfl⟩,rfl⟩
theorem conv_u (n:Nat) (hn:n ≤ 6) (t:T Value) (h1:AHeap) (o:Oper):rConv Tryz.prog t h1 o 3 78 (iv (n:Int)) = some (.int .u64 (n:Int)):=by
 rcases (by omega:n = 0 ∨ n = 1 ∨ n = 2 ∨ n = 3 ∨ n = 4 ∨ n = 5 ∨ n = 6) with rfl|rfl|rfl|rfl|rfl|rfl|rfl
 all_goals kernel_rfl
abbrev slB (B n:Nat):Value:=.slice (some ⟨B,0,none⟩) n n
abbrev fCmp:Value:=.func (.func 96) #[] #[]
theorem pdq_y (S:Ev.Steps Tryz.prog pr R) (hoff:Off pr) (h0:AHeap) (t0:List Int) (ht:∀ x,x ∈ t0 → 0 ≤ x ∧ x ≤ 30) (hl:1 ≤ t0.length) (h6:t0.length ≤ 6) (B:Nat) (hB:B < h0.nx) (hb:RAt h0 B (arrF t0 0)) (hf:h0.fams.get B = some [B]) (lim:Int) :
  gJ Tryz.prog R 113 [slB B t0.length,iv 0,iv (t0.length:Int),iv lim,fCmp] h0 fun _ h=>Fr h0 B h ∧ RAt h B (cmZ t0):=by
 refine gW (fn:=Tryz.f113) (c:=(Tryz.f113.body).getD .skip) (by kernel_rfl) rfl (by kernel_rfl) rfl (fun K hK=>?_)
 generalize hF:finish Tryz.prog Tryz.f113 K = KF
 simp only [Tryz.f113,Option.getD_some,bJ,aX,aZ,T.setK_eq,id]
 have e0:(t0.length:Int) - 0 = (t0.length:Int):=by omega
 have d12:decide ((t0.length:Int) ≤ 12) = true:=decide_eq_true (by omega)
 repeat refine S.seq ?_
 refine S.region ?_
 simp (disch:=first|omega|simp only [aA,aB]<;>omega|decide) only [rUz,↓reduceIte,reduceEqDiff,reduceAdd]
 repeat refine S.seq ?_
 refine S.region ?_
 simp (disch:=first|omega|simp only [aA,aB]<;>omega|decide) only [rUz,↓reduceIte,reduceEqDiff,reduceAdd]
 repeat refine S.seq ?_
 refine S.block ?_
 repeat refine S.seq ?_
 refine S.round ?_
 repeat refine S.seq ?_
 refine S.block ?_
 repeat refine S.seq ?_
 refine S.region ?_
 simp (disch:=first|omega|simp only [aA,aB]<;>omega|decide) only [rUz,↓reduceIte,reduceEqDiff,reduceAdd,e0]
 repeat refine S.seq ?_
 refine S.region ?_
 simp (disch:=first|omega|simp only [aA,aB]<;>omega|decide) only [rUz,↓reduceIte,reduceEqDiff,reduceAdd,d12]
 repeat refine S.seq ?_
 refine S.cond (v:=true) (by first|rfl|(simp (disch:=first|omega|simp only [aA,aB]<;>omega|decide) only [rUz,↓reduceIte,reduceEqDiff,reduceAdd]<;>rfl)) (fun _=>?_) (fun e=>by cases e)
 repeat refine S.seq ?_
 refine S.region ?_
 simp (disch:=first|omega|simp only [aA,aB]<;>omega|decide) only [rUz,↓reduceIte,reduceEqDiff,reduceAdd]
 refine iT (fid:=122) (first:=#[]) (captured:=#[]) (Post:=fun _ h=>Fr h0 B h ∧ RAt h B (cmZ t0)) rfl (hoff _ _ _ rfl) (by simp (disch:=first|omega|simp only [aA,aB]<;>omega|decide) only [rUz,↓reduceIte,reduceEqDiff,reduceAdd]; exact isort_y S hoff h0 t0 ht hl h6 B hB hb hf) ?_
 rintro u g ⟨fr,hr⟩
 simp (disch:=first|omega|simp only [aA,aB]<;>omega|decide) only [rUz,↓reduceIte,reduceEqDiff,reduceAdd]
 refine S.ret ?_
 simp only [aJ,aF,oneK_ret]
 subst hF
 simp only [finish,aI]
 rw [show Tryz.f113.results.toList = [] from rfl]
 simp only [bK,result1]
 exact hK _ _ ⟨fr,hr⟩
theorem sort_y (S:Ev.Steps Tryz.prog pr R) (hoff:Off pr) (h0:AHeap) (t0:List Int) (ht:∀ x,x ∈ t0 → 0 ≤ x ∧ x ≤ 30) (hl:1 ≤ t0.length) (h6:t0.length ≤ 6) (B:Nat) (hB:B < h0.nx) (hb:RAt h0 B (arrF t0 0)) (hf:h0.fams.get B = some [B]) :
  gJ Tryz.prog R 95 [slB B t0.length,fCmp] h0 fun _ h=>Fr h0 B h ∧ RAt h B (cmZ t0):=by
 refine gW (fn:=Tryz.f95) (c:=(Tryz.f95.body).getD .skip) (by kernel_rfl) rfl (by kernel_rfl) rfl (fun K hK=>?_)
 generalize hF:finish Tryz.prog Tryz.f95 K = KF
 simp only [Tryz.f95,Option.getD_some,bJ,aX,aZ,T.setK_eq,id]
 have ls:∀ (t:T Value) (h1:AHeap) (o:Oper),qJ Tryz.prog t h1 o 131 (slB B t0.length) = some (iv (t0.length:Int)):=fun _ _ _=>lT isV
 have cv:=fun t h1 o=>conv_u t0.length h6 t h1 o
 repeat refine S.seq ?_
 refine S.region ?_
 simp (disch:=first|omega|simp only [aA,aB]<;>omega|decide) only [rUz,↓reduceIte,reduceEqDiff,reduceAdd,ls]
 repeat refine S.seq ?_
 refine S.region ?_
 simp (disch:=first|omega|simp only [aA,aB]<;>omega|decide) only [rUz,↓reduceIte,reduceEqDiff,reduceAdd,rd_conv,w_convert,dg3,cv]
 refine bC (fid:=114) (first:=#[]) (captured:=#[]) (Post:=fun u h=>(∃ z,u = iv z) ∧ h = h0) rfl (hoff _ _ _ rfl) (by simp (disch:=first|omega|simp only [aA,aB]<;>omega|decide) only [rUz,↓reduceIte,reduceEqDiff,reduceAdd]; exact len_y S hoff h0 t0.length hl h6) ?_
 rintro u g - ⟨⟨z,rfl⟩,rfl⟩
 simp (disch:=first|omega|simp only [aA,aB]<;>omega|decide) only [rUz,↓reduceIte,reduceEqDiff,reduceAdd]
 refine iT (fid:=113) (first:=#[]) (captured:=#[]) (Post:=fun _ h=>Fr g B h ∧ RAt h B (cmZ t0)) rfl (hoff _ _ _ rfl) (by simp (disch:=first|omega|simp only [aA,aB]<;>omega|decide) only [rUz,↓reduceIte,reduceEqDiff,reduceAdd]; exact pdq_y S hoff g t0 ht hl h6 B hB hb hf z) ?_
 rintro u g2 ⟨fr,hr⟩
 simp (disch:=first|omega|simp only [aA,aB]<;>omega|decide) only [rUz,↓reduceIte,reduceEqDiff,reduceAdd]
 subst hF
 simp only [finish,aI]
 rw [show Tryz.f95.results.toList = [] from rfl]
 simp only [bK,result1]
 exact hK _ _ ⟨fr,hr⟩
noncomputable def infV:TypeInfo:=(Tryz.prog.info? 126).getD default
theorem infoV:Tryz.prog.info? 126 = some infV:=by kernel_rfl
theorem infoVb:Nat.blt infV.bytes bigNat = true:=by kernel_rfl
theorem infoVs:infV.size = 2:=by kernel_rfl
structure IAr (t0:List Int) (B:Nat) (tv:Value) (H:AHeap) (k:Nat) (t:T Value) (h:AHeap):Prop where
 hk:k ≤ t0.length
 fr:Fr H B h
 a3:tget t 3 = slB B t0.length
 a9:tget t 9 = tv
 a10:tget t 10 = iv (t0.length:Int)
 a11:tget t 11 = iv (k:Int)
 ex:∃ L:List AR,L.length = t0.length ∧ RAt h B L ∧ ∀ j,j < k → L[j]? = (arrF t0 0)[j]?
theorem repl_rows (n:Nat):(List.replicate n (Value.cells (.agg ⟨[iv 0,iv 0]⟩)).toList).flatten = ((List.replicate n ((0,0):AR)).map cA).flatten:=by
 rw [List.map_replicate]; rfl
theorem arrivals_y (S:Ev.Steps Tryz.prog pr R) (hoff:Off pr) (h0:AHeap) (tv:Value) (t0:List Int) (hv:IAt h0 tv t0) (ht:∀ x,x ∈ t0 → 0 ≤ x ∧ x ≤ 30) (hl:1 ≤ t0.length) (h6:t0.length ≤ 6) :
  bD Tryz.prog R 75 [tv] h0 fun u h=>∃ B,u = slB B t0.length ∧ RAt h B (cmZ t0) ∧ B < h.nx:=by
 refine aV (fn:=Tryz.f75) (c:=(Tryz.f75.body).getD .skip) (by kernel_rfl) rfl (by kernel_rfl) rfl (fun K hK=>?_)
 generalize hF:finish Tryz.prog Tryz.f75 K = KF
 simp only [Tryz.f75,Option.getD_some,bJ,aX,aZ,T.setK_eq,id]
 have lt':=fun t h1 o=>o5 hv t h1 o
 repeat refine S.seq ?_
 refine S.region ?_
 simp (disch:=first|omega|simp only [aA,aB]<;>omega|decide) only [rUz,↓reduceIte,reduceEqDiff,reduceAdd]
 repeat refine S.seq ?_
 refine S.region ?_
 simp (disch:=first|omega|simp only [aA,aB]<;>omega|decide) only [rUz,↓reduceIte,reduceEqDiff,reduceAdd,lt',mQ]
 refine wr_makeRows (k:=t0.length) slV infoV zV infoVb infoVs rfl (by simp (disch:=first|omega|simp only [aA,aB]<;>omega|decide) only [rUz,↓reduceIte,reduceEqDiff,reduceAdd]) (by simp (disch:=first|omega|simp only [aA,aB]<;>omega|decide) only [rUz,↓reduceIte,reduceEqDiff,reduceAdd]) (by omega) ?_
 rw [repl_rows]
 obtain ⟨B,hB⟩:∃ x,x = h0.nx:=⟨_,rfl⟩
 have hk1:Kp h0 (h0.add ((List.replicate t0.length ((0,0):AR)).map cA).flatten):=Kp.refl.add
 have hb:RAt (h0.add ((List.replicate t0.length ((0,0):AR)).map cA).flatten) B (List.replicate t0.length ((0,0):AR)):=by subst hB; exact aP rfl
 have hf:(h0.add ((List.replicate t0.length ((0,0):AR)).map cA).flatten).fams.get B = some [B]:=by subst hB; exact dL rfl
 have hn:B < (h0.add ((List.replicate t0.length ((0,0):AR)).map cA).flatten).nx:=by subst hB; exact Nat.lt_succ_self _
 have hB0:h0.nx ≤ B:=by omega
 rw [← hB]
 clear hB
 generalize h0.add ((List.replicate t0.length ((0,0):AR)).map cA).flatten = H at hk1 hb hf hn ⊢
 simp (disch:=first|omega|simp only [aA,aB]<;>omega|decide) only [rUz,↓reduceIte,reduceEqDiff,reduceAdd]
 repeat refine S.seq ?_
 refine S.region ?_
 simp (disch:=first|omega|simp only [aA,aB]<;>omega|decide) only [rUz,↓reduceIte,reduceEqDiff,reduceAdd,lt']
 repeat refine S.seq ?_
 refine S.block ?_
 refine S.loop (ι:=Nat) (IAr t0 B tv H) (fun k=>t0.length - k) ?_ 0 _ _ ?_
 rotate_left
 ·refine ⟨Nat.zero_le _,Fr.refl,?_,?_,?_,?_,_,List.length_replicate,hb,fun j hj=>absurd hj (Nat.not_lt_zero _)⟩
  all_goals (first|rfl|(simp (disch:=first|omega|simp only [aA,aB]<;>omega|decide) only [rUz,↓reduceIte,reduceEqDiff,reduceAdd]<;>rfl))
 clear hb
 intro k t h ⟨hk,fr,a3,a9,a10,a11,L,hL,hr,hj⟩ K' hn' he
 have hfh:=(fr.fam B hn).trans hf
 have hnh:=Nat.lt_of_lt_of_le hn fr.le
 repeat refine S.seq ?_
 refine S.region ?_
 simp (disch:=first|omega|simp only [aA,aB]<;>omega|decide) only [rUz,↓reduceIte,reduceEqDiff,reduceAdd,a10,a11]
 repeat refine S.seq ?_
 refine S.cond (v:=decide ((k:Int) < (t0.length:Int))) (by first|rfl|(simp (disch:=first|omega|simp only [aA,aB]<;>omega|decide) only [rUz,↓reduceIte,reduceEqDiff,reduceAdd]<;>rfl)) (fun e=>?_) (fun e=>?_)
 ·have hkn:k < t0.length:=by have:=of_decide_eq_true e; omega
  clear e
  obtain ⟨b1,f1,o1,q1,q2,q3,q4⟩:=(hv.mono (fr.toKp hk1 hB0)).idx slI s3' hkn
  have ga:=arrF_get t0 0 k hkn
  rw [Nat.zero_add] at ga
  generalize t0[k] = z at q4 ga
  have ia:bY Tryz.prog 131 (slB B t0.length) (iv (k:Int)) = some (.pointer (some ⟨B,k * 2,none⟩)):=by
   rw [eQ slV sV hkn,Nat.zero_add]
  have hsr:=set_row (L:=L) (j:=k) (z,k) (by omega)
  repeat refine S.seq ?_
  refine S.skip ?_
  simp (disch:=first|omega|simp only [aA,aB]<;>omega|decide) only [rUz,↓reduceIte,reduceEqDiff,reduceAdd]
  repeat refine S.seq ?_
  refine S.block ?_
  repeat refine S.seq ?_
  refine S.region ?_
  simp (disch:=first|omega|simp only [aA,aB]<;>omega|decide) only [rUz,↓reduceIte,reduceEqDiff,reduceAdd,a9,a11,q1,q3,p3,q4]
  unfold RAt at hr
  repeat refine S.seq ?_
  refine S.region ?_
  simp (disch:=first|omega|simp only [aA,aB]<;>omega|decide) only [rUz,↓reduceIte,reduceEqDiff,reduceAdd,a3,fF,List.map_cons,List.map_nil,bV,ia]
  unfold wrR
  rw [uU (B:=B) (off:=k * 2) (s:=2) (c:=(L.map cA).flatten) (ls:=cA (z,k)) (by simp (disch:=first|omega|simp only [aA,aB]<;>omega|decide) only [rUz,↓reduceIte,reduceEqDiff,reduceAdd]) (by simp (disch:=first|omega|simp only [aA,aB]<;>omega|decide) only [rUz,↓reduceIte,reduceEqDiff,reduceAdd]; rfl) sV (by omega) rfl hr hfh (by rw [xN,hL]; omega),hsr]
  simp (disch:=first|omega|simp only [aA,aB]<;>omega|decide) only [rUz,↓reduceIte,reduceEqDiff,reduceAdd]
  repeat refine S.seq ?_
  refine S.region ?_
  simp (disch:=first|omega|simp only [aA,aB]<;>omega|decide) only [rUz,↓reduceIte,reduceEqDiff,reduceAdd,a11]
  refine hn' (k + 1) _ _ (by omega) ⟨by omega,fr.upd,?_,?_,?_,?_,L.set k (z,k),by rw [List.length_set,hL],aO _ _ _,fun j hjk=>?_⟩
  rotate_left 4
  ·rw [List.getElem?_set]
   by_cases e:k = j
   ·subst e; rw [if_pos rfl,if_pos (by omega),ga]
   ·rw [if_neg e]; exact hj j (by omega)
  all_goals (first|rfl|(simp (disch:=first|omega|simp only [aA,aB]<;>omega|decide) only [rUz,↓reduceIte,reduceEqDiff,reduceAdd,a3,a9,a10]<;>rfl))
 have hkn:k = t0.length:=by have:=of_decide_eq_false e; omega
 subst hkn
 have hLe:L = arrF t0 0:=by
  apply List.ext_getElem?
  intro j
  by_cases hjn:j < t0.length
  ·exact hj j hjn
  ·rw [List.getElem?_eq_none (by omega),List.getElem?_eq_none (by rw [arrF_len]; omega)]
 rw [hLe] at hr
 refine S.exit (he _ _ _ _ (fun e=>by cases e) ?_)
 simp (disch:=first|omega|simp only [aA,aB]<;>omega|decide) only [rUz,↓reduceIte,reduceEqDiff,reduceAdd]
 repeat refine S.seq ?_
 refine S.region ?_
 simp (disch:=first|omega|simp only [aA,aB]<;>omega|decide) only [rUz,↓reduceIte,reduceEqDiff,reduceAdd,a3]
 refine iT (fid:=95) (first:=#[]) (captured:=#[]) (Post:=fun _ g=>Fr h B g ∧ RAt g B (cmZ t0)) rfl (hoff _ _ _ rfl) (by simp (disch:=first|omega|simp only [aA,aB]<;>omega|decide) only [rUz,↓reduceIte,reduceEqDiff,reduceAdd]; exact sort_y S hoff h t0 ht hl h6 B hnh hr hfh) ?_
 rintro u g ⟨frg,hrg⟩
 simp (disch:=first|omega|simp only [aA,aB]<;>omega|decide) only [rUz,↓reduceIte,reduceEqDiff,reduceAdd]
 repeat refine S.seq ?_
 refine S.region ?_
 simp (disch:=first|omega|simp only [aA,aB]<;>omega|decide) only [rUz,↓reduceIte,reduceEqDiff,reduceAdd,a3]
 refine S.ret ?_
 try simp only [aJ,aF]
 subst hF
 simp only [finish,aI]
 rw [show Tryz.f75.results.toList = [.tmp 2] from rfl]
 simp (disch:=first|omega|simp only [aA,aB]<;>omega|decide) only [bK,aY,aS,aT,aQ,aU,aO,upd_ne,aP,aW,result1]
 exact hK _ _ ((fr.trans frg).toKp hk1 hB0) ⟨B,rfl,hrg,Nat.lt_of_lt_of_le hnh frg.le⟩
end Go.Proofs.Po
