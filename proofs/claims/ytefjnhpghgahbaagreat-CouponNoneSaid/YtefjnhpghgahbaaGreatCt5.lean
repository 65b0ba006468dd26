import Derived.Test.YtefjnhpghgahbaaGreatCt4
import Derived.Test.YtefjnhpghgahbaaGreatCs3
/- The reference: what is paid; two lists that are equal. -/
namespace Go.Ev
open Go.RowKit
end Go.Ev
namespace Go.Proofs.Cp
open Go Go.Ev
set_option linter.unusedSimpArgs false

variable {pr:Prim} {R:ExT}
structure IBf (x y:Value) (n:Nat) (H:AHeap) (k:Nat) (t:T Value) (h:AHeap):Prop where
 hh:h = H
 t0:tget t 0 = x
 t1:tget t 1 = y
 t5:tget t 5 = iv (k:Int)
 hk:k ≤ n
set_option maxHeartbeats 8000000 in
theorem before_y (S:Ev.Steps Tryz.prog pr R) (h0:AHeap) (x y:Value) (l:List Int) (hx:IAt h0 x l) (hy:IAt h0 y l) (hl:l.length ≤ 1000000) :
  Brings Tryz.prog R 36 [x,y] h0 fun u _=>u = .bool false:=by
 refine brings_of (fn:=Tryz.f36) (c:=(Tryz.f36.body).getD .skip) (by kernel_rfl) rfl (by kernel_rfl) rfl (fun K hK=>?_)
 generalize hF:finish Tryz.prog Tryz.f36 K = KF
 simp only [Tryz.f36,Option.getD_some,argsT,setArgs,fV1_eq,T.setK_eq,id]
 have lx:=fun t h1 o=>iv_len hx t h1 o
 have ly:=fun t h1 o=>iv_len hy t h1 o
 repeat refine S.seq ?_
 refine S.region ?_
 simp (disch:=first|omega|decide) only [rUz]
 repeat refine S.seq ?_
 refine S.region ?_
 simp (disch:=first|omega|decide) only [rUz]
 repeat refine S.seq ?_
 refine S.block ?_
 refine S.loop (ι:=Nat) (IBf x y l.length h0) (fun k=>l.length - k) ?_ 0 _ _ ?_
 rotate_left
 ·refine ⟨rfl,?_,?_,?_,Nat.zero_le _⟩
  all_goals (first|rfl|(simp (disch:=first|omega|decide) only [rUz]; done)|(simp (disch:=first|omega|decide) only [rUz]; rfl))
 intro k t h ⟨hh,t0,t1,t5,hk⟩ K' hn he
 subst hh
 cases e:decide ((k:Int) < (l.length:Int)) with
 | false =>
  repeat refine S.seq ?_
  refine S.region ?_
  simp (disch:=first|omega|decide) only [rUz,t0,t1,t5,lx,ly,e]
  repeat refine S.seq ?_
  refine S.cond (v:=false) (by first|rfl|(simp (disch:=first|omega|decide) only [rUz,↓reduceIte,Nat.reduceEqDiff,Nat.reduceAdd] <;> rfl)) (fun e=>by cases e) (fun _=>?_)
  refine S.exit (he _ _ _ _ (fun e=>by cases e) ?_)
  simp (disch:=first|omega|decide) only [rUz]
  repeat refine S.seq ?_
  refine S.region ?_
  simp (disch:=first|omega|decide) only [rUz,t0,t1,lx,ly,Int.lt_irrefl,decide_false]
  refine S.ret ?_
  try simp only [seqK_ret,blockK_ret]
  subst hF
  simp only [finish,endMarks]
  rw [show Tryz.f36.results.toList = [.tmp 4] from rfl]
  simp (disch:=first|omega|decide) only [resA,ev_tmp,tget_ne,tget_eq,get_ne,get_eq,upd_eq,upd_ne,ag_eq,ag_ne,result1]
  exact hK _ _ Kp.refl rfl
 | true =>
  have hkn:k < l.length:=by have:=of_decide_eq_true e; omega
  obtain ⟨b1,f1,o1,q1,q2,q3,q4⟩:=hx.idx slI s3' hkn
  obtain ⟨b2,f2,o2,r1,r2,r3,r4⟩:=hy.idx slI s3' hkn
  generalize l[k] = z at q4 r4
  repeat refine S.seq ?_
  refine S.region ?_
  simp (disch:=first|omega|decide) only [rUz,t0,t1,t5,lx,ly,e]
  repeat refine S.seq ?_
  refine S.cond (v:=true) (by first|rfl|(simp (disch:=first|omega|decide) only [rUz,↓reduceIte,Nat.reduceEqDiff,Nat.reduceAdd] <;> rfl)) (fun _=>?_) (fun e=>by cases e)
  repeat refine S.seq ?_
  refine S.skip ?_
  simp (disch:=first|omega|decide) only [rUz]
  repeat refine S.seq ?_
  refine S.block ?_
  repeat refine S.seq ?_
  refine S.drawnL [(false,0),(false,0),(false,3),(false,7),(false,0),(false,0),(false,48),(false,112),(false,255)] (by kernel_rfl) (by kernel_rfl) (by kernel_rfl) ?_
  simp (disch:=first|omega|decide) only [rUz,rDz,infoL,Nat.reduceSub,t0,t1,t5,q1,q3,r1,r3,p3,q4,r4,decide_true,Bool.not_true]
  repeat refine S.seq ?_
  refine S.cond (v:=false) (by first|rfl|(simp (disch:=first|omega|decide) only [rUz,↓reduceIte,Nat.reduceEqDiff,Nat.reduceAdd] <;> rfl)) (fun e=>by cases e) (fun _=>?_)
  repeat refine S.seq ?_
  refine S.skip ?_
  simp (disch:=first|omega|decide) only [rUz]
  repeat refine S.seq ?_
  refine S.region ?_
  simp (disch:=first|omega|decide) only [rUz,t5]
  refine hn (k + 1) _ _ (by omega) ⟨rfl,?_,?_,?_,by omega⟩
  all_goals (first|rfl|(simp (disch:=first|omega|decide) only [rUz,t0,t1]; done)|(simp (disch:=first|omega|decide) only [rUz,t0,t1]; rfl))
set_option maxHeartbeats 8000000 in
theorem same_y (S:Ev.Steps Tryz.prog pr R) (hoff:Off pr) (h0:AHeap) (x y:Value) (l:List Int) (hx:IAt h0 x l) (hy:IAt h0 y l) (hl:l.length ≤ 1000000) :
  Brings Tryz.prog R 14 [x,y] h0 fun u _=>u = .bool true:=by
 refine brings_of (fn:=Tryz.f14) (c:=(Tryz.f14.body).getD .skip) (by kernel_rfl) rfl (by kernel_rfl) rfl (fun K hK=>?_)
 generalize hF:finish Tryz.prog Tryz.f14 K = KF
 simp only [Tryz.f14,Option.getD_some,argsT,setArgs,fV1_eq,T.setK_eq,id]
 have lx:=fun t h1 o=>iv_len hx t h1 o
 have ly:=fun t h1 o=>iv_len hy t h1 o
 repeat refine S.seq ?_
 refine S.region ?_
 simp (disch:=first|omega|decide) only [rUz]
 repeat refine S.seq ?_
 refine S.region ?_
 simp (disch:=first|omega|decide) only [rUz,lx,ly,decide_true]
 refine wr_brings (fid:=36) (first:=#[]) (captured:=#[]) (Post:=fun u _=>u = .bool false) rfl (hoff _ _ _ rfl) (by simp (disch:=first|omega|decide) only [rUz]; exact before_y S _ x y l hx hy hl) ?_
 rintro u g hkg rfl
 simp (disch:=first|omega|decide) only [rUz,Bool.not_false]
 refine wr_brings (fid:=36) (first:=#[]) (captured:=#[]) (Post:=fun u _=>u = .bool false) rfl (hoff _ _ _ rfl) (by simp (disch:=first|omega|decide) only [rUz]; exact before_y S _ y x l (hy.mono hkg) (hx.mono hkg) hl) ?_
 rintro u g2 hkg2 rfl
 simp (disch:=first|omega|decide) only [rUz,Bool.not_false]
 refine S.ret ?_
 try simp only [seqK_ret,blockK_ret]
 subst hF
 simp only [finish,endMarks]
 rw [show Tryz.f14.results.toList = [.tmp 4] from rfl]
 simp (disch:=first|omega|decide) only [resA,ev_tmp,tget_ne,tget_eq,get_ne,get_eq,upd_eq,upd_ne,ag_eq,ag_ne,result1]
 exact hK _ _ (hkg.trans hkg2) rfl
end Go.Proofs.Cp
