import Derived.Test.YtefjnhpghgahbaaGreatCn1
/- What the reference says of a company: its error. -/
namespace Go.Proofs.Cp
open Go Go.Ev
set_option linter.unusedSimpArgs false

def okTr (hs:Int) (x:Tr):Bool:=inB x.se 0 (hs - 1) && (inB x.bu 0 (hs - 1) && (!decide (x.se = x.bu) && (inB x.sh 1 100 && (daysB x.so && (daysB x.de && (!decide (2 < x.so.2 - x.so.1) && !decide (2 < x.de.2 - x.de.1)))))))
def okDv (d:T3):Bool:=daysB (d.1,d.2.1) && inB d.2.2 0 50
def spOrd (last:Int):List T3 → Bool
 | []=>true
 | s :: r=>(inB s.1 (last + 1) 11 && (inB s.2.1 1 6 && inB s.2.2 1 4)) && spOrd s.1 r
def manyZ (c:Co):Bool:=decide (4 < c.hs) || (decide (4 < (c.tr.length:Int)) || (decide (3 < (c.dv.length:Int)) || (decide (2 < (c.sp.length:Int)) || decide (2 < (c.cl.length:Int)))))
def restZ (c:Co):Bool:=c.held.all (fun n=>inB n 0 100) && (c.tr.all (okTr c.hs) && (c.dv.all okDv && (spOrd (-1) c.sp && c.cl.all daysB)))
def faultZ (c:Co):Int:=bif manyZ c then 3 else bif decide (c.hs < 1) || !decide ((c.held.length:Int) = c.hs) then 1 else bif restZ c then 0 else 1
theorem r73 (x:Tr):partL Tryz.prog 25 (c7 x) 3 = some (.agg ⟨c2 x.so⟩):=part_at (n:=2) prR rfl rfl
theorem r75 (x:Tr):partL Tryz.prog 25 (c7 x) 5 = some (.agg ⟨c2 x.de⟩):=part_at (n:=2) prR rfl rfl
theorem bR2 (a b:Int):rBuild Tryz.prog 25 [(0,iv a),(1,iv b)] = some (.agg ⟨[iv a,iv b]⟩):=by kernel_rfl

variable {pr:Prim} {R:ExT}
set_option maxHeartbeats 4000000 in
theorem in_y (S:Ev.Steps Tryz.prog pr R) (h0:AHeap) (i lo hi:Int):Brings Tryz.prog R 19 [.int .i64 i,.int .i64 lo,.int .i64 hi] h0 fun v h=>v = .bool (inB i lo hi) ∧ h = h0:=by
 refine brings_of (fn:=Tryz.f19) (c:=(Tryz.f19.body).getD .skip) (by kernel_rfl) rfl (by kernel_rfl) rfl (fun K hK=>?_)
 generalize hF:finish Tryz.prog Tryz.f19 K = KF
 simp only [Tryz.f19,Option.getD_some,argsT,setArgs,fV1_eq,T.setK_eq,id]
 repeat refine S.seq ?_
 refine S.region ?_
 simp (disch:=first|omega|decide) only [rUz]
 unfold inB at hK
 by_cases h1:lo ≤ i
 ·have hd:decide (lo ≤ i) = true:=decide_eq_true h1
  rw [hd,Bool.true_and] at hK
  repeat refine S.seq ?_
  refine S.region ?_
  simp (disch:=first|omega|decide) only [rUz,hd]
  refine S.ret ?_
  try simp only [seqK_ret,blockK_ret]
  subst hF
  simp only [finish,endMarks]
  rw [show Tryz.f19.results.toList = [.tmp 6] from rfl]
  simp (disch:=first|omega|decide) only [resA,ev_tmp,tget_ne,tget_eq,get_ne,get_eq,upd_eq,upd_ne,ag_eq,ag_ne,result1]
  exact hK _ _ Kp.refl ⟨rfl,rfl⟩
 ·have hd:decide (lo ≤ i) = false:=decide_eq_false h1
  rw [hd,Bool.false_and] at hK
  repeat refine S.seq ?_
  refine S.region ?_
  simp (disch:=first|omega|decide) only [rUz,hd]
  refine S.ret ?_
  try simp only [seqK_ret,blockK_ret]
  subst hF
  simp only [finish,endMarks]
  rw [show Tryz.f19.results.toList = [.tmp 6] from rfl]
  simp (disch:=first|omega|decide) only [resA,ev_tmp,tget_ne,tget_eq,get_ne,get_eq,upd_eq,upd_ne,ag_eq,ag_ne,result1]
  exact hK _ _ Kp.refl ⟨rfl,rfl⟩

set_option maxHeartbeats 4000000 in
theorem days_y (S:Ev.Steps Tryz.prog pr R) (hoff:Off pr) (h0:AHeap) (r:R2):Brings Tryz.prog R 7 [.agg ⟨c2 r⟩] h0 fun v _=>v = .bool (daysB r):=by
 refine brings_of (fn:=Tryz.f7) (c:=(Tryz.f7.body).getD .skip) (by kernel_rfl) rfl (by kernel_rfl) rfl (fun K hK=>?_)
 generalize hF:finish Tryz.prog Tryz.f7 K = KF
 simp only [Tryz.f7,Option.getD_some,argsT,setArgs,fV1_eq,T.setK_eq,id]
 have hK1:∀ h,Kp (h0.add (c2 r)) h → K (.bool (daysB r)) h = true:=fun h hk=>hK _ _ (Kp.refl.add.trans hk) rfl
 clear hK
 repeat refine S.seq ?_
 refine S.region ?_
 simp (disch:=first|omega|decide) only [rUz]
 have hb:(h0.add (c2 r)).bl.get h0.nx = some (.cells (c2 r) h0.nx false):=ag_eq rfl
 generalize h0.add (c2 r) = H at hK1 hb ⊢
 generalize h0.nx = B at hb ⊢
 repeat refine S.seq ?_
 refine S.region ?_
 simp (disch:=first|omega|decide) only [rUz,hb,fieldAddr_ptr frR0 s3,fieldAddr_ptr frR1 s3,p3,c20,c21]
 refine wr_brings (fid:=19) (first:=#[]) (captured:=#[]) (Post:=fun v h=>v = .bool (inB r.1 0 r.2) ∧ h = H) rfl (hoff _ _ _ rfl) (by simp (disch:=first|omega|decide) only [rUz]; exact in_y S _ _ _ _) ?_
 rintro v g - ⟨rfl,rfl⟩
 unfold daysB at hK1
 cases h1:inB r.1 0 r.2 with
 | false =>
  rw [h1,Bool.false_and] at hK1
  simp (disch:=first|omega|decide) only [rUz,h1]
  refine S.ret ?_
  try simp only [seqK_ret,blockK_ret]
  subst hF
  simp only [finish,endMarks]
  rw [show Tryz.f7.results.toList = [.tmp 2] from rfl]
  simp (disch:=first|omega|decide) only [resA,ev_tmp,tget_ne,tget_eq,get_ne,get_eq,upd_eq,upd_ne,ag_eq,ag_ne,result1]
  exact hK1 _ Kp.refl
 | true =>
  rw [h1,Bool.true_and] at hK1
  simp (disch:=first|omega|decide) only [rUz,h1,hb,fieldAddr_ptr frR1 s3,p3,c21]
  refine S.ret ?_
  try simp only [seqK_ret,blockK_ret]
  subst hF
  simp only [finish,endMarks]
  rw [show Tryz.f7.results.toList = [.tmp 2] from rfl]
  simp (disch:=first|omega|decide) only [resA,ev_tmp,tget_ne,tget_eq,get_ne,get_eq,upd_eq,upd_ne,ag_eq,ag_ne,result1]
  exact hK1 _ Kp.refl

def thinB (c:Co) (a b:List Int):Bool:=decide ((c.held.length:Int) ≤ 7) && (decide ((c.tr.length:Int) ≤ 7) && (decide ((c.dv.length:Int) ≤ 7) && (decide ((c.sp.length:Int) ≤ 7) && (decide ((c.cl.length:Int) ≤ 7) && (decide ((a.length:Int) ≤ 7) && decide ((b.length:Int) ≤ 7))))))

def IFa (c:Co) (H:AHeap) (B1:Nat) (k:Nat) (t:T Value) (h:AHeap):Prop:=
 k ≤ c.held.length ∧ c.held.all (fun n=>inB n 0 100) = (c.held.drop k).all (fun n=>inB n 0 100) ∧ Kp H h ∧ tget t 1 = ptr0 B1 ∧ tget t 3 = iv (k:Int)
def IFb (c:Co) (H:AHeap) (B1:Nat) (k:Nat) (t:T Value) (h:AHeap):Prop:=
 k ≤ c.tr.length ∧ c.tr.all (okTr c.hs) = (c.tr.drop k).all (okTr c.hs) ∧ Kp H h ∧ tget t 1 = ptr0 B1 ∧ tget t 4 = iv (k:Int)
def IFc (c:Co) (H:AHeap) (B1:Nat) (k:Nat) (t:T Value) (h:AHeap):Prop:=
 k ≤ c.dv.length ∧ c.dv.all okDv = (c.dv.drop k).all okDv ∧ Kp H h ∧ tget t 1 = ptr0 B1 ∧ tget t 6 = iv (k:Int)
def IFd (c:Co) (H:AHeap) (B1:Nat) (k:Nat) (t:T Value) (h:AHeap):Prop:=
 k ≤ c.sp.length ∧ (∃ last:Int,tget t 8 = iv last ∧ -1 ≤ last ∧ last ≤ 11 ∧ spOrd (-1) c.sp = spOrd last (c.sp.drop k)) ∧ Kp H h ∧ tget t 1 = ptr0 B1 ∧ tget t 9 = iv (k:Int)
def IFe (c:Co) (H:AHeap) (B1:Nat) (k:Nat) (t:T Value) (h:AHeap):Prop:=
 k ≤ c.cl.length ∧ c.cl.all daysB = (c.cl.drop k).all daysB ∧ Kp H h ∧ tget t 1 = ptr0 B1 ∧ tget t 11 = iv (k:Int)

set_option maxHeartbeats 64000000 in
theorem fault_y (S:Ev.Steps Tryz.prog pr R) (hoff:Off pr) (h0:AHeap) (v:Vs) (c:Co) (hc:CoAt h0 v c) (hth:thinB c [] [] = true):Brings Tryz.prog R 44 [.agg ⟨coV c.hs v⟩] h0 fun u _=>u = iv (faultZ c):=by
 refine brings_of (fn:=Tryz.f44) (c:=(Tryz.f44.body).getD .skip) (by kernel_rfl) rfl (by kernel_rfl) rfl (fun K hK=>?_)
 generalize hF:finish Tryz.prog Tryz.f44 K = KF
 simp only [Tryz.f44,Option.getD_some,argsT,setArgs,fV1_eq,T.setK_eq,id]
 have hKr:∀ h,Kp (h0.add (coV c.hs v)) h → K (iv (faultZ c)) h = true:=fun h hk=>hK _ _ (Kp.refl.add.trans hk) rfl
 clear hK
 simp only [thinB,Bool.and_eq_true,decide_eq_true_eq,List.length_nil] at hth
 obtain ⟨th1,th2,th3,th4,th5,-⟩:=hth
 repeat refine S.seq ?_
 refine S.region ?_
 simp (disch:=first|omega|decide) only [rUz]
 have hb1:(h0.add (coV c.hs v)).bl.get h0.nx = some (.cells (coV c.hs v) h0.nx false):=ag_eq rfl
 have hc1:CoAt (h0.add (coV c.hs v)) v c:=hc.mono Kp.refl.add
 have hn1:h0.nx < (h0.add (coV c.hs v)).nx:=Nat.lt_succ_self _
 generalize h0.add (coV c.hs v) = H1 at hKr hb1 hc1 hn1 ⊢
 generalize h0.nx = B1 at hb1 hn1 ⊢
 have l1:=iv_len hc1.held
 have l2:=fun t h1 o=>row_len hc1.tr isrT t h1 o
 have l3:=fun t h1 o=>row_len hc1.dv isrD t h1 o
 have l4:=fun t h1 o=>row_len hc1.sp isrS t h1 o
 have l5:=fun t h1 o=>row_len hc1.cl isrR t h1 o
 unfold faultZ at hKr
 repeat refine S.seq ?_
 refine S.region ?_
 generalize hJJ:(fun (t:T Value) (h:AHeap)=>_) = KJ
 suffices hJ:∀ t,tget t 1 = ptr0 B1 → tget t 38 = .bool (manyZ c) → KJ t H1 = true by
  clear hJJ hKr
  unfold manyZ at hJ
  cases e0:decide (4 < c.hs) with
  | true =>
   simp (disch:=first|omega|decide) only [rUz,hb1,fieldAddr_ptr fA0 s3,p3,co0,fieldAddr_ptr fA1 lI,fieldAddr_ptr fA2 lrT,fieldAddr_ptr fA3 lrD,fieldAddr_ptr fA4 lrS,fieldAddr_ptr fA5 lrR,qI,qrT,qrD,qrS,qrR,co1,co2,co3,co4,co5,l1,l2,l3,l4,l5,e0]
   refine hJ _ ?_ ?_
   all_goals (first|rfl|(simp (disch:=first|omega|decide) only [rUz,e0,Bool.true_or,Bool.false_or]; done)|(simp (disch:=first|omega|decide) only [rUz,e0,Bool.true_or,Bool.false_or]; rfl))
  | false =>
  cases e1:decide (4 < (c.tr.length:Int)) with
  | true =>
   simp (disch:=first|omega|decide) only [rUz,hb1,fieldAddr_ptr fA0 s3,p3,co0,fieldAddr_ptr fA1 lI,fieldAddr_ptr fA2 lrT,fieldAddr_ptr fA3 lrD,fieldAddr_ptr fA4 lrS,fieldAddr_ptr fA5 lrR,qI,qrT,qrD,qrS,qrR,co1,co2,co3,co4,co5,l1,l2,l3,l4,l5,e0,e1]
   refine hJ _ ?_ ?_
   all_goals (first|rfl|(simp (disch:=first|omega|decide) only [rUz,e0,e1,Bool.true_or,Bool.false_or]; done)|(simp (disch:=first|omega|decide) only [rUz,e0,e1,Bool.true_or,Bool.false_or]; rfl))
  | false =>
  cases e2:decide (3 < (c.dv.length:Int)) with
  | true =>
   simp (disch:=first|omega|decide) only [rUz,hb1,fieldAddr_ptr fA0 s3,p3,co0,fieldAddr_ptr fA1 lI,fieldAddr_ptr fA2 lrT,fieldAddr_ptr fA3 lrD,fieldAddr_ptr fA4 lrS,fieldAddr_ptr fA5 lrR,qI,qrT,qrD,qrS,qrR,co1,co2,co3,co4,co5,l1,l2,l3,l4,l5,e0,e1,e2]
   refine hJ _ ?_ ?_
   all_goals (first|rfl|(simp (disch:=first|omega|decide) only [rUz,e0,e1,e2,Bool.true_or,Bool.false_or]; done)|(simp (disch:=first|omega|decide) only [rUz,e0,e1,e2,Bool.true_or,Bool.false_or]; rfl))
  | false =>
  cases e3:decide (2 < (c.sp.length:Int)) with
  | true =>
   simp (disch:=first|omega|decide) only [rUz,hb1,fieldAddr_ptr fA0 s3,p3,co0,fieldAddr_ptr fA1 lI,fieldAddr_ptr fA2 lrT,fieldAddr_ptr fA3 lrD,fieldAddr_ptr fA4 lrS,fieldAddr_ptr fA5 lrR,qI,qrT,qrD,qrS,qrR,co1,co2,co3,co4,co5,l1,l2,l3,l4,l5,e0,e1,e2,e3]
   refine hJ _ ?_ ?_
   all_goals (first|rfl|(simp (disch:=first|omega|decide) only [rUz,e0,e1,e2,e3,Bool.true_or,Bool.false_or]; done)|(simp (disch:=first|omega|decide) only [rUz,e0,e1,e2,e3,Bool.true_or,Bool.false_or]; rfl))
  | false =>
  cases e4:decide (2 < (c.cl.length:Int)) with
  | true =>
   simp (disch:=first|omega|decide) only [rUz,hb1,fieldAddr_ptr fA0 s3,p3,co0,fieldAddr_ptr fA1 lI,fieldAddr_ptr fA2 lrT,fieldAddr_ptr fA3 lrD,fieldAddr_ptr fA4 lrS,fieldAddr_ptr fA5 lrR,qI,qrT,qrD,qrS,qrR,co1,co2,co3,co4,co5,l1,l2,l3,l4,l5,e0,e1,e2,e3,e4]
   refine hJ _ ?_ ?_
   all_goals (first|rfl|(simp (disch:=first|omega|decide) only [rUz,e0,e1,e2,e3,e4,Bool.true_or,Bool.false_or]; done)|(simp (disch:=first|omega|decide) only [rUz,e0,e1,e2,e3,e4,Bool.true_or,Bool.false_or]; rfl))
  | false =>
  simp (disch:=first|omega|decide) only [rUz,hb1,fieldAddr_ptr fA0 s3,p3,co0,fieldAddr_ptr fA1 lI,fieldAddr_ptr fA2 lrT,fieldAddr_ptr fA3 lrD,fieldAddr_ptr fA4 lrS,fieldAddr_ptr fA5 lrR,qI,qrT,qrD,qrS,qrR,co1,co2,co3,co4,co5,l1,l2,l3,l4,l5,e0,e1,e2,e3,e4]
  refine hJ _ ?_ ?_
  all_goals (first|rfl|(simp (disch:=first|omega|decide) only [rUz,e0,e1,e2,e3,e4,Bool.true_or,Bool.false_or]; done)|(simp (disch:=first|omega|decide) only [rUz,e0,e1,e2,e3,e4,Bool.true_or,Bool.false_or]; rfl))
 intro t t1 t38
 subst hJJ
 simp only [seqK_normal]
 cases em:manyZ c with
 | true =>
  rw [em,cond_true] at hKr
  repeat refine S.seq ?_
  refine S.cond (v:=true) (by first|rfl|(simp (disch:=first|omega|decide) only [rUz,↓reduceIte,Nat.reduceEqDiff,Nat.reduceAdd,t38,em] <;> rfl)) (fun _=>?_) (fun e=>by cases e)
  repeat refine S.seq ?_
  refine S.region ?_
  simp (disch:=first|omega|decide) only [rUz]
  refine S.ret ?_
  try simp only [seqK_ret,blockK_ret]
  subst hF
  simp only [finish,endMarks]
  rw [show Tryz.f44.results.toList = [.tmp 2] from rfl]
  simp (disch:=first|omega|decide) only [resA,ev_tmp,tget_ne,tget_eq,get_ne,get_eq,upd_eq,upd_ne,ag_eq,ag_ne,result1]
  exact hKr _ Kp.refl
 | false =>
 rw [em,cond_false] at hKr
 have em0:=em
 simp only [manyZ,Bool.or_eq_false_iff,decide_eq_false_iff_not] at em
 obtain ⟨m1,m2,m3,m4,m5⟩:=em
 repeat refine S.seq ?_
 refine S.cond (v:=false) (by first|rfl|(simp (disch:=first|omega|decide) only [rUz,↓reduceIte,Nat.reduceEqDiff,Nat.reduceAdd,t38,em0] <;> rfl)) (fun e=>by cases e) (fun _=>?_)
 repeat refine S.seq ?_
 refine S.skip ?_
 simp (disch:=first|omega|decide) only [rUz]
 clear t38
 repeat refine S.seq ?_
 refine S.region ?_
 generalize hJJ:(fun (t:T Value) (h:AHeap)=>_) = KJ
 suffices hJ:∀ t,tget t 1 = ptr0 B1 → tget t 49 = .bool (decide (c.hs < 1) || !decide ((c.held.length:Int) = c.hs)) → KJ t H1 = true by
  clear hJJ hKr
  cases e1:decide (c.hs < 1) with
  | true =>
   simp (disch:=first|omega|decide) only [rUz,t1,hb1,fieldAddr_ptr fA0 s3,p3,co0,e1]
   refine hJ _ ?_ ?_
   all_goals (first|rfl|(simp (disch:=first|omega|decide) only [rUz,t1,e1,Bool.true_or]; done)|(simp (disch:=first|omega|decide) only [rUz,t1,e1,Bool.true_or]; rfl))
  | false =>
   simp (disch:=first|omega|decide) only [rUz,t1,hb1,fieldAddr_ptr fA0 s3,fieldAddr_ptr fA1 lI,p3,qI,co0,co1,l1,e1]
   refine hJ _ ?_ ?_
   all_goals (first|rfl|(simp (disch:=first|omega|decide) only [rUz,t1,e1,Bool.false_or]; done)|(simp (disch:=first|omega|decide) only [rUz,t1,e1,Bool.false_or]; rfl))
 intro t t1 t49
 subst hJJ
 simp only [seqK_normal]
 cases em:(decide (c.hs < 1) || !decide ((c.held.length:Int) = c.hs)) with
 | true =>
  rw [em,cond_true] at hKr
  repeat refine S.seq ?_
  refine S.cond (v:=true) (by first|rfl|(simp (disch:=first|omega|decide) only [rUz,↓reduceIte,Nat.reduceEqDiff,Nat.reduceAdd,t49,em] <;> rfl)) (fun _=>?_) (fun e=>by cases e)
  repeat refine S.seq ?_
  refine S.region ?_
  simp (disch:=first|omega|decide) only [rUz]
  refine S.ret ?_
  try simp only [seqK_ret,blockK_ret]
  subst hF
  simp only [finish,endMarks]
  rw [show Tryz.f44.results.toList = [.tmp 2] from rfl]
  simp (disch:=first|omega|decide) only [resA,ev_tmp,tget_ne,tget_eq,get_ne,get_eq,upd_eq,upd_ne,ag_eq,ag_ne,result1]
  exact hKr _ Kp.refl
 | false =>
 rw [em,cond_false] at hKr
 have em0:=em
 simp only [Bool.or_eq_false_iff,decide_eq_false_iff_not,Bool.not_eq_false',decide_eq_true_eq] at em
 obtain ⟨g1,g2⟩:=em
 repeat refine S.seq ?_
 refine S.cond (v:=false) (by first|rfl|(simp (disch:=first|omega|decide) only [rUz,↓reduceIte,Nat.reduceEqDiff,Nat.reduceAdd,t49,em0] <;> rfl)) (fun e=>by cases e) (fun _=>?_)
 repeat refine S.seq ?_
 refine S.skip ?_
 simp (disch:=first|omega|decide) only [rUz]
 clear t49
 have hh1:1 ≤ c.hs:=by omega
 have hh4:c.hs ≤ 4:=by omega
 have hK1:restZ c = false → ∀ h,Kp H1 h → K (iv 1) h = true:=fun e h hk=>by have:=hKr h hk; rwa [e,cond_false] at this
 have hK0:restZ c = true → ∀ h,Kp H1 h → K (iv 0) h = true:=fun e h hk=>by have:=hKr h hk; rwa [e,cond_true] at this
 clear hKr
 unfold restZ at hK1 hK0
 clear m1 m2 m3 m4 m5 g1 l2 l3 l4 l5
 repeat refine S.seq ?_
 refine S.region ?_
 simp (disch:=first|omega|decide) only [rUz]
 repeat refine S.seq ?_
 refine S.block ?_
 refine S.loop (ι:=Nat) (IFa c H1 B1) (fun k=>c.held.length - k) ?_ 0 _ _ ?_
 rotate_left
 ·refine ⟨Nat.zero_le _,by rw [List.drop_zero],Kp.refl,?_,?_⟩
  all_goals (first|rfl|(simp (disch:=first|omega|decide) only [rUz,t1]; done)|(simp (disch:=first|omega|decide) only [rUz,t1]; rfl))
 clear t1
 intro k t h ⟨hk,hall,hkp,t1,t3⟩ K' hn he
 have hb:=(hkp.get hn1).trans hb1
 have hnx:=hkp.1
 repeat refine S.seq ?_
 refine S.region ?_
 simp (disch:=first|omega|decide) only [rUz,t1,t3,fieldAddr_ptr fA0 s3,p3,co0,hb]
 repeat refine S.seq ?_
 refine S.cond (v:=decide ((k:Int) < c.hs)) (by first|rfl|(simp (disch:=first|omega|decide) only [rUz,↓reduceIte,Nat.reduceEqDiff,Nat.reduceAdd] <;> rfl)) (fun e=>?_) (fun e=>?_)
 ·have hkn:k < c.held.length:=by have:=of_decide_eq_true e; omega
  clear e
  rw [List.drop_eq_getElem_cons hkn,List.all_cons] at hall
  obtain ⟨b,f,ro,q1,q2,q3,q4⟩:=(hc1.mono hkp).held.idx slI s3' hkn
  generalize c.held[k] = x at hall q4
  repeat refine S.seq ?_
  refine S.skip ?_
  simp (disch:=first|omega|decide) only [rUz]
  repeat refine S.seq ?_
  refine S.block ?_
  repeat refine S.seq ?_
  refine S.region ?_
  simp (disch:=first|omega|decide) only [rUz,t1,t3,fieldAddr_ptr fA1 lI,qI,p3,co1,hb,q1,q3,q4]
  refine wr_brings (fid:=19) (first:=#[]) (captured:=#[]) (Post:=fun v g=>v = .bool (inB x 0 100) ∧ g = h) rfl (hoff _ _ _ rfl) (by simp (disch:=first|omega|decide) only [rUz]; exact in_y S _ _ _ _) ?_
  rintro u g - ⟨rfl,rfl⟩
  simp (disch:=first|omega|decide) only [rUz,un_not]
  cases hx:inB x 0 100 with
  | false =>
   rw [hx,Bool.false_and] at hall
   repeat refine S.seq ?_
   refine S.cond (v:=true) (by first|rfl|(simp (disch:=first|omega|decide) only [rUz,↓reduceIte,Nat.reduceEqDiff,Nat.reduceAdd,hx,Bool.not_false] <;> rfl)) (fun _=>?_) (fun e=>by cases e)
   repeat refine S.seq ?_
   refine S.region ?_
   simp (disch:=first|omega|decide) only [rUz]
   refine S.ret ?_
   simp only [seqK_ret,blockK_ret]
   refine he _ _ _ _ (fun e=>by cases e) ?_
   try simp only [seqK_ret,blockK_ret]
   subst hF
   simp only [finish,endMarks]
   rw [show Tryz.f44.results.toList = [.tmp 2] from rfl]
   simp (disch:=first|omega|decide) only [resA,ev_tmp,tget_ne,tget_eq,get_ne,get_eq,upd_eq,upd_ne,ag_eq,ag_ne,result1]
   exact hK1 (by rw [hall,Bool.false_and]) _ hkp
  | true =>
   rw [hx,Bool.true_and] at hall
   repeat refine S.seq ?_
   refine S.cond (v:=false) (by first|rfl|(simp (disch:=first|omega|decide) only [rUz,↓reduceIte,Nat.reduceEqDiff,Nat.reduceAdd,hx,Bool.not_true] <;> rfl)) (fun e=>by cases e) (fun _=>?_)
   repeat refine S.seq ?_
   refine S.skip ?_
   simp (disch:=first|omega|decide) only [rUz]
   repeat refine S.seq ?_
   refine S.region ?_
   simp (disch:=first|omega|decide) only [rUz,t3]
   refine hn (k + 1) _ _ (by omega) ⟨by omega,hall,hkp,?_,?_⟩
   all_goals (first|rfl|(simp (disch:=first|omega|decide) only [rUz,t1,t3]; done)|(simp (disch:=first|omega|decide) only [rUz,t1,t3]; rfl))
 have hkn:k = c.held.length:=by have:=of_decide_eq_false e; omega
 subst hkn
 rw [List.drop_of_length_le (Nat.le_refl _),List.all_nil] at hall
 have eA:=hall
 refine S.exit (he _ _ _ _ (fun e=>by cases e) ?_)
 clear hn he K'
 simp (disch:=first|omega|decide) only [rUz]
 clear t3 hall e hk hb hnx
 repeat refine S.seq ?_
 refine S.region ?_
 simp (disch:=first|omega|decide) only [rUz]
 repeat refine S.seq ?_
 refine S.block ?_
 refine S.loop (ι:=Nat) (IFb c H1 B1) (fun k=>c.tr.length - k) ?_ 0 _ _ ?_
 rotate_left
 ·refine ⟨Nat.zero_le _,by rw [List.drop_zero],hkp,?_,?_⟩
  all_goals (first|rfl|(simp (disch:=first|omega|decide) only [rUz,t1]; done)|(simp (disch:=first|omega|decide) only [rUz,t1]; rfl))
 clear t1 hkp
 clear h t
 intro k t h ⟨hk,hall,hkp,t1,t4⟩ K' hn he
 have hb:=(hkp.get hn1).trans hb1
 have hnx:=hkp.1
 have l2:=fun t h1 o=>row_len (hc1.mono hkp).tr isrT t h1 o
 repeat refine S.seq ?_
 refine S.region ?_
 simp (disch:=first|omega|decide) only [rUz,t1,t4,fieldAddr_ptr fA2 lrT,qrT,co2,hb,l2]
 repeat refine S.seq ?_
 refine S.cond (v:=decide ((k:Int) < (c.tr.length:Int))) (by first|rfl|(simp (disch:=first|omega|decide) only [rUz,↓reduceIte,Nat.reduceEqDiff,Nat.reduceAdd] <;> rfl)) (fun e=>?_) (fun e=>?_)
 ·have hkn:k < c.tr.length:=by have:=of_decide_eq_true e; omega
  clear e
  have hps:c.tr[k]? = some c.tr[k]:=List.getElem?_eq_getElem hkn
  rw [List.drop_eq_getElem_cons hkn,List.all_cons] at hall
  generalize c.tr[k] = x at hall hps
  obtain ⟨b,f,ro,cells,q1,q2,q3,q4,q5,_⟩:=row_idx (hc1.mono hkp).tr slrT srT hps
  have qp:=part_at prT q4 q5
  repeat refine S.seq ?_
  refine S.skip ?_
  simp (disch:=first|omega|decide) only [rUz]
  repeat refine S.seq ?_
  refine S.block ?_
  repeat refine S.seq ?_
  refine S.region ?_
  simp (disch:=first|omega|decide) only [rUz,t1,t4,fieldAddr_ptr fA2 lrT,qrT,co2,hb,q1,q3,qp,wr_alloc zrT]
  refine wr_storeN (B:=h.nx) (c:=[iv 0,iv 0,iv 0,iv 0,iv 0,iv 0,iv 0]) (fam:=h.nx) (k:=h.nx) (l:=c7 x) (by simp (disch:=first|omega|decide) only [rUz]) (by simp (disch:=first|omega|decide) only [rUz]) srT (by omega) rfl (ag_eq rfl) (af_eq rfl) rfl ?_
  have hk4:Kp H1 ((h.add [iv 0,iv 0,iv 0,iv 0,iv 0,iv 0,iv 0]).upd h.nx (c7 x) h.nx):=hkp.add.upd hnx
  have hg4:((h.add [iv 0,iv 0,iv 0,iv 0,iv 0,iv 0,iv 0]).upd h.nx (c7 x) h.nx).bl.get h.nx = some (.cells (c7 x) h.nx false):=upd_eq _ _ _
  have hn4:h.nx < ((h.add [iv 0,iv 0,iv 0,iv 0,iv 0,iv 0,iv 0]).upd h.nx (c7 x) h.nx).nx:=Nat.lt_succ_self _
  simp (disch:=first|omega|decide) only [rUz]
  generalize (h.add [iv 0,iv 0,iv 0,iv 0,iv 0,iv 0,iv 0]).upd h.nx (c7 x) h.nx = h4 at hk4 hg4 hn4 ⊢
  generalize h.nx = B4 at hg4 hn4 ⊢
  have hb4:=(hk4.get hn1).trans hb1
  clear q1 q2 q3 q4 q5 qp hb hnx hkp l2 l1
  clear h
  repeat refine S.seq ?_
  refine S.region ?_
  generalize hJJ:(fun (t:T Value) (h:AHeap)=>_) = KJ
  suffices hJ:∀ t h,Kp h4 h → tget t 1 = ptr0 B1 → tget t 4 = iv (k:Int) → tget t 135 = .bool (!okTr c.hs x) → KJ t h = true by
   clear hJJ hn he hK1 hK0 hall
   simp (disch:=first|omega|decide) only [rUz,t1,fieldAddr_ptr frT0 s3,fieldAddr_ptr fA0 s3,p3,hg4,hb4,c70,co0]
   refine wr_brings (fid:=19) (first:=#[]) (captured:=#[]) (Post:=fun v g=>v = .bool (inB x.se 0 (c.hs - 1)) ∧ g = h4) rfl (hoff _ _ _ rfl) (by simp (disch:=first|omega|decide) only [rUz]; exact in_y S _ _ _ _) ?_
   rintro u g - ⟨rfl,rfl⟩
   unfold okTr at hJ
   cases h1:inB x.se 0 (c.hs - 1) with
   | false =>
    simp (disch:=first|omega|decide) only [rUz,h1,Bool.not_false]
    refine hJ _ _ Kp.refl ?_ ?_ ?_
    all_goals (first|rfl|(simp (disch:=first|omega|decide) only [rUz,t1,t4,h1,Bool.false_and,Bool.not_false]; done)|(simp (disch:=first|omega|decide) only [rUz,t1,t4,h1,Bool.false_and,Bool.not_false]; rfl))
   | true =>
   simp (disch:=first|omega|decide) only [rUz,h1,Bool.not_true,t1,fieldAddr_ptr frT1 s3,fieldAddr_ptr fA0 s3,p3,hg4,hb4,c71,co0]
   refine wr_brings (fid:=19) (first:=#[]) (captured:=#[]) (Post:=fun v g'=>v = .bool (inB x.bu 0 (c.hs - 1)) ∧ g' = g) rfl (hoff _ _ _ rfl) (by simp (disch:=first|omega|decide) only [rUz]; exact in_y S _ _ _ _) ?_
   rintro u g2 - ⟨rfl,rfl⟩
   cases h2:inB x.bu 0 (c.hs - 1) with
   | false =>
    simp (disch:=first|omega|decide) only [rUz,h2,Bool.not_false]
    refine hJ _ _ Kp.refl ?_ ?_ ?_
    all_goals (first|rfl|(simp (disch:=first|omega|decide) only [rUz,t1,t4,h1,h2,Bool.false_and,Bool.true_and,Bool.not_false]; done)|(simp (disch:=first|omega|decide) only [rUz,t1,t4,h1,h2,Bool.false_and,Bool.true_and,Bool.not_false]; rfl))
   | true =>
   cases h3:decide (x.se = x.bu) with
   | true =>
    simp (disch:=first|omega|decide) only [rUz,h2,Bool.not_true,t1,fieldAddr_ptr frT0 s3,fieldAddr_ptr frT1 s3,p3,hg4,c70,c71,h3]
    refine hJ _ _ Kp.refl ?_ ?_ ?_
    all_goals (first|rfl|(simp (disch:=first|omega|decide) only [rUz,t1,t4,h1,h2,h3,Bool.false_and,Bool.true_and,Bool.not_true,Bool.not_false]; done)|(simp (disch:=first|omega|decide) only [rUz,t1,t4,h1,h2,h3,Bool.false_and,Bool.true_and,Bool.not_true,Bool.not_false]; rfl))
   | false =>
   simp (disch:=first|omega|decide) only [rUz,h2,Bool.not_true,t1,fieldAddr_ptr frT0 s3,fieldAddr_ptr frT1 s3,fieldAddr_ptr frT2 s3,p3,hg4,c70,c71,c72,h3]
   refine wr_brings (fid:=19) (first:=#[]) (captured:=#[]) (Post:=fun v g'=>v = .bool (inB x.sh 1 100) ∧ g' = g2) rfl (hoff _ _ _ rfl) (by simp (disch:=first|omega|decide) only [rUz]; exact in_y S _ _ _ _) ?_
   rintro u g3 - ⟨rfl,rfl⟩
   cases h4:inB x.sh 1 100 with
   | false =>
    simp (disch:=first|omega|decide) only [rUz,h4,Bool.not_false]
    refine hJ _ _ Kp.refl ?_ ?_ ?_
    all_goals (first|rfl|(simp (disch:=first|omega|decide) only [rUz,t1,t4,h1,h2,h3,h4,Bool.false_and,Bool.true_and,Bool.not_true,Bool.not_false]; done)|(simp (disch:=first|omega|decide) only [rUz,t1,t4,h1,h2,h3,h4,Bool.false_and,Bool.true_and,Bool.not_true,Bool.not_false]; rfl))
   | true =>
   simp (disch:=first|omega|decide) only [rUz,h4,Bool.not_true,t1,fieldAddr_ptr frT3 SrR,hg4,r73]
   refine wr_brings (fid:=7) (first:=#[]) (captured:=#[]) (Post:=fun v _=>v = .bool (daysB x.so)) rfl (hoff _ _ _ rfl) (by simp (disch:=first|omega|decide) only [rUz]; exact days_y S hoff _ _) ?_
   rintro u g4 hkA rfl
   have hgA:=(hkA.get hn4).trans hg4
   cases h5:daysB x.so with
   | false =>
    simp (disch:=first|omega|decide) only [rUz,h5,Bool.not_false]
    refine hJ _ _ hkA ?_ ?_ ?_
    all_goals (first|rfl|(simp (disch:=first|omega|decide) only [rUz,t1,t4,h1,h2,h3,h4,h5,Bool.false_and,Bool.true_and,Bool.not_true,Bool.not_false]; done)|(simp (disch:=first|omega|decide) only [rUz,t1,t4,h1,h2,h3,h4,h5,Bool.false_and,Bool.true_and,Bool.not_true,Bool.not_false]; rfl))
   | true =>
   simp (disch:=first|omega|decide) only [rUz,h5,Bool.not_true,t1,fieldAddr_ptr frT4 SrR,hgA,r75]
   refine wr_brings (fid:=7) (first:=#[]) (captured:=#[]) (Post:=fun v _=>v = .bool (daysB x.de)) rfl (hoff _ _ _ rfl) (by simp (disch:=first|omega|decide) only [rUz]; exact days_y S hoff _ _) ?_
   rintro u g5 hkB rfl
   have hkC:=hkA.trans hkB
   have hgC:=(hkC.get hn4).trans hg4
   cases h6:daysB x.de with
   | false =>
    simp (disch:=first|omega|decide) only [rUz,↓reduceIte,Nat.reduceEqDiff,Nat.reduceAdd,h6,Bool.not_false]
    refine hJ _ _ hkC ?_ ?_ ?_
    all_goals (first|rfl|(simp (disch:=first|omega|decide) only [rUz,↓reduceIte,Nat.reduceEqDiff,Nat.reduceAdd,t1,t4,h1,h2,h3,h4,h5,h6,Bool.false_and,Bool.true_and,Bool.not_true,Bool.not_false]; done)|(simp (disch:=first|omega|decide) only [rUz,↓reduceIte,Nat.reduceEqDiff,Nat.reduceAdd,t1,t4,h1,h2,h3,h4,h5,h6,Bool.false_and,Bool.true_and,Bool.not_true,Bool.not_false]; rfl))
   | true =>
   obtain ⟨d1,d2,d3⟩:=daysB_iff.1 h5
   obtain ⟨d4,d5,d6⟩:=daysB_iff.1 h6
   cases h7:decide (2 < x.so.2 - x.so.1) with
   | true =>
    simp (disch:=first|omega|(simp only [nZ] <;> omega)|decide) only [rUz,↓reduceIte,Nat.reduceEqDiff,Nat.reduceAdd,h6,Bool.not_true,t1,fieldAddr_ptr frT3 SrR,fieldAddr_ptr frR0 s3,fieldAddr_ptr frR1 s3,p3,hgC,c73,c74,h7]
    refine hJ _ _ hkC ?_ ?_ ?_
    all_goals (first|rfl|(simp (disch:=first|omega|decide) only [rUz,↓reduceIte,Nat.reduceEqDiff,Nat.reduceAdd,t1,t4,h1,h2,h3,h4,h5,h6,h7,Bool.false_and,Bool.true_and,Bool.not_true,Bool.not_false]; done)|(simp (disch:=first|omega|decide) only [rUz,↓reduceIte,Nat.reduceEqDiff,Nat.reduceAdd,t1,t4,h1,h2,h3,h4,h5,h6,h7,Bool.false_and,Bool.true_and,Bool.not_true,Bool.not_false]; rfl))
   | false =>
   simp (disch:=first|omega|decide) only [rUz,↓reduceIte,Nat.reduceEqDiff,Nat.reduceAdd,h6,Bool.not_true,t1,fieldAddr_ptr frT3 SrR,fieldAddr_ptr frT4 SrR,fieldAddr_ptr frR0 s3,fieldAddr_ptr frR1 s3,p3,hgC,c73,c74,c75,c76,h7]
   refine hJ _ _ hkC ?_ ?_ ?_
   all_goals (first|rfl|(simp (disch:=first|omega|decide) only [rUz,t1,t4,h1,h2,h3,h4,h5,h6,h7,Bool.false_and,Bool.true_and,Bool.not_true,Bool.not_false,Bool.not_not]; done)|(simp (disch:=first|omega|decide) only [rUz,t1,t4,h1,h2,h3,h4,h5,h6,h7,Bool.false_and,Bool.true_and,Bool.not_true,Bool.not_false,Bool.not_not]; rfl))
  intro t h hkh t1 t4 t135
  subst hJJ
  simp only [seqK_normal]
  have hkh:=hk4.trans hkh
  cases hok:okTr c.hs x with
  | false =>
   rw [hok,Bool.false_and] at hall
   repeat refine S.seq ?_
   refine S.cond (v:=true) (by first|rfl|(simp (disch:=first|omega|decide) only [rUz,↓reduceIte,Nat.reduceEqDiff,Nat.reduceAdd,t135,hok,Bool.not_false] <;> rfl)) (fun _=>?_) (fun e=>by cases e)
   repeat refine S.seq ?_
   refine S.region ?_
   simp (disch:=first|omega|decide) only [rUz]
   refine S.ret ?_
   simp only [seqK_ret,blockK_ret]
   refine he _ _ _ _ (fun e=>by cases e) ?_
   try simp only [seqK_ret,blockK_ret]
   subst hF
   simp only [finish,endMarks]
   rw [show Tryz.f44.results.toList = [.tmp 2] from rfl]
   simp (disch:=first|omega|decide) only [resA,ev_tmp,tget_ne,tget_eq,get_ne,get_eq,upd_eq,upd_ne,ag_eq,ag_ne,result1]
   exact hK1 (by rw [eA,hall]; rfl) _ hkh
  | true =>
   rw [hok,Bool.true_and] at hall
   repeat refine S.seq ?_
   refine S.cond (v:=false) (by first|rfl|(simp (disch:=first|omega|decide) only [rUz,↓reduceIte,Nat.reduceEqDiff,Nat.reduceAdd,t135,hok,Bool.not_true] <;> rfl)) (fun e=>by cases e) (fun _=>?_)
   repeat refine S.seq ?_
   refine S.skip ?_
   simp (disch:=first|omega|decide) only [rUz]
   repeat refine S.seq ?_
   refine S.region ?_
   simp (disch:=first|omega|decide) only [rUz,t4]
   refine hn (k + 1) _ _ (by omega) ⟨by omega,hall,hkh,?_,?_⟩
   all_goals (first|rfl|(simp (disch:=first|omega|decide) only [rUz,t1,t4]; done)|(simp (disch:=first|omega|decide) only [rUz,t1,t4]; rfl))
 have hkn:k = c.tr.length:=by have:=of_decide_eq_false e; omega
 subst hkn
 rw [List.drop_of_length_le (Nat.le_refl _),List.all_nil] at hall
 have eB:=hall
 refine S.exit (he _ _ _ _ (fun e=>by cases e) ?_)
 clear hn he K'
 simp (disch:=first|omega|decide) only [rUz]
 clear t4 hall e hk hb hnx l2
 repeat refine S.seq ?_
 refine S.region ?_
 simp (disch:=first|omega|decide) only [rUz]
 repeat refine S.seq ?_
 refine S.block ?_
 refine S.loop (ι:=Nat) (IFc c H1 B1) (fun k=>c.dv.length - k) ?_ 0 _ _ ?_
 rotate_left
 ·refine ⟨Nat.zero_le _,by rw [List.drop_zero],hkp,?_,?_⟩
  all_goals (first|rfl|(simp (disch:=first|omega|decide) only [rUz,t1]; done)|(simp (disch:=first|omega|decide) only [rUz,t1]; rfl))
 clear t1 hkp
 clear h t
 intro k t h ⟨hk,hall,hkp,t1,t6⟩ K' hn he
 have hb:=(hkp.get hn1).trans hb1
 have hnx:=hkp.1
 have l3:=fun t h1 o=>row_len (hc1.mono hkp).dv isrD t h1 o
 repeat refine S.seq ?_
 refine S.region ?_
 simp (disch:=first|omega|decide) only [rUz,t1,t6,fieldAddr_ptr fA3 lrD,qrD,co3,hb,l3]
 repeat refine S.seq ?_
 refine S.cond (v:=decide ((k:Int) < (c.dv.length:Int))) (by first|rfl|(simp (disch:=first|omega|decide) only [rUz,↓reduceIte,Nat.reduceEqDiff,Nat.reduceAdd] <;> rfl)) (fun e=>?_) (fun e=>?_)
 ·have hkn:k < c.dv.length:=by have:=of_decide_eq_true e; omega
  clear e
  have hps:c.dv[k]? = some c.dv[k]:=List.getElem?_eq_getElem hkn
  rw [List.drop_eq_getElem_cons hkn,List.all_cons] at hall
  generalize c.dv[k] = x at hall hps
  obtain ⟨b,f,ro,cells,q1,q2,q3,q4,q5,_⟩:=row_idx (hc1.mono hkp).dv slrD srD hps
  have qp:=part_at prD q4 q5
  repeat refine S.seq ?_
  refine S.skip ?_
  simp (disch:=first|omega|decide) only [rUz]
  repeat refine S.seq ?_
  refine S.block ?_
  repeat refine S.seq ?_
  refine S.region ?_
  simp (disch:=first|omega|decide) only [rUz,t1,t6,fieldAddr_ptr fA3 lrD,qrD,co3,hb,q1,q3,qp,wr_alloc zrD]
  refine wr_storeN (B:=h.nx) (c:=[iv 0,iv 0,iv 0]) (fam:=h.nx) (k:=h.nx) (l:=c3 x) (by simp (disch:=first|omega|decide) only [rUz]) (by simp (disch:=first|omega|decide) only [rUz]) srD (by omega) rfl (ag_eq rfl) (af_eq rfl) rfl ?_
  have hk4:Kp H1 ((h.add [iv 0,iv 0,iv 0]).upd h.nx (c3 x) h.nx):=hkp.add.upd hnx
  have hg4:((h.add [iv 0,iv 0,iv 0]).upd h.nx (c3 x) h.nx).bl.get h.nx = some (.cells (c3 x) h.nx false):=upd_eq _ _ _
  have hn4:h.nx < ((h.add [iv 0,iv 0,iv 0]).upd h.nx (c3 x) h.nx).nx:=Nat.lt_succ_self _
  simp (disch:=first|omega|decide) only [rUz]
  generalize (h.add [iv 0,iv 0,iv 0]).upd h.nx (c3 x) h.nx = h4 at hk4 hg4 hn4 ⊢
  generalize h.nx = B4 at hg4 hn4 ⊢
  clear q1 q2 q3 q4 q5 qp hb hnx hkp l3
  clear h
  repeat refine S.seq ?_
  refine S.region ?_
  generalize hJJ:(fun (t:T Value) (h:AHeap)=>_) = KJ
  suffices hJ:∀ t h,Kp h4 h → tget t 1 = ptr0 B1 → tget t 6 = iv (k:Int) → tget t 160 = .bool (!okDv x) → KJ t h = true by
   clear hJJ hn he hK1 hK0 hall
   simp (disch:=first|omega|decide) only [rUz,t1,fieldAddr_ptr frD0 s3,fieldAddr_ptr frD1 s3,p3,hg4,c30,c31,rd_build,List.map_cons,List.map_nil,bR2]
   refine wr_brings (fid:=7) (first:=#[]) (captured:=#[]) (Post:=fun v _=>v = .bool (daysB (x.1,x.2.1))) rfl (hoff _ _ _ rfl) (by simp (disch:=first|omega|decide) only [rUz]; exact days_y S hoff _ (x.1,x.2.1)) ?_
   rintro u g4 hkA rfl
   have hgA:=(hkA.get hn4).trans hg4
   unfold okDv at hJ
   cases h5:daysB (x.1,x.2.1) with
   | false =>
    simp (disch:=first|omega|decide) only [rUz,h5,Bool.not_false]
    refine hJ _ _ hkA ?_ ?_ ?_
    all_goals (first|rfl|(simp (disch:=first|omega|decide) only [rUz,t1,t6,h5,Bool.false_and,Bool.not_false]; done)|(simp (disch:=first|omega|decide) only [rUz,t1,t6,h5,Bool.false_and,Bool.not_false]; rfl))
   | true =>
   simp (disch:=first|omega|decide) only [rUz,h5,Bool.not_true,t1,fieldAddr_ptr frD2 s3,p3,hgA,c32]
   refine wr_brings (fid:=19) (first:=#[]) (captured:=#[]) (Post:=fun v g'=>v = .bool (inB x.2.2 0 50) ∧ g' = g4) rfl (hoff _ _ _ rfl) (by simp (disch:=first|omega|decide) only [rUz]; exact in_y S _ _ _ _) ?_
   rintro u g5 - ⟨rfl,rfl⟩
   simp (disch:=first|omega|decide) only [rUz]
   refine hJ _ _ hkA ?_ ?_ ?_
   all_goals (first|rfl|(simp (disch:=first|omega|decide) only [rUz,t1,t6,h5,Bool.true_and]; done)|(simp (disch:=first|omega|decide) only [rUz,t1,t6,h5,Bool.true_and]; rfl))
  intro t h hkh t1 t6 t160
  subst hJJ
  simp only [seqK_normal]
  have hkh:=hk4.trans hkh
  cases hok:okDv x with
  | false =>
   rw [hok,Bool.false_and] at hall
   repeat refine S.seq ?_
   refine S.cond (v:=true) (by first|rfl|(simp (disch:=first|omega|decide) only [rUz,↓reduceIte,Nat.reduceEqDiff,Nat.reduceAdd,t160,hok,Bool.not_false] <;> rfl)) (fun _=>?_) (fun e=>by cases e)
   repeat refine S.seq ?_
   refine S.region ?_
   simp (disch:=first|omega|decide) only [rUz]
   refine S.ret ?_
   simp only [seqK_ret,blockK_ret]
   refine he _ _ _ _ (fun e=>by cases e) ?_
   try simp only [seqK_ret,blockK_ret]
   subst hF
   simp only [finish,endMarks]
   rw [show Tryz.f44.results.toList = [.tmp 2] from rfl]
   simp (disch:=first|omega|decide) only [resA,ev_tmp,tget_ne,tget_eq,get_ne,get_eq,upd_eq,upd_ne,ag_eq,ag_ne,result1]
   exact hK1 (by rw [eA,eB,hall]; rfl) _ hkh
  | true =>
   rw [hok,Bool.true_and] at hall
   repeat refine S.seq ?_
   refine S.cond (v:=false) (by first|rfl|(simp (disch:=first|omega|decide) only [rUz,↓reduceIte,Nat.reduceEqDiff,Nat.reduceAdd,t160,hok,Bool.not_true] <;> rfl)) (fun e=>by cases e) (fun _=>?_)
   repeat refine S.seq ?_
   refine S.skip ?_
   simp (disch:=first|omega|decide) only [rUz]
   repeat refine S.seq ?_
   refine S.region ?_
   simp (disch:=first|omega|decide) only [rUz,t6]
   refine hn (k + 1) _ _ (by omega) ⟨by omega,hall,hkh,?_,?_⟩
   all_goals (first|rfl|(simp (disch:=first|omega|decide) only [rUz,t1,t6]; done)|(simp (disch:=first|omega|decide) only [rUz,t1,t6]; rfl))
 have hkn:k = c.dv.length:=by have:=of_decide_eq_false e; omega
 subst hkn
 rw [List.drop_of_length_le (Nat.le_refl _),List.all_nil] at hall
 have eC:=hall
 refine S.exit (he _ _ _ _ (fun e=>by cases e) ?_)
 clear hn he K'
 simp (disch:=first|omega|decide) only [rUz]
 clear t6 hall e hk hb hnx l3
 repeat refine S.seq ?_
 refine S.region ?_
 simp (disch:=first|omega|decide) only [rUz]
 repeat refine S.seq ?_
 refine S.region ?_
 simp (disch:=first|omega|decide) only [rUz]
 repeat refine S.seq ?_
 refine S.block ?_
 refine S.loop (ι:=Nat) (IFd c H1 B1) (fun k=>c.sp.length - k) ?_ 0 _ _ ?_
 rotate_left
 ·refine ⟨Nat.zero_le _,⟨-1,?_,by omega,by omega,by rw [List.drop_zero]⟩,hkp,?_,?_⟩
  all_goals (first|rfl|(simp (disch:=first|omega|decide) only [rUz,t1]; done)|(simp (disch:=first|omega|decide) only [rUz,t1]; rfl))
 clear t1 hkp
 clear h t
 intro k t h ⟨hk,⟨last,t8,la1,la2,hall⟩,hkp,t1,t9⟩ K' hn he
 have hb:=(hkp.get hn1).trans hb1
 have hnx:=hkp.1
 have l4:=fun t h1 o=>row_len (hc1.mono hkp).sp isrS t h1 o
 repeat refine S.seq ?_
 refine S.region ?_
 simp (disch:=first|omega|decide) only [rUz,t1,t9,fieldAddr_ptr fA4 lrS,qrS,co4,hb,l4]
 repeat refine S.seq ?_
 refine S.cond (v:=decide ((k:Int) < (c.sp.length:Int))) (by first|rfl|(simp (disch:=first|omega|decide) only [rUz,↓reduceIte,Nat.reduceEqDiff,Nat.reduceAdd] <;> rfl)) (fun e=>?_) (fun e=>?_)
 ·have hkn:k < c.sp.length:=by have:=of_decide_eq_true e; omega
  clear e
  have hps:c.sp[k]? = some c.sp[k]:=List.getElem?_eq_getElem hkn
  rw [List.drop_eq_getElem_cons hkn,spOrd] at hall
  generalize c.sp[k] = x at hall hps
  obtain ⟨b,f,ro,cells,q1,q2,q3,q4,q5,_⟩:=row_idx (hc1.mono hkp).sp slrS srS hps
  have qp:=part_at prS q4 q5
  repeat refine S.seq ?_
  refine S.skip ?_
  simp (disch:=first|omega|decide) only [rUz]
  repeat refine S.seq ?_
  refine S.block ?_
  repeat refine S.seq ?_
  refine S.region ?_
  simp (disch:=first|omega|decide) only [rUz,t1,t9,fieldAddr_ptr fA4 lrS,qrS,co4,hb,q1,q3,qp,wr_alloc zrS]
  refine wr_storeN (B:=h.nx) (c:=[iv 0,iv 0,iv 0]) (fam:=h.nx) (k:=h.nx) (l:=c3 x) (by simp (disch:=first|omega|decide) only [rUz]) (by simp (disch:=first|omega|decide) only [rUz]) srS (by omega) rfl (ag_eq rfl) (af_eq rfl) rfl ?_
  have hk4:Kp H1 ((h.add [iv 0,iv 0,iv 0]).upd h.nx (c3 x) h.nx):=hkp.add.upd hnx
  have hg4:((h.add [iv 0,iv 0,iv 0]).upd h.nx (c3 x) h.nx).bl.get h.nx = some (.cells (c3 x) h.nx false):=upd_eq _ _ _
  simp (disch:=first|omega|decide) only [rUz]
  generalize (h.add [iv 0,iv 0,iv 0]).upd h.nx (c3 x) h.nx = h4 at hk4 hg4 ⊢
  generalize h.nx = B4 at hg4 ⊢
  clear q1 q2 q3 q4 q5 qp hb hnx hkp l4
  clear h
  repeat refine S.seq ?_
  refine S.region ?_
  generalize hJJ:(fun (t:T Value) (h:AHeap)=>_) = KJ
  suffices hJ:∀ t,tget t 1 = ptr0 B1 → tget t 9 = iv (k:Int) → tget t 10 = ptr0 B4 → tget t 190 = .bool (!(inB x.1 (last + 1) 11 && (inB x.2.1 1 6 && inB x.2.2 1 4))) → KJ t h4 = true by
   clear hJJ hn he hK1 hK0 hall
   simp (disch:=first|omega|decide) only [rUz,t1,t8,fieldAddr_ptr frS0 s3,p3,hg4,c30]
   refine wr_brings (fid:=19) (first:=#[]) (captured:=#[]) (Post:=fun v g=>v = .bool (inB x.1 (last + 1) 11) ∧ g = h4) rfl (hoff _ _ _ rfl) (by simp (disch:=first|omega|decide) only [rUz]; exact in_y S _ _ _ _) ?_
   rintro u g - ⟨rfl,rfl⟩
   cases h1:inB x.1 (last + 1) 11 with
   | false =>
    simp (disch:=first|omega|decide) only [rUz,h1,Bool.not_false]
    refine hJ _ ?_ ?_ ?_ ?_
    all_goals (first|rfl|(simp (disch:=first|omega|decide) only [rUz,t1,t9,h1,Bool.false_and,Bool.not_false]; done)|(simp (disch:=first|omega|decide) only [rUz,t1,t9,h1,Bool.false_and,Bool.not_false]; rfl))
   | true =>
   simp (disch:=first|omega|decide) only [rUz,h1,Bool.not_true,t1,fieldAddr_ptr frS1 s3,p3,hg4,c31]
   refine wr_brings (fid:=19) (first:=#[]) (captured:=#[]) (Post:=fun v g'=>v = .bool (inB x.2.1 1 6) ∧ g' = g) rfl (hoff _ _ _ rfl) (by simp (disch:=first|omega|decide) only [rUz]; exact in_y S _ _ _ _) ?_
   rintro u g2 - ⟨rfl,rfl⟩
   cases h2:inB x.2.1 1 6 with
   | false =>
    simp (disch:=first|omega|decide) only [rUz,h2,Bool.not_false]
    refine hJ _ ?_ ?_ ?_ ?_
    all_goals (first|rfl|(simp (disch:=first|omega|decide) only [rUz,t1,t9,h1,h2,Bool.false_and,Bool.true_and,Bool.not_false]; done)|(simp (disch:=first|omega|decide) only [rUz,t1,t9,h1,h2,Bool.false_and,Bool.true_and,Bool.not_false]; rfl))
   | true =>
   simp (disch:=first|omega|decide) only [rUz,h2,Bool.not_true,t1,fieldAddr_ptr frS2 s3,p3,hg4,c32]
   refine wr_brings (fid:=19) (first:=#[]) (captured:=#[]) (Post:=fun v g'=>v = .bool (inB x.2.2 1 4) ∧ g' = g2) rfl (hoff _ _ _ rfl) (by simp (disch:=first|omega|decide) only [rUz]; exact in_y S _ _ _ _) ?_
   rintro u g3 - ⟨rfl,rfl⟩
   simp (disch:=first|omega|decide) only [rUz]
   refine hJ _ ?_ ?_ ?_ ?_
   all_goals (first|rfl|(simp (disch:=first|omega|decide) only [rUz,t1,t9,h1,h2,Bool.false_and,Bool.true_and,Bool.not_true]; done)|(simp (disch:=first|omega|decide) only [rUz,t1,t9,h1,h2,Bool.false_and,Bool.true_and,Bool.not_true]; rfl))
  intro t t1 t9 t10 t190
  subst hJJ
  simp only [seqK_normal]
  cases hok:(inB x.1 (last + 1) 11 && (inB x.2.1 1 6 && inB x.2.2 1 4)) with
  | false =>
   rw [hok,Bool.false_and] at hall
   repeat refine S.seq ?_
   refine S.cond (v:=true) (by first|rfl|(simp (disch:=first|omega|decide) only [rUz,↓reduceIte,Nat.reduceEqDiff,Nat.reduceAdd,t190,hok,Bool.not_false] <;> rfl)) (fun _=>?_) (fun e=>by cases e)
   repeat refine S.seq ?_
   refine S.region ?_
   simp (disch:=first|omega|decide) only [rUz]
   refine S.ret ?_
   simp only [seqK_ret,blockK_ret]
   refine he _ _ _ _ (fun e=>by cases e) ?_
   try simp only [seqK_ret,blockK_ret]
   subst hF
   simp only [finish,endMarks]
   rw [show Tryz.f44.results.toList = [.tmp 2] from rfl]
   simp (disch:=first|omega|decide) only [resA,ev_tmp,tget_ne,tget_eq,get_ne,get_eq,upd_eq,upd_ne,ag_eq,ag_ne,result1]
   exact hK1 (by rw [eA,eB,eC,hall]; rfl) _ hk4
  | true =>
   rw [hok,Bool.true_and] at hall
   have hx1:last + 1 ≤ x.1 ∧ x.1 ≤ 11:=by
    simp only [Bool.and_eq_true,inB_iff] at hok
    exact hok.1
   repeat refine S.seq ?_
   refine S.cond (v:=false) (by first|rfl|(simp (disch:=first|omega|decide) only [rUz,↓reduceIte,Nat.reduceEqDiff,Nat.reduceAdd,t190,hok,Bool.not_true] <;> rfl)) (fun e=>by cases e) (fun _=>?_)
   repeat refine S.seq ?_
   refine S.skip ?_
   simp (disch:=first|omega|decide) only [rUz]
   repeat refine S.seq ?_
   refine S.region ?_
   simp (disch:=first|omega|decide) only [rUz,t10,fieldAddr_ptr frS0 s3,p3,hg4,c30]
   repeat refine S.seq ?_
   refine S.region ?_
   simp (disch:=first|omega|decide) only [rUz,t9]
   refine hn (k + 1) _ _ (by omega) ⟨by omega,⟨x.1,?_,by omega,by omega,hall⟩,hk4,?_,?_⟩
   all_goals (first|rfl|(simp (disch:=first|omega|decide) only [rUz,t1,t9]; done)|(simp (disch:=first|omega|decide) only [rUz,t1,t9]; rfl))
 have hkn:k = c.sp.length:=by have:=of_decide_eq_false e; omega
 subst hkn
 rw [List.drop_of_length_le (Nat.le_refl _),spOrd] at hall
 have eD:=hall
 refine S.exit (he _ _ _ _ (fun e=>by cases e) ?_)
 clear hn he K'
 simp (disch:=first|omega|decide) only [rUz]
 clear t8 t9 hall e hk hb hnx l4 la1 la2
 clear last
 repeat refine S.seq ?_
 refine S.region ?_
 simp (disch:=first|omega|decide) only [rUz]
 repeat refine S.seq ?_
 refine S.block ?_
 refine S.loop (ι:=Nat) (IFe c H1 B1) (fun k=>c.cl.length - k) ?_ 0 _ _ ?_
 rotate_left
 ·refine ⟨Nat.zero_le _,by rw [List.drop_zero],hkp,?_,?_⟩
  all_goals (first|rfl|(simp (disch:=first|omega|decide) only [rUz,t1]; done)|(simp (disch:=first|omega|decide) only [rUz,t1]; rfl))
 clear t1 hkp
 clear h t
 intro k t h ⟨hk,hall,hkp,t1,t11⟩ K' hn he
 have hb:=(hkp.get hn1).trans hb1
 have hnx:=hkp.1
 have l5:=fun t h1 o=>row_len (hc1.mono hkp).cl isrR t h1 o
 repeat refine S.seq ?_
 refine S.region ?_
 simp (disch:=first|omega|decide) only [rUz,t1,t11,fieldAddr_ptr fA5 lrR,qrR,co5,hb,l5]
 repeat refine S.seq ?_
 refine S.cond (v:=decide ((k:Int) < (c.cl.length:Int))) (by first|rfl|(simp (disch:=first|omega|decide) only [rUz,↓reduceIte,Nat.reduceEqDiff,Nat.reduceAdd] <;> rfl)) (fun e=>?_) (fun e=>?_)
 ·have hkn:k < c.cl.length:=by have:=of_decide_eq_true e; omega
  clear e
  have hps:c.cl[k]? = some c.cl[k]:=List.getElem?_eq_getElem hkn
  rw [List.drop_eq_getElem_cons hkn,List.all_cons] at hall
  generalize c.cl[k] = x at hall hps
  obtain ⟨b,f,ro,cells,q1,q2,q3,q4,q5,_⟩:=row_idx (hc1.mono hkp).cl slrR srR hps
  have qp:=part_at prR q4 q5
  repeat refine S.seq ?_
  refine S.skip ?_
  simp (disch:=first|omega|decide) only [rUz]
  repeat refine S.seq ?_
  refine S.block ?_
  repeat refine S.seq ?_
  refine S.region ?_
  simp (disch:=first|omega|decide) only [rUz,t1,t11,fieldAddr_ptr fA5 lrR,qrR,co5,hb,q1,q3,qp]
  refine wr_brings (fid:=7) (first:=#[]) (captured:=#[]) (Post:=fun v _=>v = .bool (daysB x)) rfl (hoff _ _ _ rfl) (by simp (disch:=first|omega|decide) only [rUz]; exact days_y S hoff _ _) ?_
  rintro u g hkA rfl
  have hkh:=hkp.trans hkA
  simp (disch:=first|omega|decide) only [rUz,un_not]
  cases hok:daysB x with
  | false =>
   rw [hok,Bool.false_and] at hall
   repeat refine S.seq ?_
   refine S.cond (v:=true) (by first|rfl|(simp (disch:=first|omega|decide) only [rUz,↓reduceIte,Nat.reduceEqDiff,Nat.reduceAdd,hok,Bool.not_false] <;> rfl)) (fun _=>?_) (fun e=>by cases e)
   repeat refine S.seq ?_
   refine S.region ?_
   simp (disch:=first|omega|decide) only [rUz]
   refine S.ret ?_
   simp only [seqK_ret,blockK_ret]
   refine he _ _ _ _ (fun e=>by cases e) ?_
   try simp only [seqK_ret,blockK_ret]
   subst hF
   simp only [finish,endMarks]
   rw [show Tryz.f44.results.toList = [.tmp 2] from rfl]
   simp (disch:=first|omega|decide) only [resA,ev_tmp,tget_ne,tget_eq,get_ne,get_eq,upd_eq,upd_ne,ag_eq,ag_ne,result1]
   exact hK1 (by rw [eA,eB,eC,eD,hall]; rfl) _ hkh
  | true =>
   rw [hok,Bool.true_and] at hall
   repeat refine S.seq ?_
   refine S.cond (v:=false) (by first|rfl|(simp (disch:=first|omega|decide) only [rUz,↓reduceIte,Nat.reduceEqDiff,Nat.reduceAdd,hok,Bool.not_true] <;> rfl)) (fun e=>by cases e) (fun _=>?_)
   repeat refine S.seq ?_
   refine S.skip ?_
   simp (disch:=first|omega|decide) only [rUz]
   repeat refine S.seq ?_
   refine S.region ?_
   simp (disch:=first|omega|decide) only [rUz,t11]
   refine hn (k + 1) _ _ (by omega) ⟨by omega,hall,hkh,?_,?_⟩
   all_goals (first|rfl|(simp (disch:=first|omega|decide) only [rUz,t1,t11]; done)|(simp (disch:=first|omega|decide) only [rUz,t1,t11]; rfl))
 have hkn:k = c.cl.length:=by have:=of_decide_eq_false e; omega
 subst hkn
 rw [List.drop_of_length_le (Nat.le_refl _),List.all_nil] at hall
 refine S.exit (he _ _ _ _ (fun e=>by cases e) ?_)
 simp (disch:=first|omega|decide) only [rUz]
 repeat refine S.seq ?_
 refine S.region ?_
 simp (disch:=first|omega|decide) only [rUz]
 refine S.ret ?_
 try simp only [seqK_ret,blockK_ret]
 subst hF
 simp only [finish,endMarks]
 rw [show Tryz.f44.results.toList = [.tmp 2] from rfl]
 simp (disch:=first|omega|decide) only [resA,ev_tmp,tget_ne,tget_eq,get_ne,get_eq,upd_eq,upd_ne,ag_eq,ag_ne,result1]
 exact hK0 (by rw [eA,eB,eC,eD,hall]; rfl) _ hkp

set_option maxHeartbeats 4000000 in
theorem faultw_y (S:Ev.Steps Tryz.prog pr R) (hoff:Off pr) (h0:AHeap) (v:Vs) (c:Co) (hc:CoAt h0 v c) (hth:thinB c [] [] = true):Brings Tryz.prog R 22 [.agg ⟨coV c.hs v⟩] h0 fun u _=>u = iv (faultZ c):=by
 refine brings_of (fn:=Tryz.f22) (c:=(Tryz.f22.body).getD .skip) (by kernel_rfl) rfl (by kernel_rfl) rfl (fun K hK=>?_)
 generalize hF:finish Tryz.prog Tryz.f22 K = KF
 simp only [Tryz.f22,Option.getD_some,argsT,setArgs,fV1_eq,T.setK_eq,id]
 repeat refine S.seq ?_
 refine S.region ?_
 simp (disch:=first|omega|decide) only [rUz]
 repeat refine S.seq ?_
 refine S.region ?_
 simp (disch:=first|omega|decide) only [rUz,part_0 pA (coV_len c.hs v)]
 refine wr_brings (fid:=44) (first:=#[]) (captured:=#[]) (Post:=fun v _=>v = iv (faultZ c)) rfl (hoff _ _ _ rfl) (by simp (disch:=first|omega|decide) only [rUz]; exact fault_y S hoff _ v c (hc.mono Kp.refl.add) hth) ?_
 rintro u g hk rfl
 simp (disch:=first|omega|decide) only [rUz]
 refine S.ret ?_
 try simp only [seqK_ret,blockK_ret]
 subst hF
 simp only [finish,endMarks]
 rw [show Tryz.f22.results.toList = [.tmp 2] from rfl]
 simp (disch:=first|omega|decide) only [resA,ev_tmp,tget_ne,tget_eq,get_ne,get_eq,upd_eq,upd_ne,ag_eq,ag_ne,result1]
 exact hK _ _ (Kp.refl.add.trans hk) rfl
end Go.Proofs.Cp
