import Derived.Test.YtefjnhpghgahbaaGreatCn4
/- CheckCompany, and when a trade is registered. -/
namespace Go.Proofs.Cp
open Go Go.Ev
set_option linter.unusedSimpArgs false

theorem tup0 (a b:Value):(⟨[a,b]⟩:Array Value)[0]? = some a:=rfl
theorem tup1 (a b:Value):(⟨[a,b]⟩:Array Value)[1]? = some b:=rfl
theorem veq_row {h:AHeap} {n:Nat} {v:Value} {cs:List (List Value)} (k:SlAt h n v cs):veq v v = true:=by
 rcases k with ⟨_,rfl|rfl⟩|⟨b,cap,f,ro,_,rfl,_⟩
 ·simp only [veq]
 ·simp only [emptyS,veq]
 ·simp only [veq,Nat.beq_refl,Bool.and_self]
theorem veq_co {h:AHeap} {v:Vs} {c:Co} (k:CoAt h v c) (hs:Int):veq (.agg ⟨coV hs v⟩) (.agg ⟨coV hs v⟩) = true:=by
 simp only [coV,veq,veqA,veqL,k.held.veq,veq_row k.tr,veq_row k.dv,veq_row k.sp,veq_row k.cl,beqKind,beqI_eq,decide_true,Bool.and_self]

variable {pr:Prim} {R:ExT}
def IOs (c:Co) (v:Vs) (H:AHeap) (B1:Nat) (k:Nat) (t:T Value) (h:AHeap):Prop:=
 k ≤ c.sp.length ∧ (k = 0 ∨ ∃ j,k = j + 1 ∧ ordF c.sp = ordF (c.sp.drop j)) ∧ Kp H h ∧ tget t 1 = ptr0 B1 ∧ tget t 6 = v.d ∧ tget t 7 = iv (c.sp.length:Int) ∧ tget t 8 = iv (k:Int)
theorem ordF_cc (a b:T3) (r:List T3):ordF (a :: b :: r) = (decide (a.1 < b.1) && ordF (b :: r)):=rfl

set_option maxHeartbeats 16000000 in
theorem splits_y (S:Ev.Steps Tryz.prog pr R) (h0:AHeap) (v:Vs) (c:Co) (hc:CoAt h0 v c) (hsz:(c.sp.length:Int) ≤ 7):Brings Tryz.prog R 107 [.agg ⟨coV c.hs v⟩] h0 fun u _=>u = .bool (ordF c.sp):=by
 refine brings_of (fn:=Tryz.f107) (c:=(Tryz.f107.body).getD .skip) (by kernel_rfl) rfl (by kernel_rfl) rfl (fun K hK=>?_)
 generalize hF:finish Tryz.prog Tryz.f107 K = KF
 simp only [Tryz.f107,Option.getD_some,argsT,setArgs,fV1_eq,T.setK_eq,id]
 have hK1:∀ h,Kp (h0.add (coV c.hs v)) h → K (.bool (ordF c.sp)) h = true:=fun h hk=>hK _ _ (Kp.refl.add.trans hk) rfl
 clear hK
 repeat refine S.seq ?_
 refine S.region ?_
 simp (disch:=first|omega|decide) only [rUz]
 have hb1:(h0.add (coV c.hs v)).bl.get h0.nx = some (.cells (coV c.hs v) h0.nx false):=ag_eq rfl
 have hc1:CoAt (h0.add (coV c.hs v)) v c:=hc.mono Kp.refl.add
 have hn1:h0.nx < (h0.add (coV c.hs v)).nx:=Nat.lt_succ_self _
 generalize h0.add (coV c.hs v) = H1 at hK1 hb1 hc1 hn1 ⊢
 generalize h0.nx = B1 at hb1 hn1 ⊢
 have l4:=fun t h1 o=>row_len hc1.sp iscS t h1 o
 repeat refine S.seq ?_
 refine S.region ?_
 simp (disch:=first|omega|decide) only [rUz,hb1,fieldAddr_ptr fB4 lcS,qcS,co4,l4]
 repeat refine S.seq ?_
 refine S.block ?_
 refine S.loop (ι:=Nat) (IOs c v H1 B1) (fun k=>c.sp.length - k) ?_ 0 _ _ ?_
 rotate_left
 ·refine ⟨Nat.zero_le _,.inl rfl,Kp.refl,?_,?_,?_,?_⟩
  all_goals (first|rfl|(simp (disch:=first|omega|decide) only [rUz]; done)|(simp (disch:=first|omega|decide) only [rUz]; rfl))
 intro k t h ⟨hk,hord,hkp,t1,t6,t7,t8⟩ K' hn he
 have hb:=(hkp.get hn1).trans hb1
 have hnx:=hkp.1
 have hc2:=hc1.mono hkp
 repeat refine S.seq ?_
 refine S.region ?_
 simp (disch:=first|omega|decide) only [rUz,t7,t8]
 repeat refine S.seq ?_
 refine S.cond (v:=decide ((k:Int) < (c.sp.length:Int))) (by first|rfl|(simp (disch:=first|omega|decide) only [rUz,↓reduceIte,Nat.reduceEqDiff,Nat.reduceAdd] <;> rfl)) (fun e=>?_) (fun e=>?_)
 ·have hkn:k < c.sp.length:=by have:=of_decide_eq_true e; omega
  clear e
  have hps:c.sp[k]? = some c.sp[k]:=List.getElem?_eq_getElem hkn
  have hdr:=List.drop_eq_getElem_cons hkn
  generalize c.sp[k] = x at hps hdr
  obtain ⟨b,f,ro,cells,q1,q2,q3,q4,q5,_⟩:=row_idx hc2.sp slcS scS hps
  have qp:=part_at pcS q4 q5
  repeat refine S.seq ?_
  refine S.skip ?_
  simp (disch:=first|omega|decide) only [rUz]
  repeat refine S.seq ?_
  refine S.block ?_
  repeat refine S.seq ?_
  refine S.region ?_
  simp (disch:=first|omega|decide) only [rUz,t6,t8,q1,q3,qp,wr_alloc zcS]
  refine wr_storeN (B:=h.nx) (c:=[iv 0,iv 0,iv 0]) (fam:=h.nx) (k:=h.nx) (l:=c3 x) (by simp (disch:=first|omega|decide) only [rUz]) (by simp (disch:=first|omega|decide) only [rUz]) scS (by omega) rfl (ag_eq rfl) (af_eq rfl) rfl ?_
  have hk4:Kp H1 ((h.add [iv 0,iv 0,iv 0]).upd h.nx (c3 x) h.nx):=hkp.add.upd hnx
  have hg4:((h.add [iv 0,iv 0,iv 0]).upd h.nx (c3 x) h.nx).bl.get h.nx = some (.cells (c3 x) h.nx false):=upd_eq _ _ _
  simp (disch:=first|omega|decide) only [rUz]
  generalize (h.add [iv 0,iv 0,iv 0]).upd h.nx (c3 x) h.nx = h4 at hk4 hg4 ⊢
  generalize h.nx = B4 at hg4 ⊢
  clear q1 q2 q3 q4 q5 qp hb hnx hkp hc2
  clear h
  have hb4:=(hk4.get hn1).trans hb1
  rcases hord with rfl|⟨j,rfl,hj⟩
  ·repeat refine S.seq ?_
   refine S.drawnL [(false,0),(false,1),(false,3),(false,7),(false,15),(false,7),(false,39),(false,7),(false,135),(false,487),(false,999),(false,2023),(false,4095),(false,8191)] (by kernel_rfl) (by kernel_rfl) (by kernel_rfl) ?_
   simp (disch:=first|omega|decide) only [rUz,rDz,infoL,Nat.reduceSub,t1,t8,Int.natCast_zero,Int.lt_irrefl,decide_false]
   repeat refine S.seq ?_
   refine S.cond (v:=false) (by first|rfl|(simp (disch:=first|omega|decide) only [rUz,↓reduceIte,Nat.reduceEqDiff,Nat.reduceAdd] <;> rfl)) (fun e=>by cases e) (fun _=>?_)
   repeat refine S.seq ?_
   refine S.skip ?_
   simp (disch:=first|omega|decide) only [rUz]
   repeat refine S.seq ?_
   refine S.region ?_
   simp (disch:=first|omega|decide) only [rUz,t8]
   refine hn (0 + 1) _ _ (by omega) ⟨by omega,.inr ⟨0,rfl,by rw [List.drop_zero]⟩,hk4,?_,?_,?_,?_⟩
   all_goals (first|rfl|(simp (disch:=first|omega|decide) only [rUz,t1,t6,t7,t8]; done)|(simp (disch:=first|omega|decide) only [rUz,t1,t6,t7,t8]; rfl))
  ·have hjn:j < c.sp.length:=by omega
   have hpj:c.sp[j]? = some c.sp[j]:=List.getElem?_eq_getElem hjn
   rw [List.drop_eq_getElem_cons hjn,hdr,ordF_cc] at hj
   generalize c.sp[j] = y at hpj hj
   obtain ⟨b,f,ro,cells,q1,q2,q3,q4,q5,q6⟩:=row_idx (hc1.mono hk4).sp slcS scS hpj
   have hy:=q6 0 _ (c30 y)
   rw [Nat.add_zero] at hy
   have hpos:decide (0 < (j:Int) + 1) = true:=decide_eq_true (by omega)
   cases hlt:decide (x.1 ≤ y.1) with
   | true =>
    rw [decide_eq_false (by have:=of_decide_eq_true hlt; omega),Bool.false_and] at hj
    repeat refine S.seq ?_
    refine S.drawnL [(false,0),(false,1),(false,3),(false,7),(false,15),(false,7),(false,39),(false,7),(false,135),(false,487),(false,999),(false,2023),(false,4095),(false,8191)] (by kernel_rfl) (by kernel_rfl) (by kernel_rfl) ?_
    simp (disch:=first|omega|decide) only [rUz,rDz,infoL,Nat.reduceSub,t1,t8,hpos,hb4,hg4,fieldAddr_ptr fcS0 s3,p3,c30,fieldAddr_ptr fB4 lcS,qcS,co4,Int.add_sub_cancel,q1,q3,hy,hlt]
    repeat refine S.seq ?_
    refine S.cond (v:=true) (by first|rfl|(simp (disch:=first|omega|decide) only [rUz,↓reduceIte,Nat.reduceEqDiff,Nat.reduceAdd] <;> rfl)) (fun _=>?_) (fun e=>by cases e)
    repeat refine S.seq ?_
    refine S.region ?_
    simp (disch:=first|omega|decide) only [rUz]
    refine S.ret ?_
    simp only [seqK_ret,blockK_ret]
    refine he _ _ _ _ (fun e=>by cases e) ?_
    try simp only [seqK_ret,blockK_ret]
    subst hF
    simp only [finish,endMarks]
    rw [show Tryz.f107.results.toList = [.tmp 2] from rfl]
    simp (disch:=first|omega|decide) only [resA,ev_tmp,tget_ne,tget_eq,get_ne,get_eq,upd_eq,upd_ne,ag_eq,ag_ne,result1]
    rw [hj] at hK1
    exact hK1 _ hk4
   | false =>
    rw [decide_eq_true (by have:=of_decide_eq_false hlt; omega),Bool.true_and] at hj
    repeat refine S.seq ?_
    refine S.drawnL [(false,0),(false,1),(false,3),(false,7),(false,15),(false,7),(false,39),(false,7),(false,135),(false,487),(false,999),(false,2023),(false,4095),(false,8191)] (by kernel_rfl) (by kernel_rfl) (by kernel_rfl) ?_
    simp (disch:=first|omega|decide) only [rUz,rDz,infoL,Nat.reduceSub,t1,t8,hpos,hb4,hg4,fieldAddr_ptr fcS0 s3,p3,c30,fieldAddr_ptr fB4 lcS,qcS,co4,Int.add_sub_cancel,q1,q3,hy,hlt]
    repeat refine S.seq ?_
    refine S.cond (v:=false) (by first|rfl|(simp (disch:=first|omega|decide) only [rUz,↓reduceIte,Nat.reduceEqDiff,Nat.reduceAdd] <;> rfl)) (fun e=>by cases e) (fun _=>?_)
    repeat refine S.seq ?_
    refine S.skip ?_
    simp (disch:=first|omega|decide) only [rUz]
    repeat refine S.seq ?_
    refine S.region ?_
    simp (disch:=first|omega|decide) only [rUz,t8]
    refine hn (j + 1 + 1) _ _ (by omega) ⟨by omega,.inr ⟨j + 1,rfl,by rw [hj,hdr]⟩,hk4,?_,?_,?_,?_⟩
    all_goals (first|rfl|(simp (disch:=first|omega|decide) only [rUz,t1,t6,t7,t8]; done)|(simp (disch:=first|omega|decide) only [rUz,t1,t6,t7,t8]; rfl))
 have hkn:k = c.sp.length:=by have:=of_decide_eq_false e; omega
 refine S.exit (he _ _ _ _ (fun e=>by cases e) ?_)
 simp (disch:=first|omega|decide) only [rUz]
 repeat refine S.seq ?_
 refine S.region ?_
 simp (disch:=first|omega|decide) only [rUz]
 refine S.ret ?_
 try simp only [seqK_ret,blockK_ret]
 subst hF
 simp only [finish,endMarks]
 rw [show Tryz.f107.results.toList = [.tmp 2] from rfl]
 simp (disch:=first|omega|decide) only [resA,ev_tmp,tget_ne,tget_eq,get_ne,get_eq,upd_eq,upd_ne,ag_eq,ag_ne,result1]
 have hall:ordF c.sp = true:=by
  rcases hord with rfl|⟨j,rfl,hj⟩
  ·rw [List.length_eq_zero_iff.1 hkn.symm]; rfl
  ·have hjn:j < c.sp.length:=by omega
   rw [hj,List.drop_eq_getElem_cons hjn,List.drop_of_length_le (by omega)]; rfl
 rw [hall] at hK1
 exact hK1 _ hkp

set_option maxHeartbeats 16000000 in
theorem isFew_y (S:Ev.Steps Tryz.prog pr R) (h0:AHeap) (v:Vs) (c:Co) (hc:CoAt h0 v c):Brings Tryz.prog R 76 [.agg ⟨coV c.hs v⟩] h0 fun u _=>u = .bool (fewB c):=by
 refine brings_of (fn:=Tryz.f76) (c:=(Tryz.f76.body).getD .skip) (by kernel_rfl) rfl (by kernel_rfl) rfl (fun K hK=>?_)
 generalize hF:finish Tryz.prog Tryz.f76 K = KF
 simp only [Tryz.f76,Option.getD_some,argsT,setArgs,fV1_eq,T.setK_eq,id]
 have hK1:∀ h,Kp (h0.add (coV c.hs v)) h → K (.bool (fewB c)) h = true:=fun h hk=>hK _ _ (Kp.refl.add.trans hk) rfl
 clear hK
 repeat refine S.seq ?_
 refine S.region ?_
 simp (disch:=first|omega|decide) only [rUz]
 have hb:(h0.add (coV c.hs v)).bl.get h0.nx = some (.cells (coV c.hs v) h0.nx false):=ag_eq rfl
 generalize h0.add (coV c.hs v) = H at hK1 hb ⊢
 generalize h0.nx = B at hb ⊢
 have l2:=fun t h1 o=>row_len hc.tr iscT t h1 o
 have l3:=fun t h1 o=>row_len hc.dv iscD t h1 o
 have l4:=fun t h1 o=>row_len hc.sp iscS t h1 o
 have l5:=fun t h1 o=>row_len hc.cl iscR t h1 o
 have e0:fewB c = ((decide (c.hs ≤ 4) && decide ((c.tr.length:Int) ≤ 4)) && (decide ((c.dv.length:Int) ≤ 3) && (decide ((c.sp.length:Int) ≤ 2) && decide ((c.cl.length:Int) ≤ 2)))):=by
  unfold fewB; rw [Bool.and_assoc]
 rw [e0] at hK1
 clear e0
 repeat refine S.seq ?_
 refine S.region ?_
 generalize hJJ:(fun (t:T Value) (h:AHeap)=>_) = KJ
 suffices hJ:∀ t,tget t 1 = ptr0 B → tget t 3 = .bool (decide (c.hs ≤ 4) && decide ((c.tr.length:Int) ≤ 4)) → KJ t H = true by
  clear hJJ hK1
  cases e1:decide (c.hs ≤ 4) with
  | false =>
   simp (disch:=first|omega|decide) only [rUz,hb,fieldAddr_ptr fB0 s3,p3,co0,e1]
   refine hJ _ ?_ ?_
   all_goals (first|rfl|(simp (disch:=first|omega|decide) only [rUz,e1,Bool.false_and]; done)|(simp (disch:=first|omega|decide) only [rUz,e1,Bool.false_and]; rfl))
  | true =>
   simp (disch:=first|omega|decide) only [rUz,hb,fieldAddr_ptr fB0 s3,p3,co0,fieldAddr_ptr fB2 lcT,qcT,co2,l2,e1]
   refine hJ _ ?_ ?_
   all_goals (first|rfl|(simp (disch:=first|omega|decide) only [rUz,e1,Bool.true_and]; done)|(simp (disch:=first|omega|decide) only [rUz,e1,Bool.true_and]; rfl))
 intro t t1 t3
 subst hJJ
 simp only [seqK_normal]
 generalize (decide (c.hs ≤ 4) && decide ((c.tr.length:Int) ≤ 4)) = p at t3 hK1
 repeat refine S.seq ?_
 refine S.region ?_
 generalize hJJ:(fun (t:T Value) (h:AHeap)=>_) = KJ
 suffices hJ:∀ t,tget t 1 = ptr0 B → tget t 3 = .bool (p && decide ((c.dv.length:Int) ≤ 3)) → KJ t H = true by
  clear hJJ hK1
  cases p with
  | false =>
   simp (disch:=first|omega|decide) only [rUz,t3]
   refine hJ _ ?_ ?_
   all_goals (first|rfl|(simp (disch:=first|omega|decide) only [rUz,t1,Bool.false_and]; done)|(simp (disch:=first|omega|decide) only [rUz,t1,Bool.false_and]; rfl))
  | true =>
   simp (disch:=first|omega|decide) only [rUz,t3,t1,hb,fieldAddr_ptr fB3 lcD,qcD,co3,l3]
   refine hJ _ ?_ ?_
   all_goals (first|rfl|(simp (disch:=first|omega|decide) only [rUz,t1,Bool.true_and]; done)|(simp (disch:=first|omega|decide) only [rUz,t1,Bool.true_and]; rfl))
 clear t1 t3
 clear t
 intro t t1 t3
 subst hJJ
 simp only [seqK_normal]
 rw [← Bool.and_assoc] at hK1
 generalize (p && decide ((c.dv.length:Int) ≤ 3)) = p at t3 hK1
 cases p with
 | false =>
  rw [Bool.false_and] at hK1
  repeat refine S.seq ?_
  refine S.region ?_
  simp (disch:=first|omega|decide) only [rUz,t3]
  refine S.ret ?_
  try simp only [seqK_ret,blockK_ret]
  subst hF
  simp only [finish,endMarks]
  rw [show Tryz.f76.results.toList = [.tmp 2] from rfl]
  simp (disch:=first|omega|decide) only [resA,ev_tmp,tget_ne,tget_eq,get_ne,get_eq,upd_eq,upd_ne,ag_eq,ag_ne,result1]
  exact hK1 _ Kp.refl
 | true =>
 rw [Bool.true_and] at hK1
 cases e1:decide ((c.sp.length:Int) ≤ 2) with
 | false =>
  rw [e1,Bool.false_and] at hK1
  repeat refine S.seq ?_
  refine S.region ?_
  simp (disch:=first|omega|decide) only [rUz,t3,t1,hb,fieldAddr_ptr fB4 lcS,qcS,co4,l4,e1]
  refine S.ret ?_
  try simp only [seqK_ret,blockK_ret]
  subst hF
  simp only [finish,endMarks]
  rw [show Tryz.f76.results.toList = [.tmp 2] from rfl]
  simp (disch:=first|omega|decide) only [resA,ev_tmp,tget_ne,tget_eq,get_ne,get_eq,upd_eq,upd_ne,ag_eq,ag_ne,result1]
  exact hK1 _ Kp.refl
 | true =>
  rw [e1,Bool.true_and] at hK1
  repeat refine S.seq ?_
  refine S.region ?_
  simp (disch:=first|omega|decide) only [rUz,t3,t1,hb,fieldAddr_ptr fB4 lcS,fieldAddr_ptr fB5 lcR,qcS,qcR,co4,co5,l4,l5,e1]
  refine S.ret ?_
  try simp only [seqK_ret,blockK_ret]
  subst hF
  simp only [finish,endMarks]
  rw [show Tryz.f76.results.toList = [.tmp 2] from rfl]
  simp (disch:=first|omega|decide) only [resA,ev_tmp,tget_ne,tget_eq,get_ne,get_eq,upd_eq,upd_ne,ag_eq,ag_ne,result1]
  exact hK1 _ Kp.refl

set_option maxHeartbeats 16000000 in
theorem isValid_y (S:Ev.Steps Tryz.prog pr R) (hoff:Off pr) (h0:AHeap) (v:Vs) (c:Co) (hc:CoAt h0 v c) (hth:thinB c [] [] = true):Brings Tryz.prog R 77 [.agg ⟨coV c.hs v⟩] h0 fun u _=>u = .bool (validB c):=by
 refine brings_of (fn:=Tryz.f77) (c:=(Tryz.f77.body).getD .skip) (by kernel_rfl) rfl (by kernel_rfl) rfl (fun K hK=>?_)
 generalize hF:finish Tryz.prog Tryz.f77 K = KF
 simp only [Tryz.f77,Option.getD_some,argsT,setArgs,fV1_eq,T.setK_eq,id]
 have hK1:∀ h,Kp (h0.add (coV c.hs v)) h → K (.bool (validB c)) h = true:=fun h hk=>hK _ _ (Kp.refl.add.trans hk) rfl
 clear hK
 simp only [thinB,Bool.and_eq_true,decide_eq_true_eq,List.length_nil] at hth
 obtain ⟨th1,th2,th3,th4,th5,-⟩:=hth
 repeat refine S.seq ?_
 refine S.region ?_
 simp (disch:=first|omega|decide) only [rUz]
 have hb:(h0.add (coV c.hs v)).bl.get h0.nx = some (.cells (coV c.hs v) h0.nx false):=ag_eq rfl
 have hc1:CoAt (h0.add (coV c.hs v)) v c:=hc.mono Kp.refl.add
 have hn1:h0.nx < (h0.add (coV c.hs v)).nx:=Nat.lt_succ_self _
 generalize h0.add (coV c.hs v) = H at hK1 hb hc1 hn1 ⊢
 generalize h0.nx = B at hb hn1 ⊢
 have l1:=iv_len hc1.held
 unfold validB at hK1
 repeat refine S.seq ?_
 refine S.region ?_
 generalize hJJ:(fun (t:T Value) (h:AHeap)=>_) = KJ
 suffices hJ:∀ t h,Kp H h → tget t 1 = ptr0 B → tget t 3 = .bool (decide (0 < c.hs) && (decide ((c.held.length:Int) = c.hs) && c.held.all (fun n=>inB n 0 100))) → KJ t h = true by
  clear hJJ hK1
  cases e1:decide (0 < c.hs) with
  | false =>
   simp (disch:=first|omega|decide) only [rUz,hb,fieldAddr_ptr fB0 s3,p3,co0,e1]
   refine hJ _ _ Kp.refl ?_ ?_
   all_goals (first|rfl|(simp (disch:=first|omega|decide) only [rUz,e1,Bool.false_and]; done)|(simp (disch:=first|omega|decide) only [rUz,e1,Bool.false_and]; rfl))
  | true =>
  cases e2:decide ((c.held.length:Int) = c.hs) with
  | false =>
   simp (disch:=first|omega|decide) only [rUz,hb,fieldAddr_ptr fB0 s3,p3,co0,fieldAddr_ptr fB1 lI,qI,co1,l1,e1,e2]
   refine hJ _ _ Kp.refl ?_ ?_
   all_goals (first|rfl|(simp (disch:=first|omega|decide) only [rUz,e1,e2,Bool.false_and,Bool.true_and]; done)|(simp (disch:=first|omega|decide) only [rUz,e1,e2,Bool.false_and,Bool.true_and]; rfl))
  | true =>
   simp (disch:=first|omega|decide) only [rUz,hb,fieldAddr_ptr fB0 s3,p3,co0,fieldAddr_ptr fB1 lI,qI,co1,l1,e1,e2]
   refine wr_brings (fid:=97) (first:=#[]) (captured:=#[]) (Post:=fun u _=>u = .bool (c.held.all (fun n=>inB n 0 100))) rfl (hoff _ _ _ rfl) (by simp (disch:=first|omega|decide) only [rUz]; exact allI_y S hoff _ _ _ hc1.held (by omega) 98 rfl #[] _ (fun h' _ n _=>isHeld_y S h' n)) ?_
   rintro u g hk rfl
   simp (disch:=first|omega|decide) only [rUz]
   refine hJ _ _ hk ?_ ?_
   all_goals (first|rfl|(simp (disch:=first|omega|decide) only [rUz,e1,e2,Bool.true_and]; done)|(simp (disch:=first|omega|decide) only [rUz,e1,e2,Bool.true_and]; rfl))
 intro t h hkh t1 t3
 subst hJJ
 simp only [seqK_normal]
 generalize (decide (0 < c.hs) && (decide ((c.held.length:Int) = c.hs) && c.held.all (fun n=>inB n 0 100))) = p at t3 hK1
 have hb2:=(hkh.get hn1).trans hb
 repeat refine S.seq ?_
 refine S.region ?_
 generalize hJJ:(fun (t:T Value) (h:AHeap)=>_) = KJ
 suffices hJ:∀ t h,Kp H h → tget t 1 = ptr0 B → tget t 3 = .bool p → tget t 4 = .bool (c.tr.all (okTr c.hs) && c.cl.all daysB) → KJ t h = true by
  clear hJJ hK1
  simp (disch:=first|omega|decide) only [rUz,t1,hb2,fieldAddr_ptr fB2 lcT,qcT,co2,part_0 pB (coV_len c.hs v)]
  refine wr_brings (fid:=99) (first:=#[]) (captured:=#[]) (Post:=fun u _=>u = .bool (c.tr.all (okTr c.hs))) rfl (hoff _ _ _ rfl) (by simp (disch:=first|omega|decide) only [rUz]; exact allcT_y S hoff _ _ _ (hc1.mono hkh).tr (by omega) 100 rfl #[.agg ⟨coV c.hs v⟩] (okTr c.hs) (fun h' _ x _=>validTrade_y S hoff h' c.hs v x)) ?_
  rintro u g hk rfl
  have hk2:=hkh.trans hk
  have hb3:=(hk2.get hn1).trans hb
  cases e1:c.tr.all (okTr c.hs) with
  | false =>
   simp (disch:=first|omega|decide) only [rUz,e1]
   refine hJ _ _ hk2 ?_ ?_ ?_
   all_goals (first|rfl|(simp (disch:=first|omega|decide) only [rUz,t1,t3,e1,Bool.false_and]; done)|(simp (disch:=first|omega|decide) only [rUz,t1,t3,e1,Bool.false_and]; rfl))
  | true =>
  simp (disch:=first|omega|decide) only [rUz,e1,t1,hb3,fieldAddr_ptr fB5 lcR,qcR,co5]
  refine wr_brings (fid:=101) (first:=#[]) (captured:=#[]) (Post:=fun u _=>u = .bool (c.cl.all daysB)) rfl (hoff _ _ _ rfl) (by simp (disch:=first|omega|decide) only [rUz]; exact allcR_y S hoff _ _ _ (hc1.mono hk2).cl (by omega) 102 rfl #[] daysB (fun h' _ x _=>isDays_y S hoff h' x)) ?_
  rintro u g2 hk3 rfl
  simp (disch:=first|omega|decide) only [rUz]
  refine hJ _ _ (hk2.trans hk3) ?_ ?_ ?_
  all_goals (first|rfl|(simp (disch:=first|omega|decide) only [rUz,t1,t3,e1,Bool.true_and]; done)|(simp (disch:=first|omega|decide) only [rUz,t1,t3,e1,Bool.true_and]; rfl))
 clear hb2 hkh t1 t3
 clear t h
 intro t h hkh t1 t3 t4
 subst hJJ
 simp only [seqK_normal]
 generalize (c.tr.all (okTr c.hs) && c.cl.all daysB) = q at t4 hK1
 have hb2:=(hkh.get hn1).trans hb
 repeat refine S.seq ?_
 refine S.region ?_
 generalize hJJ:(fun (t:T Value) (h:AHeap)=>_) = KJ
 suffices hJ:∀ t h,Kp H h → tget t 1 = ptr0 B → tget t 3 = .bool p → tget t 4 = .bool q → tget t 5 = .bool (c.dv.all okDv) → KJ t h = true by
  clear hJJ hK1
  simp (disch:=first|omega|decide) only [rUz,t1,hb2,fieldAddr_ptr fB3 lcD,qcD,co3]
  refine wr_brings (fid:=103) (first:=#[]) (captured:=#[]) (Post:=fun u _=>u = .bool (c.dv.all okDv)) rfl (hoff _ _ _ rfl) (by simp (disch:=first|omega|decide) only [rUz]; exact allcD_y S hoff _ _ _ (hc1.mono hkh).dv (by omega) 104 rfl #[] okDv (fun h' _ x _=>validD_y S hoff h' x)) ?_
  rintro u g hk rfl
  simp (disch:=first|omega|decide) only [rUz]
  refine hJ _ _ (hkh.trans hk) ?_ ?_ ?_ ?_
  all_goals (first|rfl|(simp (disch:=first|omega|decide) only [rUz,t1,t3,t4]; done)|(simp (disch:=first|omega|decide) only [rUz,t1,t3,t4]; rfl))
 clear hb2 hkh t1 t3 t4
 clear t h
 intro t h hkh t1 t3 t4 t5
 subst hJJ
 simp only [seqK_normal]
 generalize c.dv.all okDv = d at t5 hK1
 have hb2:=(hkh.get hn1).trans hb
 cases p with
 | false =>
  rw [Bool.false_and] at hK1
  repeat refine S.seq ?_
  refine S.region ?_
  simp (disch:=first|omega|decide) only [rUz,t3]
  refine S.ret ?_
  try simp only [seqK_ret,blockK_ret]
  subst hF
  simp only [finish,endMarks]
  rw [show Tryz.f77.results.toList = [.tmp 2] from rfl]
  simp (disch:=first|omega|decide) only [resA,ev_tmp,tget_ne,tget_eq,get_ne,get_eq,upd_eq,upd_ne,ag_eq,ag_ne,result1]
  exact hK1 _ hkh
 | true =>
 rw [Bool.true_and] at hK1
 cases q with
 | false =>
  rw [Bool.false_and] at hK1
  repeat refine S.seq ?_
  refine S.region ?_
  simp (disch:=first|omega|decide) only [rUz,t3,t4]
  refine S.ret ?_
  try simp only [seqK_ret,blockK_ret]
  subst hF
  simp only [finish,endMarks]
  rw [show Tryz.f77.results.toList = [.tmp 2] from rfl]
  simp (disch:=first|omega|decide) only [resA,ev_tmp,tget_ne,tget_eq,get_ne,get_eq,upd_eq,upd_ne,ag_eq,ag_ne,result1]
  exact hK1 _ hkh
 | true =>
 rw [Bool.true_and] at hK1
 cases d with
 | false =>
  rw [Bool.false_and] at hK1
  repeat refine S.seq ?_
  refine S.region ?_
  simp (disch:=first|omega|decide) only [rUz,t3,t4,t5]
  refine S.ret ?_
  try simp only [seqK_ret,blockK_ret]
  subst hF
  simp only [finish,endMarks]
  rw [show Tryz.f77.results.toList = [.tmp 2] from rfl]
  simp (disch:=first|omega|decide) only [resA,ev_tmp,tget_ne,tget_eq,get_ne,get_eq,upd_eq,upd_ne,ag_eq,ag_ne,result1]
  exact hK1 _ hkh
 | true =>
 rw [Bool.true_and] at hK1
 repeat refine S.seq ?_
 refine S.region ?_
 simp (disch:=first|omega|decide) only [rUz,t3,t4,t5,t1,hb2,fieldAddr_ptr fB4 lcS,qcS,co4]
 refine wr_brings (fid:=105) (first:=#[]) (captured:=#[]) (Post:=fun u _=>u = .bool (c.sp.all okSp)) rfl (hoff _ _ _ rfl) (by simp (disch:=first|omega|decide) only [rUz]; exact allcS_y S hoff _ _ _ (hc1.mono hkh).sp (by omega) 106 rfl #[] okSp (fun h' _ x _=>validS_y S hoff h' x)) ?_
 rintro u g hk rfl
 have hk2:=hkh.trans hk
 have hb3:=(hk2.get hn1).trans hb
 cases e1:c.sp.all okSp with
 | false =>
  rw [e1,Bool.false_and] at hK1
  simp (disch:=first|omega|decide) only [rUz,e1]
  refine S.ret ?_
  try simp only [seqK_ret,blockK_ret]
  subst hF
  simp only [finish,endMarks]
  rw [show Tryz.f77.results.toList = [.tmp 2] from rfl]
  simp (disch:=first|omega|decide) only [resA,ev_tmp,tget_ne,tget_eq,get_ne,get_eq,upd_eq,upd_ne,ag_eq,ag_ne,result1]
  exact hK1 _ hk2
 | true =>
 rw [e1,Bool.true_and] at hK1
 simp (disch:=first|omega|decide) only [rUz,e1,t1,hb3,part_0 pB (coV_len c.hs v)]
 refine wr_brings (fid:=107) (first:=#[]) (captured:=#[]) (Post:=fun u _=>u = .bool (ordF c.sp)) rfl (hoff _ _ _ rfl) (by simp (disch:=first|omega|decide) only [rUz]; exact splits_y S _ v c (hc1.mono hk2) th4) ?_
 rintro u g2 hk3 rfl
 simp (disch:=first|omega|decide) only [rUz]
 refine S.ret ?_
 try simp only [seqK_ret,blockK_ret]
 subst hF
 simp only [finish,endMarks]
 rw [show Tryz.f77.results.toList = [.tmp 2] from rfl]
 simp (disch:=first|omega|decide) only [resA,ev_tmp,tget_ne,tget_eq,get_ne,get_eq,upd_eq,upd_ne,ag_eq,ag_ne,result1]
 exact hK1 _ (hk2.trans hk3)

set_option maxHeartbeats 4000000 in
theorem check_y (S:Ev.Steps Tryz.prog pr R) (hoff:Off pr) (h0:AHeap) (v:Vs) (c:Co) (hc:CoAt h0 v c) (hth:thinB c [] [] = true):Brings Tryz.prog R 52 [.agg ⟨coV c.hs v⟩] h0 fun u _=>u = iv (faultZ c):=by
 refine brings_of (fn:=Tryz.f52) (c:=(Tryz.f52.body).getD .skip) (by kernel_rfl) rfl (by kernel_rfl) rfl (fun K hK=>?_)
 generalize hF:finish Tryz.prog Tryz.f52 K = KF
 simp only [Tryz.f52,Option.getD_some,argsT,setArgs,fV1_eq,T.setK_eq,id]
 have hK1:∀ h,Kp (h0.add (coV c.hs v)) h → K (iv (faultZ c)) h = true:=fun h hk=>hK _ _ (Kp.refl.add.trans hk) rfl
 clear hK
 repeat refine S.seq ?_
 refine S.region ?_
 simp (disch:=first|omega|decide) only [rUz]
 have hb:(h0.add (coV c.hs v)).bl.get h0.nx = some (.cells (coV c.hs v) h0.nx false):=ag_eq rfl
 have hc1:CoAt (h0.add (coV c.hs v)) v c:=hc.mono Kp.refl.add
 have hn1:h0.nx < (h0.add (coV c.hs v)).nx:=Nat.lt_succ_self _
 generalize h0.add (coV c.hs v) = H at hK1 hb hc1 hn1 ⊢
 generalize h0.nx = B at hb hn1 ⊢
 rw [fault_eq] at hK1
 repeat refine S.seq ?_
 refine S.region ?_
 simp (disch:=first|omega|decide) only [rUz,hb,part_0 pB (coV_len c.hs v)]
 refine wr_brings (fid:=76) (first:=#[]) (captured:=#[]) (Post:=fun u _=>u = .bool (fewB c)) rfl (hoff _ _ _ rfl) (by simp (disch:=first|omega|decide) only [rUz]; exact isFew_y S _ v c hc1) ?_
 rintro u g hk rfl
 have hb2:=(hk.get hn1).trans hb
 simp (disch:=first|omega|decide) only [rUz,un_not]
 cases e1:fewB c with
 | false =>
  rw [e1,cond_false] at hK1
  repeat refine S.seq ?_
  refine S.cond (v:=true) rfl (fun _=>?_) (fun e=>by cases e)
  repeat refine S.seq ?_
  refine S.region ?_
  simp (disch:=first|omega|decide) only [rUz]
  refine S.ret ?_
  try simp only [seqK_ret,blockK_ret]
  subst hF
  simp only [finish,endMarks]
  rw [show Tryz.f52.results.toList = [.tmp 2] from rfl]
  simp (disch:=first|omega|decide) only [resA,ev_tmp,tget_ne,tget_eq,get_ne,get_eq,upd_eq,upd_ne,ag_eq,ag_ne,result1]
  exact hK1 _ hk
 | true =>
 rw [e1,cond_true] at hK1
 repeat refine S.seq ?_
 refine S.cond (v:=false) rfl (fun e=>by cases e) (fun _=>?_)
 repeat refine S.seq ?_
 refine S.skip ?_
 simp (disch:=first|omega|decide) only [rUz]
 repeat refine S.seq ?_
 refine S.region ?_
 simp (disch:=first|omega|decide) only [rUz,hb2,part_0 pB (coV_len c.hs v)]
 refine wr_brings (fid:=77) (first:=#[]) (captured:=#[]) (Post:=fun u _=>u = .bool (validB c)) rfl (hoff _ _ _ rfl) (by simp (disch:=first|omega|decide) only [rUz]; exact isValid_y S hoff _ v c (hc1.mono hk) hth) ?_
 rintro u g2 hk2 rfl
 simp (disch:=first|omega|decide) only [rUz,un_not]
 cases e2:validB c with
 | false =>
  rw [e2,cond_false] at hK1
  repeat refine S.seq ?_
  refine S.cond (v:=true) rfl (fun _=>?_) (fun e=>by cases e)
  repeat refine S.seq ?_
  refine S.region ?_
  simp (disch:=first|omega|decide) only [rUz]
  refine S.ret ?_
  try simp only [seqK_ret,blockK_ret]
  subst hF
  simp only [finish,endMarks]
  rw [show Tryz.f52.results.toList = [.tmp 2] from rfl]
  simp (disch:=first|omega|decide) only [resA,ev_tmp,tget_ne,tget_eq,get_ne,get_eq,upd_eq,upd_ne,ag_eq,ag_ne,result1]
  exact hK1 _ (hk.trans hk2)
 | true =>
  rw [e2,cond_true] at hK1
  repeat refine S.seq ?_
  refine S.cond (v:=false) rfl (fun e=>by cases e) (fun _=>?_)
  repeat refine S.seq ?_
  refine S.skip ?_
  simp (disch:=first|omega|decide) only [rUz]
  repeat refine S.seq ?_
  refine S.region ?_
  simp (disch:=first|omega|decide) only [rUz]
  refine S.ret ?_
  try simp only [seqK_ret,blockK_ret]
  subst hF
  simp only [finish,endMarks]
  rw [show Tryz.f52.results.toList = [.tmp 2] from rfl]
  simp (disch:=first|omega|decide) only [resA,ev_tmp,tget_ne,tget_eq,get_ne,get_eq,upd_eq,upd_ne,ag_eq,ag_ne,result1]
  exact hK1 _ (hk.trans hk2)

end Go.Proofs.Cp
