import Derived.Test.YtefjnhpghgahbaaGreatCn3
/- What the program asks of a company. -/
namespace Go.Proofs.Cp
open Go Go.Ev
set_option linter.unusedSimpArgs false

theorem inB_lt (i hs:Int):(decide (0 ≤ i) && decide (i < hs)) = inB i 0 (hs - 1):=by
 unfold inB
 congr 1
 by_cases h:i < hs
 ·rw [decide_eq_true h,decide_eq_true (by omega)]
 ·rw [decide_eq_false h,decide_eq_false (by omega)]
theorem nle2 (a:Int):decide (a ≤ 2) = !decide (2 < a):=by
 by_cases h:a ≤ 2
 ·rw [decide_eq_true h,decide_eq_false (by omega)]; rfl
 ·rw [decide_eq_false h,decide_eq_true (by omega)]; rfl
theorem bool_ext {a b:Bool} (h:a = true ↔ b = true):a = b:=by
 cases a <;> cases b <;> simp_all
theorem days_eq (r:R2):(decide (r.1 ≤ r.2) && (inB r.1 0 11 && inB r.2 0 11)) = daysB r:=by
 refine bool_ext ?_
 simp only [Bool.and_eq_true,decide_eq_true_eq,inB_iff,daysB_iff]
 omega
def shortB (r:R2):Bool:=daysB r && !decide (2 < r.2 - r.1)
theorem okTr_eq (hs:Int) (x:Tr):((inB x.se 0 (hs - 1) && (inB x.bu 0 (hs - 1) && !decide (x.se = x.bu))) && (inB x.sh 1 100 && (shortB x.so && shortB x.de))) = okTr hs x:=by
 unfold okTr shortB
 refine bool_ext ?_
 simp only [Bool.and_eq_true]
 constructor
 ·rintro ⟨⟨a,b,c⟩,d,⟨e,f⟩,g,i⟩; exact ⟨a,b,c,d,e,g,f,i⟩
 ·rintro ⟨a,b,c,d,e,g,f,i⟩; exact ⟨⟨a,b,c⟩,d,⟨e,f⟩,g,i⟩
theorem okDv_eq (d:T3):(inB d.2.2 0 50 && (inB d.1 0 11 && (inB d.2.1 0 11 && decide (d.1 ≤ d.2.1)))) = okDv d:=by
 unfold okDv
 refine bool_ext ?_
 simp only [Bool.and_eq_true,decide_eq_true_eq,inB_iff,daysB_iff]
 omega
def okSp (s:T3):Bool:=inB s.2.1 1 6 && (inB s.2.2 1 4 && inB s.1 0 11)
def ordF:List T3 → Bool
 | a :: b :: r=>decide (a.1 < b.1) && ordF (b :: r)
 | _=>true
def headOK (last:Int):List T3 → Bool
 | []=>true
 | s :: _=>decide (last < s.1)
theorem spOrd_eq:∀ (l:List T3) (last:Int),-1 ≤ last → spOrd last l = (l.all okSp && (headOK last l && ordF l))
 | [],_,_=>by simp [spOrd,headOK,ordF]
 | s :: r,last,hl=>by
  rw [spOrd]
  by_cases hd : -1 ≤ s.1
  ·rw [spOrd_eq r s.1 hd]
   refine bool_ext ?_
   cases r with
   | nil =>
    simp only [List.all_cons,List.all_nil,Bool.and_eq_true,okSp,headOK,ordF,inB_iff,decide_eq_true_eq,and_true]
    omega
   | cons b r =>
    simp only [List.all_cons,Bool.and_eq_true,okSp,headOK,ordF,inB_iff,decide_eq_true_eq]
    constructor
    ·rintro ⟨⟨⟨a1,a2⟩,a3,a4⟩,⟨a5,a6⟩,a7,a8⟩; exact ⟨⟨⟨a3,a4,by omega,by omega⟩,a5,a6⟩,by omega,a7,a8⟩
    ·rintro ⟨⟨⟨a3,a4,a1,a2⟩,a5,a6⟩,a9,a7,a8⟩; exact ⟨⟨⟨by omega,by omega⟩,a3,a4⟩,⟨a5,a6⟩,a7,a8⟩
  ·have e1:inB s.1 (last + 1) 11 = false:=by unfold inB; rw [decide_eq_false (by omega)]; rfl
   have e2:okSp s = false:=by unfold okSp; rw [show inB s.1 0 11 = false by unfold inB; rw [decide_eq_false (by omega)]; rfl]; simp
   rw [e1,List.all_cons,e2]; rfl
theorem sp_eq (l:List T3):spOrd (-1) l = (l.all okSp && ordF l):=by
 rw [spOrd_eq l (-1) (by omega)]
 cases l with
 | nil=>rfl
 | cons s r =>
  simp only [headOK]
  cases h:okSp s with
  | false=>simp [h]
  | true =>
   simp only [okSp,Bool.and_eq_true,inB_iff] at h
   rw [decide_eq_true (by omega),Bool.true_and]
def fewB (c:Co):Bool:=decide (c.hs ≤ 4) && (decide ((c.tr.length:Int) ≤ 4) && (decide ((c.dv.length:Int) ≤ 3) && (decide ((c.sp.length:Int) ≤ 2) && decide ((c.cl.length:Int) ≤ 2))))
theorem few_eq (c:Co):manyZ c = !fewB c:=by
 refine bool_ext ?_
 simp only [manyZ,fewB,Bool.or_eq_true,Bool.not_eq_true',Bool.and_eq_false_iff,decide_eq_true_eq,decide_eq_false_iff_not]
 omega
def validB (c:Co):Bool:=(decide (0 < c.hs) && (decide ((c.held.length:Int) = c.hs) && c.held.all (fun n=>inB n 0 100))) && ((c.tr.all (okTr c.hs) && c.cl.all daysB) && (c.dv.all okDv && (c.sp.all okSp && ordF c.sp)))
theorem fault_eq (c:Co):faultZ c = bif fewB c then (bif validB c then 0 else 1) else 3:=by
 unfold faultZ
 rw [few_eq]
 cases fewB c with
 | false=>rfl
 | true =>
  simp only [Bool.not_true,cond_false,cond_true]
  unfold restZ validB
  rw [sp_eq]
  by_cases h1:0 < c.hs
  ·rw [decide_eq_true h1,decide_eq_false (by omega:¬ c.hs < 1),Bool.false_or,Bool.true_and]
   cases decide ((c.held.length:Int) = c.hs) with
   | false=>rfl
   | true =>
    simp only [Bool.not_true,cond_false,Bool.true_and]
    congr 1
    cases c.held.all (fun n=>inB n 0 100) <;> cases c.tr.all (okTr c.hs) <;> cases c.dv.all okDv <;> cases c.sp.all okSp <;> cases ordF c.sp <;> cases c.cl.all daysB <;> rfl
  ·rw [decide_eq_false h1,decide_eq_true (by omega:c.hs < 1)]; rfl

theorem rc73 (x:Tr):partL Tryz.prog 73 (c7 x) 3 = some (.agg ⟨c2 x.so⟩):=part_at (n:=2) pcR rfl rfl
theorem rc75 (x:Tr):partL Tryz.prog 73 (c7 x) 5 = some (.agg ⟨c2 x.de⟩):=part_at (n:=2) pcR rfl rfl

variable {pr:Prim} {R:ExT}
set_option maxHeartbeats 4000000 in
theorem hasDay_y (S:Ev.Steps Tryz.prog pr R) (h0:AHeap) (i:Int):Brings Tryz.prog R 38 [iv i] h0 fun v h=>v = .bool (inB i 0 11) ∧ h = h0:=by
 refine brings_of (fn:=Tryz.f38) (c:=(Tryz.f38.body).getD .skip) (by kernel_rfl) rfl (by kernel_rfl) rfl (fun K hK=>?_)
 generalize hF:finish Tryz.prog Tryz.f38 K = KF
 simp only [Tryz.f38,Option.getD_some,argsT,setArgs,fV1_eq,T.setK_eq,id]
 repeat refine S.seq ?_
 refine S.region ?_
 simp (disch:=first|omega|decide) only [rUz]
 unfold inB at hK
 cases h1:decide (0 ≤ i) with
 | true =>
  rw [h1,Bool.true_and] at hK
  repeat refine S.seq ?_
  refine S.region ?_
  simp (disch:=first|omega|decide) only [rUz,h1]
  refine S.ret ?_
  try simp only [seqK_ret,blockK_ret]
  subst hF
  simp only [finish,endMarks]
  rw [show Tryz.f38.results.toList = [.tmp 2] from rfl]
  simp (disch:=first|omega|decide) only [resA,ev_tmp,tget_ne,tget_eq,get_ne,get_eq,upd_eq,upd_ne,ag_eq,ag_ne,result1]
  exact hK _ _ Kp.refl ⟨rfl,rfl⟩
 | false =>
  rw [h1,Bool.false_and] at hK
  repeat refine S.seq ?_
  refine S.region ?_
  simp (disch:=first|omega|decide) only [rUz,h1]
  refine S.ret ?_
  try simp only [seqK_ret,blockK_ret]
  subst hF
  simp only [finish,endMarks]
  rw [show Tryz.f38.results.toList = [.tmp 2] from rfl]
  simp (disch:=first|omega|decide) only [resA,ev_tmp,tget_ne,tget_eq,get_ne,get_eq,upd_eq,upd_ne,ag_eq,ag_ne,result1]
  exact hK _ _ Kp.refl ⟨rfl,rfl⟩
set_option maxHeartbeats 4000000 in
theorem isHeld_y (S:Ev.Steps Tryz.prog pr R) (h0:AHeap) (i:Int):Brings Tryz.prog R 98 [iv i] h0 fun v _=>v = .bool (inB i 0 100):=by
 refine brings_of (fn:=Tryz.f98) (c:=(Tryz.f98.body).getD .skip) (by kernel_rfl) rfl (by kernel_rfl) rfl (fun K hK=>?_)
 generalize hF:finish Tryz.prog Tryz.f98 K = KF
 simp only [Tryz.f98,Option.getD_some,argsT,setArgs,fV1_eq,T.setK_eq,id]
 repeat refine S.seq ?_
 refine S.region ?_
 simp (disch:=first|omega|decide) only [rUz]
 unfold inB at hK
 cases h1:decide (0 ≤ i) with
 | true =>
  rw [h1,Bool.true_and] at hK
  repeat refine S.seq ?_
  refine S.region ?_
  simp (disch:=first|omega|decide) only [rUz,h1]
  refine S.ret ?_
  try simp only [seqK_ret,blockK_ret]
  subst hF
  simp only [finish,endMarks]
  rw [show Tryz.f98.results.toList = [.tmp 2] from rfl]
  simp (disch:=first|omega|decide) only [resA,ev_tmp,tget_ne,tget_eq,get_ne,get_eq,upd_eq,upd_ne,ag_eq,ag_ne,result1]
  exact hK _ _ Kp.refl rfl
 | false =>
  rw [h1,Bool.false_and] at hK
  repeat refine S.seq ?_
  refine S.region ?_
  simp (disch:=first|omega|decide) only [rUz,h1]
  refine S.ret ?_
  try simp only [seqK_ret,blockK_ret]
  subst hF
  simp only [finish,endMarks]
  rw [show Tryz.f98.results.toList = [.tmp 2] from rfl]
  simp (disch:=first|omega|decide) only [resA,ev_tmp,tget_ne,tget_eq,get_ne,get_eq,upd_eq,upd_ne,ag_eq,ag_ne,result1]
  exact hK _ _ Kp.refl rfl
set_option maxHeartbeats 4000000 in
theorem hasHouse_y (S:Ev.Steps Tryz.prog pr R) (h0:AHeap) (hs:Int) (v:Vs) (i:Int):Brings Tryz.prog R 119 [.agg ⟨coV hs v⟩,iv i] h0 fun v _=>v = .bool (inB i 0 (hs - 1)):=by
 refine brings_of (fn:=Tryz.f119) (c:=(Tryz.f119.body).getD .skip) (by kernel_rfl) rfl (by kernel_rfl) rfl (fun K hK=>?_)
 generalize hF:finish Tryz.prog Tryz.f119 K = KF
 simp only [Tryz.f119,Option.getD_some,argsT,setArgs,fV1_eq,T.setK_eq,id]
 rw [← inB_lt] at hK
 repeat refine S.seq ?_
 refine S.region ?_
 simp (disch:=first|omega|decide) only [rUz]
 cases h1:decide (0 ≤ i) with
 | true =>
  rw [h1,Bool.true_and] at hK
  repeat refine S.seq ?_
  refine S.region ?_
  simp (disch:=first|omega|decide) only [rUz,h1,fieldAddr_ptr fB0 s3,p3,co0]
  refine S.ret ?_
  try simp only [seqK_ret,blockK_ret]
  subst hF
  simp only [finish,endMarks]
  rw [show Tryz.f119.results.toList = [.tmp 4] from rfl]
  simp (disch:=first|omega|decide) only [resA,ev_tmp,tget_ne,tget_eq,get_ne,get_eq,upd_eq,upd_ne,ag_eq,ag_ne,result1]
  exact hK _ _ Kp.refl.add rfl
 | false =>
  rw [h1,Bool.false_and] at hK
  repeat refine S.seq ?_
  refine S.region ?_
  simp (disch:=first|omega|decide) only [rUz,h1]
  refine S.ret ?_
  try simp only [seqK_ret,blockK_ret]
  subst hF
  simp only [finish,endMarks]
  rw [show Tryz.f119.results.toList = [.tmp 4] from rfl]
  simp (disch:=first|omega|decide) only [resA,ev_tmp,tget_ne,tget_eq,get_ne,get_eq,upd_eq,upd_ne,ag_eq,ag_ne,result1]
  exact hK _ _ Kp.refl.add rfl

set_option maxHeartbeats 4000000 in
theorem isDays_y (S:Ev.Steps Tryz.prog pr R) (hoff:Off pr) (h0:AHeap) (r:R2):Brings Tryz.prog R 102 [.agg ⟨c2 r⟩] h0 fun v _=>v = .bool (daysB r):=by
 refine brings_of (fn:=Tryz.f102) (c:=(Tryz.f102.body).getD .skip) (by kernel_rfl) rfl (by kernel_rfl) rfl (fun K hK=>?_)
 generalize hF:finish Tryz.prog Tryz.f102 K = KF
 simp only [Tryz.f102,Option.getD_some,argsT,setArgs,fV1_eq,T.setK_eq,id]
 have hK1:∀ h,Kp (h0.add (c2 r)) h → K (.bool (daysB r)) h = true:=fun h hk=>hK _ _ (Kp.refl.add.trans hk) rfl
 clear hK
 repeat refine S.seq ?_
 refine S.region ?_
 simp (disch:=first|omega|decide) only [rUz]
 have hb:(h0.add (c2 r)).bl.get h0.nx = some (.cells (c2 r) h0.nx false):=ag_eq rfl
 generalize h0.add (c2 r) = H at hK1 hb ⊢
 generalize h0.nx = B at hb ⊢
 rw [← days_eq] at hK1
 cases h1:decide (r.1 ≤ r.2) with
 | false =>
  rw [h1,Bool.false_and] at hK1
  repeat refine S.seq ?_
  refine S.region ?_
  simp (disch:=first|omega|decide) only [rUz,h1,hb,fieldAddr_ptr fcR0 s3,fieldAddr_ptr fcR1 s3,p3,c20,c21]
  refine S.ret ?_
  try simp only [seqK_ret,blockK_ret]
  subst hF
  simp only [finish,endMarks]
  rw [show Tryz.f102.results.toList = [.tmp 2] from rfl]
  simp (disch:=first|omega|decide) only [resA,ev_tmp,tget_ne,tget_eq,get_ne,get_eq,upd_eq,upd_ne,ag_eq,ag_ne,result1]
  exact hK1 _ Kp.refl
 | true =>
 rw [h1,Bool.true_and] at hK1
 repeat refine S.seq ?_
 refine S.region ?_
 simp (disch:=first|omega|decide) only [rUz,h1,hb,fieldAddr_ptr fcR0 s3,fieldAddr_ptr fcR1 s3,p3,c20,c21]
 refine wr_brings (fid:=38) (first:=#[]) (captured:=#[]) (Post:=fun v h=>v = .bool (inB r.1 0 11) ∧ h = H) rfl (hoff _ _ _ rfl) (by simp (disch:=first|omega|decide) only [rUz]; exact hasDay_y S _ _) ?_
 rintro v g - ⟨rfl,rfl⟩
 cases h2:inB r.1 0 11 with
 | false =>
  rw [h2,Bool.false_and] at hK1
  simp (disch:=first|omega|decide) only [rUz,h2]
  refine S.ret ?_
  try simp only [seqK_ret,blockK_ret]
  subst hF
  simp only [finish,endMarks]
  rw [show Tryz.f102.results.toList = [.tmp 2] from rfl]
  simp (disch:=first|omega|decide) only [resA,ev_tmp,tget_ne,tget_eq,get_ne,get_eq,upd_eq,upd_ne,ag_eq,ag_ne,result1]
  exact hK1 _ Kp.refl
 | true =>
 rw [h2,Bool.true_and] at hK1
 simp (disch:=first|omega|decide) only [rUz,h2,hb,fieldAddr_ptr fcR1 s3,p3,c21]
 refine wr_brings (fid:=38) (first:=#[]) (captured:=#[]) (Post:=fun v h=>v = .bool (inB r.2 0 11) ∧ h = g) rfl (hoff _ _ _ rfl) (by simp (disch:=first|omega|decide) only [rUz]; exact hasDay_y S _ _) ?_
 rintro v g2 - ⟨rfl,rfl⟩
 simp (disch:=first|omega|decide) only [rUz]
 refine S.ret ?_
 try simp only [seqK_ret,blockK_ret]
 subst hF
 simp only [finish,endMarks]
 rw [show Tryz.f102.results.toList = [.tmp 2] from rfl]
 simp (disch:=first|omega|decide) only [resA,ev_tmp,tget_ne,tget_eq,get_ne,get_eq,upd_eq,upd_ne,ag_eq,ag_ne,result1]
 exact hK1 _ Kp.refl

set_option maxHeartbeats 4000000 in
theorem isShort_y (S:Ev.Steps Tryz.prog pr R) (hoff:Off pr) (h0:AHeap) (r:R2):Brings Tryz.prog R 120 [.agg ⟨c2 r⟩] h0 fun v _=>v = .bool (shortB r):=by
 refine brings_of (fn:=Tryz.f120) (c:=(Tryz.f120.body).getD .skip) (by kernel_rfl) rfl (by kernel_rfl) rfl (fun K hK=>?_)
 generalize hF:finish Tryz.prog Tryz.f120 K = KF
 simp only [Tryz.f120,Option.getD_some,argsT,setArgs,fV1_eq,T.setK_eq,id]
 have hK1:∀ h,Kp (h0.add (c2 r)) h → K (.bool (shortB r)) h = true:=fun h hk=>hK _ _ (Kp.refl.add.trans hk) rfl
 clear hK
 repeat refine S.seq ?_
 refine S.region ?_
 simp (disch:=first|omega|decide) only [rUz]
 have hb:(h0.add (c2 r)).bl.get h0.nx = some (.cells (c2 r) h0.nx false):=ag_eq rfl
 have hlt:h0.nx < (h0.add (c2 r)).nx:=Nat.lt_succ_self _
 generalize h0.add (c2 r) = H at hK1 hb hlt ⊢
 generalize h0.nx = B at hb hlt ⊢
 unfold shortB at hK1
 repeat refine S.seq ?_
 refine S.region ?_
 simp (disch:=first|omega|decide) only [rUz,hb,part_0 pcR (c2_len r)]
 refine wr_brings (fid:=102) (first:=#[]) (captured:=#[]) (Post:=fun v _=>v = .bool (daysB r)) rfl (hoff _ _ _ rfl) (by simp (disch:=first|omega|decide) only [rUz]; exact isDays_y S hoff _ _) ?_
 rintro v g hk rfl
 have hb:=(hk.get hlt).trans hb
 cases h1:daysB r with
 | false =>
  rw [h1,Bool.false_and] at hK1
  simp (disch:=first|omega|decide) only [rUz,h1]
  refine S.ret ?_
  try simp only [seqK_ret,blockK_ret]
  subst hF
  simp only [finish,endMarks]
  rw [show Tryz.f120.results.toList = [.tmp 2] from rfl]
  simp (disch:=first|omega|decide) only [resA,ev_tmp,tget_ne,tget_eq,get_ne,get_eq,upd_eq,upd_ne,ag_eq,ag_ne,result1]
  exact hK1 _ hk
 | true =>
 obtain ⟨d1,d2,d3⟩:=daysB_iff.1 h1
 rw [h1,Bool.true_and] at hK1
 simp (disch:=first|omega|decide) only [rUz,h1,hb,fieldAddr_ptr fcR0 s3,fieldAddr_ptr fcR1 s3,p3,c20,c21,nle2]
 refine S.ret ?_
 try simp only [seqK_ret,blockK_ret]
 subst hF
 simp only [finish,endMarks]
 rw [show Tryz.f120.results.toList = [.tmp 2] from rfl]
 simp (disch:=first|omega|decide) only [resA,ev_tmp,tget_ne,tget_eq,get_ne,get_eq,upd_eq,upd_ne,ag_eq,ag_ne,result1]
 exact hK1 _ hk

set_option maxHeartbeats 16000000 in
theorem validTrade_y (S:Ev.Steps Tryz.prog pr R) (hoff:Off pr) (h0:AHeap) (hs:Int) (v:Vs) (x:Tr):Brings Tryz.prog R 100 [.agg ⟨coV hs v⟩,.agg ⟨c7 x⟩] h0 fun v _=>v = .bool (okTr hs x):=by
 refine brings_of (fn:=Tryz.f100) (c:=(Tryz.f100.body).getD .skip) (by kernel_rfl) rfl (by kernel_rfl) rfl (fun K hK=>?_)
 generalize hF:finish Tryz.prog Tryz.f100 K = KF
 simp only [Tryz.f100,Option.getD_some,argsT,setArgs,fV1_eq,T.setK_eq,id]
 have hK1:∀ h,Kp ((h0.add (coV hs v)).add (c7 x)) h → K (.bool (okTr hs x)) h = true:=fun h hk=>hK _ _ (Kp.refl.add.add.trans hk) rfl
 clear hK
 repeat refine S.seq ?_
 refine S.region ?_
 simp (disch:=first|omega|decide) only [rUz]
 have hb1:((h0.add (coV hs v)).add (c7 x)).bl.get h0.nx = some (.cells (coV hs v) h0.nx false):=by rw [ag_ne (by show h0.nx ≠ h0.nx + 1; omega)]; exact ag_eq rfl
 have hb2:((h0.add (coV hs v)).add (c7 x)).bl.get (h0.nx + 1) = some (.cells (c7 x) (h0.nx + 1) false):=ag_eq rfl
 have hn:h0.nx + 1 < ((h0.add (coV hs v)).add (c7 x)).nx:=Nat.lt_succ_self _
 generalize (h0.add (coV hs v)).add (c7 x) = H at hK1 hb1 hb2 hn ⊢
 generalize hB2:h0.nx + 1 = B2 at hb2 hn ⊢
 have hn1:h0.nx < H.nx:=by omega
 generalize h0.nx = B1 at hb1 hn1 hB2 ⊢
 clear hB2
 rw [← okTr_eq] at hK1
 repeat refine S.seq ?_
 refine S.region ?_
 generalize hJJ:(fun (t:T Value) (h:AHeap)=>_) = KJ
 suffices hJ:∀ t h,Kp H h → tget t 3 = ptr0 B2 → tget t 5 = .bool (inB x.se 0 (hs - 1) && (inB x.bu 0 (hs - 1) && !decide (x.se = x.bu))) → KJ t h = true by
  clear hJJ hK1
  simp (disch:=first|omega|decide) only [rUz,hb1,hb2,part_0 pB (coV_len hs v),fieldAddr_ptr fcT0 s3,p3,c70]
  refine wr_brings (fid:=119) (first:=#[]) (captured:=#[]) (Post:=fun v _=>v = .bool (inB x.se 0 (hs - 1))) rfl (hoff _ _ _ rfl) (by simp (disch:=first|omega|decide) only [rUz]; exact hasHouse_y S _ _ _ _) ?_
  rintro u g hk rfl
  have hb1':=(hk.get hn1).trans hb1
  have hb2':=(hk.get hn).trans hb2
  cases h1:inB x.se 0 (hs - 1) with
  | false =>
   simp (disch:=first|omega|decide) only [rUz,h1]
   refine hJ _ _ hk ?_ ?_
   all_goals (first|rfl|(simp (disch:=first|omega|decide) only [rUz,h1,Bool.false_and]; done)|(simp (disch:=first|omega|decide) only [rUz,h1,Bool.false_and]; rfl))
  | true =>
  simp (disch:=first|omega|decide) only [rUz,h1,hb1',hb2',part_0 pB (coV_len hs v),fieldAddr_ptr fcT1 s3,p3,c71]
  refine wr_brings (fid:=119) (first:=#[]) (captured:=#[]) (Post:=fun v _=>v = .bool (inB x.bu 0 (hs - 1))) rfl (hoff _ _ _ rfl) (by simp (disch:=first|omega|decide) only [rUz]; exact hasHouse_y S _ _ _ _) ?_
  rintro u g2 hk2 rfl
  have hk3:=hk.trans hk2
  have hb2':=(hk3.get hn).trans hb2
  cases h2:inB x.bu 0 (hs - 1) with
  | false =>
   simp (disch:=first|omega|decide) only [rUz,h2]
   refine hJ _ _ hk3 ?_ ?_
   all_goals (first|rfl|(simp (disch:=first|omega|decide) only [rUz,h1,h2,Bool.false_and,Bool.true_and]; done)|(simp (disch:=first|omega|decide) only [rUz,h1,h2,Bool.false_and,Bool.true_and]; rfl))
  | true =>
   simp (disch:=first|omega|decide) only [rUz,h2,hb2',fieldAddr_ptr fcT0 s3,fieldAddr_ptr fcT1 s3,p3,c70,c71]
   refine hJ _ _ hk3 ?_ ?_
   all_goals (first|rfl|(simp (disch:=first|omega|decide) only [rUz,h1,h2,Bool.true_and]; done)|(simp (disch:=first|omega|decide) only [rUz,h1,h2,Bool.true_and]; rfl))
 intro t h hk t3 t5
 subst hJJ
 simp only [seqK_normal]
 have hb2:=(hk.get hn).trans hb2
 repeat refine S.seq ?_
 refine S.region ?_
 generalize hJJ:(fun (t:T Value) (h:AHeap)=>_) = KJ
 suffices hJ:∀ t,tget t 3 = ptr0 B2 → tget t 5 = .bool (inB x.se 0 (hs - 1) && (inB x.bu 0 (hs - 1) && !decide (x.se = x.bu))) → tget t 6 = .bool (inB x.sh 1 100) → KJ t h = true by
  clear hJJ hK1
  cases h1:decide (1 ≤ x.sh) with
  | false =>
   simp (disch:=first|omega|decide) only [rUz,t3,hb2,fieldAddr_ptr fcT2 s3,p3,c72,h1]
   refine hJ _ ?_ ?_ ?_
   all_goals (first|rfl|(simp (disch:=first|omega|decide) only [rUz,t3,t5,inB,h1,Bool.false_and]; done)|(simp (disch:=first|omega|decide) only [rUz,t3,t5,inB,h1,Bool.false_and]; rfl))
  | true =>
   simp (disch:=first|omega|decide) only [rUz,t3,hb2,fieldAddr_ptr fcT2 s3,p3,c72,h1]
   refine hJ _ ?_ ?_ ?_
   all_goals (first|rfl|(simp (disch:=first|omega|decide) only [rUz,t3,t5,inB,h1,Bool.true_and]; done)|(simp (disch:=first|omega|decide) only [rUz,t3,t5,inB,h1,Bool.true_and]; rfl))
 clear t3 t5
 clear t
 intro t t3 t5 t6
 subst hJJ
 simp only [seqK_normal]
 generalize (inB x.se 0 (hs - 1) && (inB x.bu 0 (hs - 1) && !decide (x.se = x.bu))) = p at t5 hK1
 generalize inB x.sh 1 100 = q at t6 hK1
 cases p with
 | false =>
  rw [Bool.false_and] at hK1
  repeat refine S.seq ?_
  refine S.region ?_
  simp (disch:=first|omega|decide) only [rUz,t5]
  refine S.ret ?_
  try simp only [seqK_ret,blockK_ret]
  subst hF
  simp only [finish,endMarks]
  rw [show Tryz.f100.results.toList = [.tmp 4] from rfl]
  simp (disch:=first|omega|decide) only [resA,ev_tmp,tget_ne,tget_eq,get_ne,get_eq,upd_eq,upd_ne,ag_eq,ag_ne,result1]
  exact hK1 _ hk
 | true =>
 rw [Bool.true_and] at hK1
 cases q with
 | false =>
  rw [Bool.false_and] at hK1
  repeat refine S.seq ?_
  refine S.region ?_
  simp (disch:=first|omega|decide) only [rUz,t5,t6]
  refine S.ret ?_
  try simp only [seqK_ret,blockK_ret]
  subst hF
  simp only [finish,endMarks]
  rw [show Tryz.f100.results.toList = [.tmp 4] from rfl]
  simp (disch:=first|omega|decide) only [resA,ev_tmp,tget_ne,tget_eq,get_ne,get_eq,upd_eq,upd_ne,ag_eq,ag_ne,result1]
  exact hK1 _ hk
 | true =>
 rw [Bool.true_and] at hK1
 repeat refine S.seq ?_
 refine S.region ?_
 simp (disch:=first|omega|decide) only [rUz,t5,t6,t3,hb2,fieldAddr_ptr fcT3 ScR,rc73]
 refine wr_brings (fid:=120) (first:=#[]) (captured:=#[]) (Post:=fun v _=>v = .bool (shortB x.so)) rfl (hoff _ _ _ rfl) (by simp (disch:=first|omega|decide) only [rUz]; exact isShort_y S hoff _ _) ?_
 rintro u g hkA rfl
 have hn':B2 < h.nx:=Nat.lt_of_lt_of_le hn hk.1
 have hbA:=(hkA.get hn').trans hb2
 cases h1:shortB x.so with
 | false =>
  rw [h1,Bool.false_and] at hK1
  simp (disch:=first|omega|decide) only [rUz,h1]
  refine S.ret ?_
  try simp only [seqK_ret,blockK_ret]
  subst hF
  simp only [finish,endMarks]
  rw [show Tryz.f100.results.toList = [.tmp 4] from rfl]
  simp (disch:=first|omega|decide) only [resA,ev_tmp,tget_ne,tget_eq,get_ne,get_eq,upd_eq,upd_ne,ag_eq,ag_ne,result1]
  exact hK1 _ (hk.trans hkA)
 | true =>
 rw [h1,Bool.true_and] at hK1
 simp (disch:=first|omega|decide) only [rUz,h1,t3,hbA,fieldAddr_ptr fcT4 ScR,rc75]
 refine wr_brings (fid:=120) (first:=#[]) (captured:=#[]) (Post:=fun v _=>v = .bool (shortB x.de)) rfl (hoff _ _ _ rfl) (by simp (disch:=first|omega|decide) only [rUz]; exact isShort_y S hoff _ _) ?_
 rintro u g2 hkB rfl
 simp (disch:=first|omega|decide) only [rUz]
 refine S.ret ?_
 try simp only [seqK_ret,blockK_ret]
 subst hF
 simp only [finish,endMarks]
 rw [show Tryz.f100.results.toList = [.tmp 4] from rfl]
 simp (disch:=first|omega|decide) only [resA,ev_tmp,tget_ne,tget_eq,get_ne,get_eq,upd_eq,upd_ne,ag_eq,ag_ne,result1]
 exact hK1 _ (hk.trans (hkA.trans hkB))

set_option maxHeartbeats 16000000 in
theorem validD_y (S:Ev.Steps Tryz.prog pr R) (hoff:Off pr) (h0:AHeap) (x:T3):Brings Tryz.prog R 104 [.agg ⟨c3 x⟩] h0 fun v _=>v = .bool (okDv x):=by
 refine brings_of (fn:=Tryz.f104) (c:=(Tryz.f104.body).getD .skip) (by kernel_rfl) rfl (by kernel_rfl) rfl (fun K hK=>?_)
 generalize hF:finish Tryz.prog Tryz.f104 K = KF
 simp only [Tryz.f104,Option.getD_some,argsT,setArgs,fV1_eq,T.setK_eq,id]
 have hK1:∀ h,Kp (h0.add (c3 x)) h → K (.bool (okDv x)) h = true:=fun h hk=>hK _ _ (Kp.refl.add.trans hk) rfl
 clear hK
 repeat refine S.seq ?_
 refine S.region ?_
 simp (disch:=first|omega|decide) only [rUz]
 have hb:(h0.add (c3 x)).bl.get h0.nx = some (.cells (c3 x) h0.nx false):=ag_eq rfl
 generalize h0.add (c3 x) = H at hK1 hb ⊢
 generalize h0.nx = B at hb ⊢
 rw [← okDv_eq] at hK1
 repeat refine S.seq ?_
 refine S.region ?_
 generalize hJJ:(fun (t:T Value) (h:AHeap)=>_) = KJ
 suffices hJ:∀ t,tget t 1 = ptr0 B → tget t 3 = .bool (inB x.2.2 0 50) → KJ t H = true by
  clear hJJ hK1
  cases h1:decide (0 ≤ x.2.2) with
  | false =>
   simp (disch:=first|omega|decide) only [rUz,hb,fieldAddr_ptr fcD2 s3,p3,c32,h1]
   refine hJ _ ?_ ?_
   all_goals (first|rfl|(simp (disch:=first|omega|decide) only [rUz,inB,h1,Bool.false_and]; done)|(simp (disch:=first|omega|decide) only [rUz,inB,h1,Bool.false_and]; rfl))
  | true =>
   simp (disch:=first|omega|decide) only [rUz,hb,fieldAddr_ptr fcD2 s3,p3,c32,h1]
   refine hJ _ ?_ ?_
   all_goals (first|rfl|(simp (disch:=first|omega|decide) only [rUz,inB,h1,Bool.true_and]; done)|(simp (disch:=first|omega|decide) only [rUz,inB,h1,Bool.true_and]; rfl))
 intro t t1 t3
 subst hJJ
 simp only [seqK_normal]
 generalize inB x.2.2 0 50 = p at t3 hK1
 cases p with
 | false =>
  rw [Bool.false_and] at hK1
  repeat refine S.seq ?_
  refine S.region ?_
  simp (disch:=first|omega|decide) only [rUz,t3]
  refine S.ret ?_
  try simp only [seqK_ret,blockK_ret]
  subst hF
  simp only [finish,endMarks]
  rw [show Tryz.f104.results.toList = [.tmp 2] from rfl]
  simp (disch:=first|omega|decide) only [resA,ev_tmp,tget_ne,tget_eq,get_ne,get_eq,upd_eq,upd_ne,ag_eq,ag_ne,result1]
  exact hK1 _ Kp.refl
 | true =>
 rw [Bool.true_and] at hK1
 repeat refine S.seq ?_
 refine S.region ?_
 simp (disch:=first|omega|decide) only [rUz,t3,t1,hb,fieldAddr_ptr fcD0 s3,p3,c30]
 refine wr_brings (fid:=38) (first:=#[]) (captured:=#[]) (Post:=fun v h=>v = .bool (inB x.1 0 11) ∧ h = H) rfl (hoff _ _ _ rfl) (by simp (disch:=first|omega|decide) only [rUz]; exact hasDay_y S _ _) ?_
 rintro v g - ⟨rfl,rfl⟩
 cases h2:inB x.1 0 11 with
 | false =>
  rw [h2,Bool.false_and] at hK1
  simp (disch:=first|omega|decide) only [rUz,h2]
  refine S.ret ?_
  try simp only [seqK_ret,blockK_ret]
  subst hF
  simp only [finish,endMarks]
  rw [show Tryz.f104.results.toList = [.tmp 2] from rfl]
  simp (disch:=first|omega|decide) only [resA,ev_tmp,tget_ne,tget_eq,get_ne,get_eq,upd_eq,upd_ne,ag_eq,ag_ne,result1]
  exact hK1 _ Kp.refl
 | true =>
 rw [h2,Bool.true_and] at hK1
 simp (disch:=first|omega|decide) only [rUz,h2,t1,hb,fieldAddr_ptr fcD1 s3,p3,c31]
 refine wr_brings (fid:=38) (first:=#[]) (captured:=#[]) (Post:=fun v h=>v = .bool (inB x.2.1 0 11) ∧ h = g) rfl (hoff _ _ _ rfl) (by simp (disch:=first|omega|decide) only [rUz]; exact hasDay_y S _ _) ?_
 rintro v g2 - ⟨rfl,rfl⟩
 cases h3:inB x.2.1 0 11 with
 | false =>
  rw [h3,Bool.false_and] at hK1
  simp (disch:=first|omega|decide) only [rUz,h3]
  refine S.ret ?_
  try simp only [seqK_ret,blockK_ret]
  subst hF
  simp only [finish,endMarks]
  rw [show Tryz.f104.results.toList = [.tmp 2] from rfl]
  simp (disch:=first|omega|decide) only [resA,ev_tmp,tget_ne,tget_eq,get_ne,get_eq,upd_eq,upd_ne,ag_eq,ag_ne,result1]
  exact hK1 _ Kp.refl
 | true =>
 rw [h3,Bool.true_and] at hK1
 simp (disch:=first|omega|decide) only [rUz,h3,t1,hb,fieldAddr_ptr fcD0 s3,fieldAddr_ptr fcD1 s3,p3,c30,c31]
 refine S.ret ?_
 try simp only [seqK_ret,blockK_ret]
 subst hF
 simp only [finish,endMarks]
 rw [show Tryz.f104.results.toList = [.tmp 2] from rfl]
 simp (disch:=first|omega|decide) only [resA,ev_tmp,tget_ne,tget_eq,get_ne,get_eq,upd_eq,upd_ne,ag_eq,ag_ne,result1]
 exact hK1 _ Kp.refl

set_option maxHeartbeats 16000000 in
theorem validS_y (S:Ev.Steps Tryz.prog pr R) (hoff:Off pr) (h0:AHeap) (x:T3):Brings Tryz.prog R 106 [.agg ⟨c3 x⟩] h0 fun v _=>v = .bool (okSp x):=by
 refine brings_of (fn:=Tryz.f106) (c:=(Tryz.f106.body).getD .skip) (by kernel_rfl) rfl (by kernel_rfl) rfl (fun K hK=>?_)
 generalize hF:finish Tryz.prog Tryz.f106 K = KF
 simp only [Tryz.f106,Option.getD_some,argsT,setArgs,fV1_eq,T.setK_eq,id]
 have hK1:∀ h,Kp (h0.add (c3 x)) h → K (.bool (okSp x)) h = true:=fun h hk=>hK _ _ (Kp.refl.add.trans hk) rfl
 clear hK
 repeat refine S.seq ?_
 refine S.region ?_
 simp (disch:=first|omega|decide) only [rUz]
 have hb:(h0.add (c3 x)).bl.get h0.nx = some (.cells (c3 x) h0.nx false):=ag_eq rfl
 generalize h0.add (c3 x) = H at hK1 hb ⊢
 generalize h0.nx = B at hb ⊢
 unfold okSp at hK1
 repeat refine S.seq ?_
 refine S.region ?_
 generalize hJJ:(fun (t:T Value) (h:AHeap)=>_) = KJ
 suffices hJ:∀ t,tget t 1 = ptr0 B → tget t 3 = .bool (inB x.2.1 1 6) → KJ t H = true by
  clear hJJ hK1
  cases h1:decide (1 ≤ x.2.1) with
  | false =>
   simp (disch:=first|omega|decide) only [rUz,hb,fieldAddr_ptr fcS1 s3,p3,c31,h1]
   refine hJ _ ?_ ?_
   all_goals (first|rfl|(simp (disch:=first|omega|decide) only [rUz,inB,h1,Bool.false_and]; done)|(simp (disch:=first|omega|decide) only [rUz,inB,h1,Bool.false_and]; rfl))
  | true =>
   simp (disch:=first|omega|decide) only [rUz,hb,fieldAddr_ptr fcS1 s3,p3,c31,h1]
   refine hJ _ ?_ ?_
   all_goals (first|rfl|(simp (disch:=first|omega|decide) only [rUz,inB,h1,Bool.true_and]; done)|(simp (disch:=first|omega|decide) only [rUz,inB,h1,Bool.true_and]; rfl))
 intro t t1 t3
 subst hJJ
 simp only [seqK_normal]
 generalize inB x.2.1 1 6 = p at t3 hK1
 cases p with
 | false =>
  rw [Bool.false_and] at hK1
  repeat refine S.seq ?_
  refine S.region ?_
  simp (disch:=first|omega|decide) only [rUz,t3]
  refine S.ret ?_
  try simp only [seqK_ret,blockK_ret]
  subst hF
  simp only [finish,endMarks]
  rw [show Tryz.f106.results.toList = [.tmp 2] from rfl]
  simp (disch:=first|omega|decide) only [resA,ev_tmp,tget_ne,tget_eq,get_ne,get_eq,upd_eq,upd_ne,ag_eq,ag_ne,result1]
  exact hK1 _ Kp.refl
 | true =>
 rw [Bool.true_and] at hK1
 unfold inB at hK1
 cases h1:decide (1 ≤ x.2.2) with
 | false =>
  rw [h1,Bool.false_and,Bool.false_and] at hK1
  repeat refine S.seq ?_
  refine S.region ?_
  simp (disch:=first|omega|decide) only [rUz,t3,t1,hb,fieldAddr_ptr fcS2 s3,p3,c32,h1]
  refine S.ret ?_
  try simp only [seqK_ret,blockK_ret]
  subst hF
  simp only [finish,endMarks]
  rw [show Tryz.f106.results.toList = [.tmp 2] from rfl]
  simp (disch:=first|omega|decide) only [resA,ev_tmp,tget_ne,tget_eq,get_ne,get_eq,upd_eq,upd_ne,ag_eq,ag_ne,result1]
  exact hK1 _ Kp.refl
 | true =>
 rw [h1,Bool.true_and] at hK1
 cases h2:decide (x.2.2 ≤ 4) with
 | false =>
  rw [h2,Bool.false_and] at hK1
  repeat refine S.seq ?_
  refine S.region ?_
  simp (disch:=first|omega|decide) only [rUz,t3,t1,hb,fieldAddr_ptr fcS2 s3,p3,c32,h1,h2]
  refine S.ret ?_
  try simp only [seqK_ret,blockK_ret]
  subst hF
  simp only [finish,endMarks]
  rw [show Tryz.f106.results.toList = [.tmp 2] from rfl]
  simp (disch:=first|omega|decide) only [resA,ev_tmp,tget_ne,tget_eq,get_ne,get_eq,upd_eq,upd_ne,ag_eq,ag_ne,result1]
  exact hK1 _ Kp.refl
 | true =>
 rw [h2,Bool.true_and] at hK1
 repeat refine S.seq ?_
 refine S.region ?_
 simp (disch:=first|omega|decide) only [rUz,t3,t1,hb,fieldAddr_ptr fcS0 s3,fieldAddr_ptr fcS2 s3,p3,c30,c32,h1,h2]
 refine wr_brings (fid:=38) (first:=#[]) (captured:=#[]) (Post:=fun v h=>v = .bool (inB x.1 0 11) ∧ h = H) rfl (hoff _ _ _ rfl) (by simp (disch:=first|omega|decide) only [rUz]; exact hasDay_y S _ _) ?_
 rintro v g - ⟨rfl,rfl⟩
 simp (disch:=first|omega|decide) only [rUz]
 refine S.ret ?_
 try simp only [seqK_ret,blockK_ret]
 subst hF
 simp only [finish,endMarks]
 rw [show Tryz.f106.results.toList = [.tmp 2] from rfl]
 simp (disch:=first|omega|decide) only [resA,ev_tmp,tget_ne,tget_eq,get_ne,get_eq,upd_eq,upd_ne,ag_eq,ag_ne,result1]
 exact hK1 _ Kp.refl
end Go.Proofs.Cp
