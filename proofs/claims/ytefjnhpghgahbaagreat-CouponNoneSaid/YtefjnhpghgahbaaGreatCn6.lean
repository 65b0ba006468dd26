import Derived.Test.YtefjnhpghgahbaaGreatCn5
/- When a trade is registered. -/
namespace Go.Proofs.Cp
open Go Go.Ev
set_option linter.unusedSimpArgs false

def openB (cl:List R2) (d:Int):Bool:=cl.all fun r=>!inB d r.1 r.2
def regG (cl:List R2) (d:Int):Nat → Int → Int
 | 0,_=>-1
 | n + 1,k=>bif decide (d ≤ k) && openB cl k then k else regG cl d n (k + 1)
def regP (cl:List R2) (d:Int):Int:=regG cl d 12 0
theorem veq_rg (r:R2):veq (.agg ⟨c2 r⟩) (.agg ⟨c2 r⟩) = true:=by
 simp only [c2,veq,veqA,veqL,beqKind,beqI_eq,decide_true,Bool.and_self]

variable {pr:Prim} {R:ExT}
set_option maxHeartbeats 4000000 in
theorem has_y (S:Ev.Steps Tryz.prog pr R) (h0:AHeap) (r:R2) (i:Int):Brings Tryz.prog R 93 [.agg ⟨c2 r⟩,iv i] h0 fun v _=>v = .bool (inB i r.1 r.2):=by
 refine brings_of (fn:=Tryz.f93) (c:=(Tryz.f93.body).getD .skip) (by kernel_rfl) rfl (by kernel_rfl) rfl (fun K hK=>?_)
 generalize hF:finish Tryz.prog Tryz.f93 K = KF
 simp only [Tryz.f93,Option.getD_some,argsT,setArgs,fV1_eq,T.setK_eq,id]
 repeat refine S.seq ?_
 refine S.region ?_
 simp (disch:=first|omega|decide) only [rUz]
 unfold inB at hK
 cases h1:decide (r.1 ≤ i) with
 | true =>
  rw [h1,Bool.true_and] at hK
  repeat refine S.seq ?_
  refine S.region ?_
  simp (disch:=first|omega|decide) only [rUz,h1,fieldAddr_ptr fcR0 s3,fieldAddr_ptr fcR1 s3,p3,c20,c21]
  refine S.ret ?_
  try simp only [seqK_ret,blockK_ret]
  subst hF
  simp only [finish,endMarks]
  rw [show Tryz.f93.results.toList = [.tmp 4] from rfl]
  simp (disch:=first|omega|decide) only [resA,ev_tmp,tget_ne,tget_eq,get_ne,get_eq,upd_eq,upd_ne,ag_eq,ag_ne,result1]
  exact hK _ _ Kp.refl.add rfl
 | false =>
  rw [h1,Bool.false_and] at hK
  repeat refine S.seq ?_
  refine S.region ?_
  simp (disch:=first|omega|decide) only [rUz,h1,fieldAddr_ptr fcR0 s3,p3,c20]
  refine S.ret ?_
  try simp only [seqK_ret,blockK_ret]
  subst hF
  simp only [finish,endMarks]
  rw [show Tryz.f93.results.toList = [.tmp 4] from rfl]
  simp (disch:=first|omega|decide) only [resA,ev_tmp,tget_ne,tget_eq,get_ne,get_eq,upd_eq,upd_ne,ag_eq,ag_ne,result1]
  exact hK _ _ Kp.refl.add rfl

set_option maxHeartbeats 4000000 in
theorem closed1_y (S:Ev.Steps Tryz.prog pr R) (hoff:Off pr) (h:AHeap) (Bd f:Nat) (ro:Bool) (d:Int) (r:R2) (hb:h.bl.get Bd = some (.cells [iv d] f ro)) (hlt:Bd < h.nx) :
  Brings Tryz.prog R 92 [.agg ⟨c2 r⟩,ptr0 Bd] h fun u _=>u = .bool (inB d r.1 r.2):=by
 refine brings_of (fn:=Tryz.f92) (c:=(Tryz.f92.body).getD .skip) (by kernel_rfl) rfl (by kernel_rfl) rfl (fun K hK=>?_)
 generalize hF:finish Tryz.prog Tryz.f92 K = KF
 simp only [Tryz.f92,Option.getD_some,argsT,setArgs,fV1_eq,T.setK_eq,id]
 repeat refine S.seq ?_
 refine S.region ?_
 simp (disch:=first|omega|decide) only [rUz]
 have hbx:(h.add (c2 r)).bl.get Bd = some (.cells [iv d] f ro):=by rw [ag_ne (by omega)]; exact hb
 repeat refine S.seq ?_
 refine S.region ?_
 simp (disch:=first|omega|decide) only [rUz,hbx,p3,part_0 pcR (c2_len r)]
 refine wr_brings (fid:=93) (first:=#[]) (captured:=#[]) (Post:=fun u _=>u = .bool (inB d r.1 r.2)) rfl (hoff _ _ _ rfl) (by simp (disch:=first|omega|decide) only [rUz]; exact has_y S _ r d) ?_
 rintro u g hk rfl
 simp (disch:=first|omega|decide) only [rUz]
 refine S.ret ?_
 try simp only [seqK_ret,blockK_ret]
 subst hF
 simp only [finish,endMarks]
 rw [show Tryz.f92.results.toList = [.tmp 3] from rfl]
 simp (disch:=first|omega|decide) only [resA,ev_tmp,tget_ne,tget_eq,get_ne,get_eq,upd_eq,upd_ne,ag_eq,ag_ne,result1]
 exact hK _ _ (Kp.refl.add.trans hk) rfl

def IXr (d:Int) (cs:List R2) (H:AHeap) (cv fv:Value) (k:Nat) (t:T Value) (h:AHeap):Prop:=
 k ≤ cs.length ∧ firstBad (fun r=>!inB d r.1 r.2) cs 0 = firstBad (fun r=>!inB d r.1 r.2) (cs.drop k) k ∧ Kp H h ∧ tget t 0 = cv ∧ tget t 1 = fv ∧ tget t 7 = iv (cs.length:Int) ∧ tget t 8 = iv (k:Int)

set_option maxHeartbeats 4000000 in
theorem idxcl_y (S:Ev.Steps Tryz.prog pr R) (hoff:Off pr) (h0:AHeap) (cv:Value) (cs:List R2) (hc:SlAt h0 2 cv (cs.map c2)) (hsz:(cs.length:Int) ≤ 1000000) (Bd f:Nat) (ro:Bool) (d:Int) (hlt:Bd < h0.nx) (hb:h0.bl.get Bd = some (.cells [iv d] f ro)) :
  Brings Tryz.prog R 114 [cv,.func (.func 92) #[] #[ptr0 Bd]] h0 fun u _=>u = iv (firstBad (fun r=>!inB d r.1 r.2) cs 0):=by
 refine brings_of (fn:=Tryz.f114) (c:=(Tryz.f114.body).getD .skip) (by kernel_rfl) rfl (by kernel_rfl) rfl (fun K hK=>?_)
 generalize hF:finish Tryz.prog Tryz.f114 K = KF
 simp only [Tryz.f114,Option.getD_some,argsT,setArgs,fV1_eq,T.setK_eq,id]
 have hlen:=fun t h1 o=>row_len hc iscR t h1 o
 repeat refine S.seq ?_
 refine S.region ?_
 simp (disch:=first|omega|decide) only [rUz]
 repeat refine S.seq ?_
 refine S.region ?_
 simp (disch:=first|omega|decide) only [rUz,hlen]
 repeat refine S.seq ?_
 refine S.block ?_
 refine S.loop (ι:=Nat) (IXr d cs h0 cv (.func (.func 92) #[] #[ptr0 Bd])) (fun k=>cs.length - k) ?_ 0 _ _ ?_
 ·intro k t h ⟨hk,hfb,hkp,t0,t1,t7,t8⟩ K' hn he
  repeat refine S.seq ?_
  refine S.region ?_
  simp (disch:=first|omega|decide) only [rUz,t7,t8]
  repeat refine S.seq ?_
  refine S.cond (v:=decide ((k:Int) < (cs.length:Int))) (by first|rfl|(simp (disch:=first|omega|decide) only [rUz,↓reduceIte,Nat.reduceEqDiff,Nat.reduceAdd] <;> rfl)) (fun e=>?_) (fun e=>?_)
  ·have hkn:k < cs.length:=by have:=of_decide_eq_true e; omega
   clear e
   have hps:cs[k]? = some cs[k]:=List.getElem?_eq_getElem hkn
   rw [List.drop_eq_getElem_cons hkn] at hfb
   simp only [firstBad] at hfb
   generalize cs[k] = c at hps hfb
   obtain ⟨b,f2,ro2,cells,q1,q2,q3,q4,q5,_⟩:=row_idx (SlAt.mono hc hkp) slcR scR hps
   have qp:=part_at pcR q4 q5
   repeat refine S.seq ?_
   refine S.skip ?_
   simp (disch:=first|omega|decide) only [rUz]
   repeat refine S.seq ?_
   refine S.block ?_
   repeat refine S.seq ?_
   refine S.region ?_
   simp (disch:=first|omega|decide) only [rUz,t8]
   repeat refine S.seq ?_
   refine S.region ?_
   simp (disch:=first|omega|decide) only [rUz,t0,t1,t8,q1,q3,qp]
   refine wr_brings (fid:=92) (first:=#[]) (captured:=#[ptr0 Bd]) (Post:=fun u _=>u = .bool (inB d c.1 c.2)) (by simp (disch:=first|omega|decide) only [rUz,t1]) (hoff _ _ _ rfl) (by simp (disch:=first|omega|decide) only [rUz]; exact closed1_y S hoff h Bd f ro d c ((hkp.get hlt).trans hb) (Nat.lt_of_lt_of_le hlt hkp.1)) ?_
   rintro u g hk2 rfl
   simp (disch:=first|omega|decide) only [rUz]
   cases hqp:inB d c.1 c.2 with
   | false =>
    rw [hqp,Bool.not_false,cond_true] at hfb
    repeat refine S.seq ?_
    refine S.cond (v:=false) (by first|rfl|(simp (disch:=first|omega|decide) only [rUz,↓reduceIte,Nat.reduceEqDiff,Nat.reduceAdd,hqp] <;> rfl)) (fun e=>by cases e) (fun _=>?_)
    repeat refine S.seq ?_
    refine S.skip ?_
    simp (disch:=first|omega|decide) only [rUz]
    repeat refine S.seq ?_
    refine S.region ?_
    simp (disch:=first|omega|decide) only [rUz,t8]
    refine hn (k + 1) _ _ (by omega) ⟨by omega,hfb,hkp.trans hk2,?_,?_,?_,?_⟩
    all_goals (first|rfl|(simp (disch:=first|omega|decide) only [rUz,t0,t1,t7,t8]; done)|(simp (disch:=first|omega|decide) only [rUz,t0,t1,t7,t8]; rfl))
   | true =>
    rw [hqp,Bool.not_true,cond_false] at hfb
    repeat refine S.seq ?_
    refine S.cond (v:=true) (by first|rfl|(simp (disch:=first|omega|decide) only [rUz,↓reduceIte,Nat.reduceEqDiff,Nat.reduceAdd,hqp] <;> rfl)) (fun _=>?_) (fun e=>by cases e)
    repeat refine S.seq ?_
    refine S.region ?_
    simp (disch:=first|omega|decide) only [rUz,t8]
    refine S.ret ?_
    simp only [seqK_ret,blockK_ret]
    refine he _ _ _ _ (fun e=>by cases e) ?_
    try simp only [seqK_ret,blockK_ret]
    subst hF
    simp only [finish,endMarks]
    rw [show Tryz.f114.results.toList = [.tmp 4] from rfl]
    simp (disch:=first|omega|decide) only [resA,ev_tmp,tget_ne,tget_eq,get_ne,get_eq,upd_eq,upd_ne,ag_eq,ag_ne,result1]
    exact hK _ _ (hkp.trans hk2) (by rw [hfb])
  ·have hkn:k = cs.length:=by have:=of_decide_eq_false e; omega
   subst hkn
   rw [List.drop_of_length_le (Nat.le_refl _)] at hfb
   refine S.exit (he _ _ _ _ (fun e=>by cases e) ?_)
   simp (disch:=first|omega|decide) only [rUz]
   repeat refine S.seq ?_
   refine S.region ?_
   simp (disch:=first|omega|decide) only [rUz]
   refine S.ret ?_
   try simp only [seqK_ret,blockK_ret]
   subst hF
   simp only [finish,endMarks]
   rw [show Tryz.f114.results.toList = [.tmp 4] from rfl]
   simp (disch:=first|omega|decide) only [resA,ev_tmp,tget_ne,tget_eq,get_ne,get_eq,upd_eq,upd_ne,ag_eq,ag_ne,result1]
   exact hK _ _ hkp (by rw [hfb]; rfl)
 ·refine ⟨Nat.zero_le _,rfl,Kp.refl,?_,?_,?_,?_⟩
  all_goals (first|rfl|(simp (disch:=first|omega|decide) only [rUz]; done)|(simp (disch:=first|omega|decide) only [rUz]; rfl))

set_option maxHeartbeats 4000000 in
theorem isClosed_y (S:Ev.Steps Tryz.prog pr R) (hoff:Off pr) (h0:AHeap) (v:Vs) (c:Co) (hc:CoAt h0 v c) (hsz:(c.cl.length:Int) ≤ 1000000) (d:Int):Brings Tryz.prog R 69 [.agg ⟨coV c.hs v⟩,iv d] h0 fun u _=>u = .bool (!openB c.cl d):=by
 refine brings_of (fn:=Tryz.f69) (c:=(Tryz.f69.body).getD .skip) (by kernel_rfl) rfl (by kernel_rfl) rfl (fun K hK=>?_)
 generalize hF:finish Tryz.prog Tryz.f69 K = KF
 simp only [Tryz.f69,Option.getD_some,argsT,setArgs,fV1_eq,T.setK_eq,id]
 repeat refine S.seq ?_
 refine S.region ?_
 simp (disch:=first|omega|decide) only [rUz]
 have hb1:((h0.add (coV c.hs v)).add [iv d]).bl.get h0.nx = some (.cells (coV c.hs v) h0.nx false):=by rw [ag_ne (by show h0.nx ≠ h0.nx + 1; omega)]; exact ag_eq rfl
 have hb2:((h0.add (coV c.hs v)).add [iv d]).bl.get (h0.nx + 1) = some (.cells [iv d] (h0.nx + 1) false):=ag_eq rfl
 have hn:h0.nx + 1 < ((h0.add (coV c.hs v)).add [iv d]).nx:=Nat.lt_succ_self _
 have hk1:Kp h0 ((h0.add (coV c.hs v)).add [iv d]):=Kp.refl.add.add
 generalize (h0.add (coV c.hs v)).add [iv d] = H at hb1 hb2 hn hk1 ⊢
 generalize h0.nx + 1 = B2 at hb2 hn ⊢
 repeat refine S.seq ?_
 refine S.region ?_
 simp (disch:=first|omega|decide) only [rUz,hb1,fieldAddr_ptr fB5 lcR,qcR,co5]
 have hidx:=idxcl_y S hoff H v.e c.cl (hc.mono hk1).cl hsz B2 B2 false d hn hb2
 have hcf:Brings Tryz.prog R 91 [v.e,.func (.func 92) #[] #[ptr0 B2]] H fun u _=>u = .bool (!openB c.cl d):=by
  clear hK hF K KF
  refine brings_of (fn:=Tryz.f91) (c:=(Tryz.f91.body).getD .skip) (by kernel_rfl) rfl (by kernel_rfl) rfl (fun K hK=>?_)
  generalize hF:finish Tryz.prog Tryz.f91 K = KF
  simp only [Tryz.f91,Option.getD_some,argsT,setArgs,fV1_eq,T.setK_eq,id]
  repeat refine S.seq ?_
  refine S.region ?_
  simp (disch:=first|omega|decide) only [rUz]
  repeat refine S.seq ?_
  refine S.region ?_
  simp (disch:=first|omega|decide) only [rUz]
  refine wr_brings (fid:=114) (first:=#[]) (captured:=#[]) (Post:=fun u _=>u = iv (firstBad (fun r=>!inB d r.1 r.2) c.cl 0)) rfl (hoff _ _ _ rfl) (by simp (disch:=first|omega|decide) only [rUz]; exact hidx) ?_
  rintro u g hk rfl
  simp (disch:=first|omega|decide) only [rUz,firstBad_ge (fun r=>!inB d r.1 r.2) c.cl 0 (Int.le_refl _)]
  refine S.ret ?_
  try simp only [seqK_ret,blockK_ret]
  subst hF
  simp only [finish,endMarks]
  rw [show Tryz.f91.results.toList = [.tmp 4] from rfl]
  simp (disch:=first|omega|decide) only [resA,ev_tmp,tget_ne,tget_eq,get_ne,get_eq,upd_eq,upd_ne,ag_eq,ag_ne,result1]
  exact hK _ _ hk rfl
 refine wr_brings (fid:=91) (first:=#[]) (captured:=#[]) (Post:=fun u _=>u = .bool (!openB c.cl d)) rfl (hoff _ _ _ rfl) (by simp (disch:=first|omega|decide) only [rUz]; exact hcf) ?_
 rintro u g hk rfl
 simp (disch:=first|omega|decide) only [rUz]
 refine S.ret ?_
 try simp only [seqK_ret,blockK_ret]
 subst hF
 simp only [finish,endMarks]
 rw [show Tryz.f69.results.toList = [.tmp 4] from rfl]
 simp (disch:=first|omega|decide) only [resA,ev_tmp,tget_ne,tget_eq,get_ne,get_eq,upd_eq,upd_ne,ag_eq,ag_ne,result1]
 exact hK _ _ (hk1.trans hk) rfl

def IOp (cl:List R2) (d:Int) (H:AHeap) (B1:Nat) (k:Nat) (t:T Value) (h:AHeap):Prop:=
 k ≤ 12 ∧ regP cl d = regG cl d (12 - k) k ∧ Kp H h ∧ tget t 1 = iv d ∧ tget t 2 = ptr0 B1 ∧ tget t 6 = iv (k:Int)
set_option maxHeartbeats 4000000 in
theorem open_y (S:Ev.Steps Tryz.prog pr R) (hoff:Off pr) (h0:AHeap) (v:Vs) (c:Co) (hc:CoAt h0 v c) (hsz:(c.cl.length:Int) ≤ 1000000) (d:Int):Brings Tryz.prog R 46 [.agg ⟨coV c.hs v⟩,iv d] h0 fun u _=>u = iv (regP c.cl d):=by
 refine brings_of (fn:=Tryz.f46) (c:=(Tryz.f46.body).getD .skip) (by kernel_rfl) rfl (by kernel_rfl) rfl (fun K hK=>?_)
 generalize hF:finish Tryz.prog Tryz.f46 K = KF
 simp only [Tryz.f46,Option.getD_some,argsT,setArgs,fV1_eq,T.setK_eq,id]
 have hK1:∀ h,Kp (h0.add (coV c.hs v)) h → K (iv (regP c.cl d)) h = true:=fun h hk=>hK _ _ (Kp.refl.add.trans hk) rfl
 clear hK
 repeat refine S.seq ?_
 refine S.region ?_
 simp (disch:=first|omega|decide) only [rUz]
 have hb1:(h0.add (coV c.hs v)).bl.get h0.nx = some (.cells (coV c.hs v) h0.nx false):=ag_eq rfl
 have hc1:CoAt (h0.add (coV c.hs v)) v c:=hc.mono Kp.refl.add
 have hn1:h0.nx < (h0.add (coV c.hs v)).nx:=Nat.lt_succ_self _
 generalize h0.add (coV c.hs v) = H at hK1 hb1 hc1 hn1 ⊢
 generalize h0.nx = B at hb1 hn1 ⊢
 repeat refine S.seq ?_
 refine S.region ?_
 simp (disch:=first|omega|decide) only [rUz]
 repeat refine S.seq ?_
 refine S.block ?_
 refine S.loop (ι:=Nat) (IOp c.cl d H B) (fun k=>12 - k) ?_ 0 _ _ ?_
 rotate_left
 ·refine ⟨Nat.zero_le _,rfl,Kp.refl,?_,?_,?_⟩
  all_goals (first|rfl|(simp (disch:=first|omega|decide) only [rUz]; done)|(simp (disch:=first|omega|decide) only [rUz]; rfl))
 intro k t h ⟨hk,hreg,hkp,t1,t2,t6⟩ K' hn he
 have hb:=(hkp.get hn1).trans hb1
 repeat refine S.seq ?_
 refine S.region ?_
 simp (disch:=first|omega|decide) only [rUz,t6]
 repeat refine S.seq ?_
 refine S.cond (v:=decide ((k:Int) < 12)) (by first|rfl|(simp (disch:=first|omega|decide) only [rUz,↓reduceIte,Nat.reduceEqDiff,Nat.reduceAdd] <;> rfl)) (fun e=>?_) (fun e=>?_)
 ·have hkn:k < 12:=by have:=of_decide_eq_true e; omega
  clear e
  have e12:12 - k = (12 - (k + 1)) + 1:=by omega
  rw [e12,regG] at hreg
  repeat refine S.seq ?_
  refine S.skip ?_
  simp (disch:=first|omega|decide) only [rUz]
  repeat refine S.seq ?_
  refine S.block ?_
  repeat refine S.seq ?_
  refine S.region ?_
  simp (disch:=first|omega|decide) only [rUz,t6]
  cases h1:decide (d ≤ (k:Int)) with
  | false =>
   rw [h1,Bool.false_and,cond_false] at hreg
   repeat refine S.seq ?_
   refine S.region ?_
   simp (disch:=first|omega|decide) only [rUz,t1,h1]
   repeat refine S.seq ?_
   refine S.cond (v:=false) (by first|rfl|(simp (disch:=first|omega|decide) only [rUz,↓reduceIte,Nat.reduceEqDiff,Nat.reduceAdd] <;> rfl)) (fun e=>by cases e) (fun _=>?_)
   repeat refine S.seq ?_
   refine S.skip ?_
   simp (disch:=first|omega|decide) only [rUz]
   repeat refine S.seq ?_
   refine S.region ?_
   simp (disch:=first|omega|decide) only [rUz,t6]
   refine hn (k + 1) _ _ (by omega) ⟨by omega,by rw [hreg,Int.natCast_add,Int.natCast_one],hkp,?_,?_,?_⟩
   all_goals (first|rfl|(simp (disch:=first|omega|decide) only [rUz,t1,t2,t6]; done)|(simp (disch:=first|omega|decide) only [rUz,t1,t2,t6]; rfl))
  | true =>
  rw [h1,Bool.true_and] at hreg
  repeat refine S.seq ?_
  refine S.region ?_
  simp (disch:=first|omega|decide) only [rUz,t1,t2,h1,hb,part_0 pB (coV_len c.hs v)]
  refine wr_brings (fid:=69) (first:=#[]) (captured:=#[]) (Post:=fun u _=>u = .bool (!openB c.cl (k:Int))) rfl (hoff _ _ _ rfl) (by simp (disch:=first|omega|decide) only [rUz]; exact isClosed_y S hoff _ v c (hc1.mono hkp) hsz _) ?_
  rintro u g hk2 rfl
  simp (disch:=first|omega|decide) only [rUz,un_not,Bool.not_not]
  cases h2:openB c.cl (k:Int) with
  | true =>
   rw [h2,cond_true] at hreg
   repeat refine S.seq ?_
   refine S.cond (v:=true) (by first|rfl|(simp (disch:=first|omega|decide) only [rUz,↓reduceIte,Nat.reduceEqDiff,Nat.reduceAdd,h2] <;> rfl)) (fun _=>?_) (fun e=>by cases e)
   repeat refine S.seq ?_
   refine S.region ?_
   simp (disch:=first|omega|decide) only [rUz,t6]
   refine S.ret ?_
   simp only [seqK_ret,blockK_ret]
   refine he _ _ _ _ (fun e=>by cases e) ?_
   try simp only [seqK_ret,blockK_ret]
   subst hF
   simp only [finish,endMarks]
   rw [show Tryz.f46.results.toList = [.tmp 4] from rfl]
   simp (disch:=first|omega|decide) only [resA,ev_tmp,tget_ne,tget_eq,get_ne,get_eq,upd_eq,upd_ne,ag_eq,ag_ne,result1]
   rw [hreg] at hK1
   exact hK1 _ (hkp.trans hk2)
  | false =>
   rw [h2,cond_false] at hreg
   repeat refine S.seq ?_
   refine S.cond (v:=false) (by first|rfl|(simp (disch:=first|omega|decide) only [rUz,↓reduceIte,Nat.reduceEqDiff,Nat.reduceAdd,h2] <;> rfl)) (fun e=>by cases e) (fun _=>?_)
   repeat refine S.seq ?_
   refine S.skip ?_
   simp (disch:=first|omega|decide) only [rUz]
   repeat refine S.seq ?_
   refine S.region ?_
   simp (disch:=first|omega|decide) only [rUz,t6]
   refine hn (k + 1) _ _ (by omega) ⟨by omega,by rw [hreg,Int.natCast_add,Int.natCast_one],hkp.trans hk2,?_,?_,?_⟩
   all_goals (first|rfl|(simp (disch:=first|omega|decide) only [rUz,t1,t2,t6]; done)|(simp (disch:=first|omega|decide) only [rUz,t1,t2,t6]; rfl))
 have hkn:k = 12:=by have:=of_decide_eq_false e; omega
 subst hkn
 refine S.exit (he _ _ _ _ (fun e=>by cases e) ?_)
 simp (disch:=first|omega|decide) only [rUz]
 repeat refine S.seq ?_
 refine S.region ?_
 simp (disch:=first|omega|decide) only [rUz]
 refine S.ret ?_
 try simp only [seqK_ret,blockK_ret]
 subst hF
 simp only [finish,endMarks]
 rw [show Tryz.f46.results.toList = [.tmp 4] from rfl]
 simp (disch:=first|omega|decide) only [resA,ev_tmp,tget_ne,tget_eq,get_ne,get_eq,upd_eq,upd_ne,ag_eq,ag_ne,result1]
 rw [hreg] at hK1
 exact hK1 _ hkp

end Go.Proofs.Cp
