import Derived.Test.YtefjnhpghgahbaaGreatCn8
import Derived.Test.YtefjnhpghgahbaaGreatEvE
/- What the reference says of a company: open days, registrations, units. -/
namespace Go.Proofs.Cp
open Go Go.Ev
set_option linter.unusedSimpArgs false

def stepS (d:Int) (n:Int) (s:T3):Int:=bif decide (s.1 = d) then (n * s.2.1).tdiv s.2.2 else n
def inS (d:Int) (sp:List T3) (n:Int):Int:=sp.foldl (stepS d) n
def dayG (sp:List T3):Nat → Int → Int → Int
 | 0,_,n=>n
 | k + 1,d,n=>dayG sp k (d + 1) (inS d sp n)
def unitsR (sp:List T3) (sh a b:Int):Int:=dayG sp (b - a).toNat (a + 1) (720 * sh)
def cntS (d:Int) (l:List T3):Nat:=(l.filter fun s=>decide (d ≤ s.1)).length
theorem cntS_le (d:Int) (l:List T3):cntS d l ≤ l.length:=List.length_filter_le _ _
def okSps (sp:List T3):Prop:=∀ s,s ∈ sp → 1 ≤ s.2.1 ∧ s.2.1 ≤ 6 ∧ 1 ≤ s.2.2 ∧ s.2.2 ≤ 4
theorem step_bnd {d n:Int} {s:T3} (h:1 ≤ s.2.1 ∧ s.2.1 ≤ 6 ∧ 1 ≤ s.2.2 ∧ s.2.2 ≤ 4) (h0:0 ≤ n):0 ≤ stepS d n s ∧ stepS d n s ≤ 6 * n ∧ (s.1 ≠ d → stepS d n s = n):=by
 unfold stepS
 cases hd:decide (s.1 = d) with
 | false =>
  simp only [cond_false]
  exact ⟨h0,by omega,fun _=>trivial⟩
 | true =>
  simp only [cond_true]
  have h1:0 ≤ n * s.2.1:=Int.mul_nonneg h0 (by omega)
  have h2:n * s.2.1 ≤ n * 6:=Int.mul_le_mul_of_nonneg_left (by omega) h0
  rw [Int.tdiv_eq_ediv_of_nonneg h1]
  refine ⟨Int.ediv_nonneg h1 (by omega),?_,fun e=>absurd (of_decide_eq_true hd) e⟩
  have:=Int.ediv_le_self (s.2.2) h1
  omega

variable {pr:Prim} {R:ExT}
def IOn (c:Co) (H:AHeap) (B:Nat) (d:Int) (k:Nat) (t:T Value) (h:AHeap):Prop:=
 k ≤ c.cl.length ∧ openB c.cl d = openB (c.cl.drop k) d ∧ Kp H h ∧ tget t 1 = iv d ∧ tget t 2 = ptr0 B ∧ tget t 5 = iv (k:Int)
set_option maxHeartbeats 8000000 in
theorem ropen_y (S:Ev.Steps Tryz.prog pr R) (hoff:Off pr) (h0:AHeap) (v:Vs) (c:Co) (hc:CoAt h0 v c) (hsz:(c.cl.length:Int) ≤ 1000000) (d:Int):Brings Tryz.prog R 42 [.agg ⟨coV c.hs v⟩,iv d] h0 fun u _=>u = .bool (openB c.cl d):=by
 refine brings_of (fn:=Tryz.f42) (c:=(Tryz.f42.body).getD .skip) (by kernel_rfl) rfl (by kernel_rfl) rfl (fun K hK=>?_)
 generalize hF:finish Tryz.prog Tryz.f42 K = KF
 simp only [Tryz.f42,Option.getD_some,argsT,setArgs,fV1_eq,T.setK_eq,id]
 have hK1:∀ h,Kp (h0.add (coV c.hs v)) h → K (.bool (openB c.cl d)) h = true:=fun h hk=>hK _ _ (Kp.refl.add.trans hk) rfl
 clear hK
 repeat refine S.seq ?_
 refine S.region ?_
 simp (disch:=first|omega|decide) only [rUz]
 have hb1:(h0.add (coV c.hs v)).bl.get h0.nx = some (.cells (coV c.hs v) h0.nx false):=ag_eq rfl
 have hc1:CoAt (h0.add (coV c.hs v)) v c:=hc.mono Kp.refl.add
 have hn1:h0.nx < (h0.add (coV c.hs v)).nx:=Nat.lt_succ_self _
 generalize h0.add (coV c.hs v) = H at hK1 hb1 hc1 hn1 ⊢
 generalize h0.nx = B at hb1 hn1 ⊢
 repeat refine S.seq ?_
 refine S.region ?_
 simp (disch:=first|omega|decide) only [rUz]
 repeat refine S.seq ?_
 refine S.block ?_
 refine S.loop (ι:=Nat) (IOn c H B d) (fun k=>c.cl.length - k) ?_ 0 _ _ ?_
 rotate_left
 ·refine ⟨Nat.zero_le _,by rw [List.drop_zero],Kp.refl,?_,?_,?_⟩
  all_goals (first|rfl|(simp (disch:=first|omega|decide) only [rUz]; done)|(simp (disch:=first|omega|decide) only [rUz]; rfl))
 intro k t h ⟨hk,hop,hkp,t1,t2,t5⟩ K' hn he
 have hb:=(hkp.get hn1).trans hb1
 have l5:=fun t h1 o=>row_len (SlAt.mono hc1.cl hkp) isrR t h1 o
 repeat refine S.seq ?_
 refine S.region ?_
 simp (disch:=first|omega|decide) only [rUz,t2,t5,hb,fieldAddr_ptr fA5 lrR,qrR,co5,l5]
 repeat refine S.seq ?_
 refine S.cond (v:=decide ((k:Int) < (c.cl.length:Int))) (by first|rfl|(simp (disch:=first|omega|decide) only [rUz,↓reduceIte,Nat.reduceEqDiff,Nat.reduceAdd] <;> rfl)) (fun e=>?_) (fun e=>?_)
 ·have hkn:k < c.cl.length:=by have:=of_decide_eq_true e; omega
  clear e
  have hps:c.cl[k]? = some c.cl[k]:=List.getElem?_eq_getElem hkn
  rw [List.drop_eq_getElem_cons hkn] at hop
  unfold openB at hop
  rw [List.all_cons] at hop
  generalize c.cl[k] = x at hps hop
  obtain ⟨b,f,ro,cells,q1,q2,q3,q4,q5,q6⟩:=row_idx (SlAt.mono hc1.cl hkp) slrR srR hps
  have g0:=q6 0 _ (c20 x)
  have g1:=q6 1 _ (c21 x)
  rw [Nat.add_zero] at g0
  repeat refine S.seq ?_
  refine S.skip ?_
  simp (disch:=first|omega|decide) only [rUz]
  repeat refine S.seq ?_
  refine S.block ?_
  repeat refine S.seq ?_
  refine S.drawnL [(false,0),(false,0),(false,2),(false,0),(false,14),(false,30),(false,62),(false,0),(false,128),(false,0),(false,896),(false,1920),(false,3968),(true,8191)] (by kernel_rfl) (by kernel_rfl) (by kernel_rfl) ?_
  simp (disch:=first|omega|decide) only [rUz,rDz,infoL,Nat.reduceSub,t1,t2,t5,hb,fieldAddr_ptr fA5 lrR,qrR,co5,q1,q3,fieldAddr_ptr frR0 s3,fieldAddr_ptr frR1 s3,p3,g0,g1]
  refine drW_brings (fid:=19) (first:=#[]) (captured:=#[]) (Post:=fun u h'=>u = .bool (inB d x.1 x.2) ∧ h' = h) rfl (hoff _ _ _ rfl) (by simp (disch:=first|omega|decide) only [rUz]; exact in_y S _ _ _ _) (Nat.le_of_ble_eq_true rfl) ?_
  rintro u g - ⟨rfl,rfl⟩
  refine ⟨?_,?_⟩
  ·try simp (disch:=first|decide|rfl) only [again_nil,again_skip,again_free]
  simp (disch:=first|omega|decide) only [rUz,rDz,infoL,Nat.reduceSub]
  cases hx:inB d x.1 x.2 with
  | true =>
   rw [hx,Bool.not_true,Bool.false_and] at hop
   repeat refine S.seq ?_
   refine S.cond (v:=true) (by first|rfl|(simp (disch:=first|omega|decide) only [rUz,↓reduceIte,Nat.reduceEqDiff,Nat.reduceAdd,hx] <;> rfl)) (fun _=>?_) (fun e=>by cases e)
   repeat refine S.seq ?_
   refine S.region ?_
   simp (disch:=first|omega|decide) only [rUz]
   refine S.ret ?_
   simp only [seqK_ret,blockK_ret]
   refine he _ _ _ _ (fun e=>by cases e) ?_
   try simp only [seqK_ret,blockK_ret]
   subst hF
   simp only [finish,endMarks]
   rw [show Tryz.f42.results.toList = [.tmp 4] from rfl]
   simp (disch:=first|omega|decide) only [resA,ev_tmp,tget_ne,tget_eq,get_ne,get_eq,upd_eq,upd_ne,ag_eq,ag_ne,result1]
   have ho:openB c.cl d = false:=hop
   rw [ho] at hK1
   exact hK1 _ hkp
  | false =>
   rw [hx,Bool.not_false,Bool.true_and] at hop
   repeat refine S.seq ?_
   refine S.cond (v:=false) (by first|rfl|(simp (disch:=first|omega|decide) only [rUz,↓reduceIte,Nat.reduceEqDiff,Nat.reduceAdd,hx] <;> rfl)) (fun e=>by cases e) (fun _=>?_)
   repeat refine S.seq ?_
   refine S.skip ?_
   simp (disch:=first|omega|decide) only [rUz]
   repeat refine S.seq ?_
   refine S.region ?_
   simp (disch:=first|omega|decide) only [rUz,t5]
   refine hn (k + 1) _ _ (by omega) ⟨by omega,hop,hkp,?_,?_,?_⟩
   all_goals (first|rfl|(simp (disch:=first|omega|decide) only [rUz,t1,t2,t5]; done)|(simp (disch:=first|omega|decide) only [rUz,t1,t2,t5]; rfl))
 have hkn:k = c.cl.length:=by have:=of_decide_eq_false e; omega
 subst hkn
 rw [List.drop_of_length_le (Nat.le_refl _)] at hop
 refine S.exit (he _ _ _ _ (fun e=>by cases e) ?_)
 simp (disch:=first|omega|decide) only [rUz]
 repeat refine S.seq ?_
 refine S.region ?_
 simp (disch:=first|omega|decide) only [rUz]
 refine S.ret ?_
 try simp only [seqK_ret,blockK_ret]
 subst hF
 simp only [finish,endMarks]
 rw [show Tryz.f42.results.toList = [.tmp 4] from rfl]
 simp (disch:=first|omega|decide) only [resA,ev_tmp,tget_ne,tget_eq,get_ne,get_eq,upd_eq,upd_ne,ag_eq,ag_ne,result1]
 have ho:openB c.cl d = true:=hop
 rw [ho] at hK1
 exact hK1 _ hkp

def regR (cl:List R2):Nat → Int → Int
 | 0,_=>-1
 | n + 1,k=>bif openB cl k then k else regR cl n (k + 1)
theorem regR_eq (cl:List R2) (d:Int):∀ (n:Nat) (k:Int),d ≤ k → regG cl d n k = regR cl n k
 | 0,_,_=>rfl
 | n + 1,k,h=>by
  unfold regG regR
  rw [decide_eq_true h,Bool.true_and,regR_eq cl d n (k + 1) (by omega)]
theorem regG_skip (cl:List R2) (d:Int):∀ (m n:Nat) (k:Int),k + m ≤ d → regG cl d (m + n) k = regG cl d n (k + m)
 | 0,n,k,_=>by rw [Nat.zero_add]; congr 1; omega
 | m + 1,n,k,h=>by
  rw [show m + 1 + n = (m + n) + 1 from by omega,regG,decide_eq_false (by omega),Bool.false_and,cond_false,regG_skip cl d m n (k + 1) (by omega)]
  congr 1; omega
theorem regP_R (cl:List R2) {d:Int} (h0:0 ≤ d) (h1:d ≤ 12):regP cl d = regR cl (12 - d).toNat d:=by
 have:=regG_skip cl d d.toNat (12 - d).toNat 0 (by omega)
 unfold regP
 rw [show d.toNat + (12 - d).toNat = 12 from by omega] at this
 rw [this,regR_eq cl d _ _ (by omega)]
 congr 1; omega

def IRf (cl:List R2) (H:AHeap) (B:Nat) (d:Int) (k:Nat) (t:T Value) (h:AHeap):Prop:=
 (k:Int) ≤ 12 - d ∧ regP cl d = regR cl ((12 - d).toNat - k) (d + k) ∧ Kp H h ∧ tget t 2 = ptr0 B ∧ tget t 5 = iv (d + k)
set_option maxHeartbeats 8000000 in
theorem rreg_y (S:Ev.Steps Tryz.prog pr R) (hoff:Off pr) (h0:AHeap) (v:Vs) (c:Co) (hc:CoAt h0 v c) (hsz:(c.cl.length:Int) ≤ 1000000) (d:Int) (hd0:0 ≤ d) (hd1:d ≤ 12):Brings Tryz.prog R 20 [.agg ⟨coV c.hs v⟩,iv d] h0 fun u _=>u = iv (regP c.cl d):=by
 refine brings_of (fn:=Tryz.f20) (c:=(Tryz.f20.body).getD .skip) (by kernel_rfl) rfl (by kernel_rfl) rfl (fun K hK=>?_)
 generalize hF:finish Tryz.prog Tryz.f20 K = KF
 simp only [Tryz.f20,Option.getD_some,argsT,setArgs,fV1_eq,T.setK_eq,id]
 have hK1:∀ h,Kp (h0.add (coV c.hs v)) h → K (iv (regP c.cl d)) h = true:=fun h hk=>hK _ _ (Kp.refl.add.trans hk) rfl
 clear hK
 repeat refine S.seq ?_
 refine S.region ?_
 simp (disch:=first|omega|decide) only [rUz]
 have hb1:(h0.add (coV c.hs v)).bl.get h0.nx = some (.cells (coV c.hs v) h0.nx false):=ag_eq rfl
 have hc1:CoAt (h0.add (coV c.hs v)) v c:=hc.mono Kp.refl.add
 have hn1:h0.nx < (h0.add (coV c.hs v)).nx:=Nat.lt_succ_self _
 generalize h0.add (coV c.hs v) = H at hK1 hb1 hc1 hn1 ⊢
 generalize h0.nx = B at hb1 hn1 ⊢
 repeat refine S.seq ?_
 refine S.region ?_
 simp (disch:=first|omega|decide) only [rUz]
 repeat refine S.seq ?_
 refine S.block ?_
 refine S.loop (ι:=Nat) (IRf c.cl H B d) (fun k=>(12 - d).toNat - k) ?_ 0 _ _ ?_
 rotate_left
 ·refine ⟨by omega,?_,Kp.refl,?_,?_⟩
  ·rw [regP_R _ hd0 hd1,Nat.sub_zero,Int.natCast_zero,Int.add_zero]
  all_goals (first|rfl|(simp (disch:=first|omega|decide) only [rUz,Int.natCast_zero,Int.add_zero]; done)|(simp (disch:=first|omega|decide) only [rUz,Int.natCast_zero,Int.add_zero]; rfl))
 intro k t h ⟨hk,hreg,hkp,t2,t5⟩ K' hn he
 have hb:=(hkp.get hn1).trans hb1
 repeat refine S.seq ?_
 refine S.region ?_
 simp (disch:=first|omega|decide) only [rUz,t5]
 repeat refine S.seq ?_
 refine S.cond (v:=decide (d + (k:Int) ≤ 11)) (by first|rfl|(simp (disch:=first|omega|decide) only [rUz,↓reduceIte,Nat.reduceEqDiff,Nat.reduceAdd] <;> rfl)) (fun e=>?_) (fun e=>?_)
 ·have hkn:d + (k:Int) ≤ 11:=of_decide_eq_true e
  clear e
  rw [show (12 - d).toNat - k = ((12 - d).toNat - (k + 1)) + 1 from by omega,regR] at hreg
  repeat refine S.seq ?_
  refine S.skip ?_
  simp (disch:=first|omega|decide) only [rUz]
  repeat refine S.seq ?_
  refine S.block ?_
  repeat refine S.seq ?_
  refine S.region ?_
  simp (disch:=first|omega|decide) only [rUz,t2,t5,hb,part_0 pA (coV_len c.hs v)]
  refine wr_brings (fid:=42) (first:=#[]) (captured:=#[]) (Post:=fun u _=>u = .bool (openB c.cl (d + (k:Int)))) rfl (hoff _ _ _ rfl) (by simp (disch:=first|omega|decide) only [rUz]; exact ropen_y S hoff _ v c (hc1.mono hkp) hsz _) ?_
  rintro u g hk2 rfl
  simp (disch:=first|omega|decide) only [rUz]
  cases hx:openB c.cl (d + (k:Int)) with
  | true =>
   rw [hx,cond_true] at hreg
   repeat refine S.seq ?_
   refine S.cond (v:=true) (by first|rfl|(simp (disch:=first|omega|decide) only [rUz,↓reduceIte,Nat.reduceEqDiff,Nat.reduceAdd,hx] <;> rfl)) (fun _=>?_) (fun e=>by cases e)
   repeat refine S.seq ?_
   refine S.region ?_
   simp (disch:=first|omega|decide) only [rUz,t5]
   refine S.ret ?_
   simp only [seqK_ret,blockK_ret]
   refine he _ _ _ _ (fun e=>by cases e) ?_
   try simp only [seqK_ret,blockK_ret]
   subst hF
   simp only [finish,endMarks]
   rw [show Tryz.f20.results.toList = [.tmp 4] from rfl]
   simp (disch:=first|omega|decide) only [resA,ev_tmp,tget_ne,tget_eq,get_ne,get_eq,upd_eq,upd_ne,ag_eq,ag_ne,result1]
   rw [hreg] at hK1
   exact hK1 _ (hkp.trans hk2)
  | false =>
   rw [hx,cond_false] at hreg
   repeat refine S.seq ?_
   refine S.cond (v:=false) (by first|rfl|(simp (disch:=first|omega|decide) only [rUz,↓reduceIte,Nat.reduceEqDiff,Nat.reduceAdd,hx] <;> rfl)) (fun e=>by cases e) (fun _=>?_)
   repeat refine S.seq ?_
   refine S.skip ?_
   simp (disch:=first|omega|decide) only [rUz]
   repeat refine S.seq ?_
   refine S.region ?_
   simp (disch:=first|omega|decide) only [rUz,t5]
   refine hn (k + 1) _ _ (by omega) ⟨by omega,?_,hkp.trans hk2,?_,?_⟩
   ·rw [hreg]; congr 1; omega
   ·simp (disch:=first|omega|decide) only [rUz,t2]
   ·simp (disch:=first|omega|decide) only [rUz,Int.add_assoc]
 have hkn:¬ d + (k:Int) ≤ 11:=of_decide_eq_false e
 rw [show (12 - d).toNat - k = 0 from by omega,regR] at hreg
 refine S.exit (he _ _ _ _ (fun e=>by cases e) ?_)
 simp (disch:=first|omega|decide) only [rUz]
 repeat refine S.seq ?_
 refine S.region ?_
 simp (disch:=first|omega|decide) only [rUz]
 refine S.ret ?_
 try simp only [seqK_ret,blockK_ret]
 subst hF
 simp only [finish,endMarks]
 rw [show Tryz.f20.results.toList = [.tmp 4] from rfl]
 simp (disch:=first|omega|decide) only [resA,ev_tmp,tget_ne,tget_eq,get_ne,get_eq,upd_eq,upd_ne,ag_eq,ag_ne,result1]
 rw [hreg] at hK1
 exact hK1 _ hkp
end Go.Proofs.Cp
