import Derived.Test.YtefjnhpghgahbaaGreatCm1
/- The reference's units, and whether a truth has days. -/
namespace Go.Proofs.Cp
open Go Go.Ev
set_option linter.unusedSimpArgs false

def six:Nat → Int
 | 0=>1
 | p + 1=>6 * six p
theorem six_pos:∀ p,1 ≤ six p
 | 0=>Int.le_refl _
 | p + 1=>by have:=six_pos p; unfold six; omega
def eqS (d:Int) (l:List T3):Nat:=(l.filter fun s=>decide (s.1 = d)).length
theorem cnt_split (d:Int):∀ l:List T3,cntS d l = cntS (d + 1) l + eqS d l
 | []=>rfl
 | s :: l=>by
  have:=cnt_split d l
  unfold cntS eqS at *
  simp only [List.filter_cons]
  by_cases h1:s.1 = d
  ·rw [if_pos (decide_eq_true (by omega)),if_neg (by simp; omega),if_pos (decide_eq_true h1)]
   simp only [List.length_cons]; omega
  ·by_cases h2:d ≤ s.1
   ·rw [if_pos (decide_eq_true h2),if_pos (decide_eq_true (by omega)),if_neg (by simp; omega)]
    simp only [List.length_cons]; omega
   ·rw [if_neg (by simp; omega),if_neg (by simp; omega),if_neg (by simp; omega)]
    exact this
theorem eqS_cons (d:Int) (s:T3) (l:List T3):eqS d (s :: l) = (if s.1 = d then 1 else 0) + eqS d l:=by
 unfold eqS
 simp only [List.filter_cons]
 by_cases h:s.1 = d
 ·rw [if_pos (decide_eq_true h),if_pos h,List.length_cons]; omega
 ·rw [if_neg (by simp; omega),if_neg h]; omega
def roomS (n:Int) (p:Nat):Prop:=0 ≤ n ∧ n * six p ≤ 2592000
theorem roomS.le {n:Int} {p:Nat} (h:roomS n p):n ≤ 2592000:=by
 have h1:n * 1 ≤ n * six p:=Int.mul_le_mul_of_nonneg_left (six_pos p) h.1
 have:=h.2
 omega
theorem roomS.step {n n':Int} {p:Nat} (h:roomS n (p + 1)) (h0:0 ≤ n') (h1:n' ≤ 6 * n):roomS n' p:=by
 refine ⟨h0,?_⟩
 have h2:n' * six p ≤ (6 * n) * six p:=Int.mul_le_mul_of_nonneg_right h1 (by have:=six_pos p; omega)
 have h3:(6 * n) * six p = n * (6 * six p):=by rw [Int.mul_comm 6 n,Int.mul_assoc]
 have:=h.2
 rw [six] at this
 omega
theorem roomS.start {sh:Int} {p:Nat} (h0:0 ≤ sh) (h1:sh ≤ 100) (hp:p ≤ 2):roomS (720 * sh) p:=by
 refine ⟨by omega,?_⟩
 have h2:six p ≤ 36:=by
  rcases (by omega:p = 0 ∨ p = 1 ∨ p = 2) with rfl|rfl|rfl <;> simp only [six] <;> omega
 have h3:(720 * sh) * six p ≤ (720 * sh) * 36:=Int.mul_le_mul_of_nonneg_left h2 (by omega)
 omega

structure IUd (c:Co) (sh a b:Int) (B:Nat) (H:AHeap) (k:Nat) (t:T Value) (h:AHeap) (n:Int):Prop where
 kp:Kp H h
 t3:tget t 3 = iv b
 t4:tget t 4 = ptr0 B
 t9:tget t 9 = iv n
 t10:tget t 10 = iv (a + 1 + k)
 hk:k ≤ (b - a).toNat
 val:unitsR c.sp sh a b = dayG c.sp ((b - a).toNat - k) (a + 1 + k) n
 room:roomS n (cntS (a + 1 + k) c.sp)
def IU (c:Co) (sh a b:Int) (B:Nat) (H:AHeap) (k:Nat) (t:T Value) (h:AHeap):Prop:=∃ n,IUd c sh a b B H k t h n
structure IUi (c:Co) (b d n0:Int) (B:Nat) (H:AHeap) (j:Nat) (t:T Value) (h:AHeap) (n:Int):Prop where
 kp:Kp H h
 t3:tget t 3 = iv b
 t4:tget t 4 = ptr0 B
 t9:tget t 9 = iv n
 t10:tget t 10 = iv d
 t11:tget t 11 = iv (j:Int)
 hj:j ≤ c.sp.length
 val:inS d c.sp n0 = inS d (c.sp.drop j) n
 room:roomS n (cntS (d + 1) c.sp + eqS d (c.sp.drop j))
def IUj (c:Co) (b d n0:Int) (B:Nat) (H:AHeap) (j:Nat) (t:T Value) (h:AHeap):Prop:=∃ n,IUi c b d n0 B H j t h n

variable {pr:Prim} {R:ExT}
set_option maxHeartbeats 16000000 in
theorem runits_y (S:Ev.Steps Tryz.prog pr R) (h0:AHeap) (v:Vs) (c:Co) (hc:CoAt h0 v c) (hl:c.sp.length ≤ 2) (hok:okSps c.sp) (sh a b:Int) (hs0:0 ≤ sh) (hs1:sh ≤ 100) (ha : -1 ≤ a) (ha1:a ≤ 11) (hb:b ≤ 11) :
  Brings Tryz.prog R 41 [.agg ⟨coV c.hs v⟩,iv sh,iv a,iv b] h0 fun u _=>u = iv (unitsR c.sp sh a b):=by
 refine brings_of (fn:=Tryz.f41) (c:=(Tryz.f41.body).getD .skip) (by kernel_rfl) rfl (by kernel_rfl) rfl (fun K hK=>?_)
 generalize hF:finish Tryz.prog Tryz.f41 K = KF
 simp only [Tryz.f41,Option.getD_some,argsT,setArgs,fV1_eq,T.setK_eq,id]
 have hK1:∀ h,Kp (h0.add (coV c.hs v)) h → K (iv (unitsR c.sp sh a b)) h = true:=fun h hk=>hK _ _ (Kp.refl.add.trans hk) rfl
 clear hK
 repeat refine S.seq ?_
 refine S.region ?_
 simp (disch:=first|omega|decide) only [rUz]
 have hb1:(h0.add (coV c.hs v)).bl.get h0.nx = some (.cells (coV c.hs v) h0.nx false):=ag_eq rfl
 have hc1:CoAt (h0.add (coV c.hs v)) v c:=hc.mono Kp.refl.add
 have hn1:h0.nx < (h0.add (coV c.hs v)).nx:=Nat.lt_succ_self _
 generalize h0.add (coV c.hs v) = H at hK1 hb1 hc1 hn1 ⊢
 generalize h0.nx = B at hb1 hn1 ⊢
 repeat refine S.seq ?_
 refine S.region ?_
 simp (disch:=first|omega|decide) only [rUz]
 repeat refine S.seq ?_
 refine S.region ?_
 simp (disch:=first|omega|decide) only [rUz]
 repeat refine S.seq ?_
 refine S.block ?_
 refine S.loop (ι:=Nat) (IU c sh a b B H) (fun k=>(b - a).toNat + 1 - k) ?_ 0 _ _ ?_
 rotate_left
 ·refine ⟨720 * sh,Kp.refl,?_,?_,?_,?_,Nat.zero_le _,?_,?_⟩
  ·simp (disch:=first|omega|decide) only [rUz]
  ·simp (disch:=first|omega|decide) only [rUz]
  ·simp (disch:=first|omega|decide) only [rUz]
  ·simp (disch:=first|omega|decide) only [rUz,Int.natCast_zero,Int.add_zero]
  ·rw [Nat.sub_zero,Int.natCast_zero,Int.add_zero]; rfl
  ·exact roomS.start hs0 hs1 (Nat.le_trans (cntS_le _ _) hl)
 intro k t h ⟨n,hkp,t3,t4,t9,t10,hk,hval,hroom⟩ K' hn he
 repeat refine S.seq ?_
 refine S.region ?_
 simp (disch:=first|omega|decide) only [rUz,t3,t10]
 repeat refine S.seq ?_
 refine S.cond (v:=decide (a + 1 + (k:Int) ≤ b)) (by first|rfl|(simp (disch:=first|omega|decide) only [rUz,↓reduceIte,Nat.reduceEqDiff,Nat.reduceAdd] <;> rfl)) (fun e=>?_) (fun e=>?_)
 ·have hkn:a + 1 + (k:Int) ≤ b:=of_decide_eq_true e
  clear e
  repeat refine S.seq ?_
  refine S.skip ?_
  simp (disch:=first|omega|decide) only [rUz]
  repeat refine S.seq ?_
  refine S.block ?_
  repeat refine S.seq ?_
  refine S.region ?_
  simp (disch:=first|omega|decide) only [rUz]
  repeat refine S.seq ?_
  refine S.block ?_
  obtain ⟨d,hd⟩:∃ d,d = a + 1 + (k:Int):=⟨_,rfl⟩
  rw [← hd] at hval hroom t10 hkn
  have hd0:0 ≤ d ∧ d ≤ 11:=by omega
  rw [show (b - a).toNat - k = ((b - a).toNat - (k + 1)) + 1 from by omega,dayG] at hval
  refine S.loop (ι:=Nat) (IUj c b d n B H) (fun j=>c.sp.length - j) ?_ 0 _ _ ?_
  rotate_left
  ·refine ⟨n,hkp,?_,?_,?_,?_,?_,Nat.zero_le _,by rw [List.drop_zero],?_⟩
   ·simp (disch:=first|omega|decide) only [rUz,t3]
   ·simp (disch:=first|omega|decide) only [rUz,t4]
   ·simp (disch:=first|omega|decide) only [rUz,t9]
   ·simp (disch:=first|omega|decide) only [rUz,t10]
   ·simp (disch:=first|omega|decide) only [rUz,Int.natCast_zero]
   ·rw [List.drop_zero,← cnt_split]; exact hroom
  clear hkp t3 t4 t9 t10
  clear t h
  intro j t h ⟨m,hkp,t3,t4,t9,t10,t11,hj,hv,hrm⟩ K2 hn2 he2
  have hbh:=(hkp.get hn1).trans hb1
  have hnx:=hkp.1
  have l4:=fun t h1 o=>row_len (SlAt.mono hc1.sp hkp) isrS t h1 o
  repeat refine S.seq ?_
  refine S.region ?_
  simp (disch:=first|omega|decide) only [rUz,t4,t11,hbh,fieldAddr_ptr fA4 lrS,qrS,co4,l4]
  repeat refine S.seq ?_
  refine S.cond (v:=decide ((j:Int) < (c.sp.length:Int))) (by first|rfl|(simp (disch:=first|omega|decide) only [rUz,↓reduceIte,Nat.reduceEqDiff,Nat.reduceAdd] <;> rfl)) (fun e=>?_) (fun e=>?_)
  ·have hjn:j < c.sp.length:=by have:=of_decide_eq_true e; omega
   clear e
   have hps:c.sp[j]? = some c.sp[j]:=List.getElem?_eq_getElem hjn
   have hox:=hok c.sp[j] (List.getElem_mem hjn)
   rw [List.drop_eq_getElem_cons hjn] at hv hrm
   rw [eqS_cons] at hrm
   generalize c.sp[j] = x at hps hox hv hrm
   obtain ⟨b',f,ro,cells,q1,q2,q3,q4,q5,_⟩:=row_idx (SlAt.mono hc1.sp hkp) slrS srS hps
   have qp:=part_at prS q4 q5
   have hsb:=step_bnd (d:=d) hox hrm.1
   have hml:=hrm.le
   have hm0:=hrm.1
   have hvv:inS d c.sp n = inS d (c.sp.drop (j + 1)) (stepS d m x):=hv
   clear hv
   repeat refine S.seq ?_
   refine S.skip ?_
   simp (disch:=first|omega|decide) only [rUz]
   repeat refine S.seq ?_
   refine S.block ?_
   repeat refine S.seq ?_
   refine S.region ?_
   simp (disch:=first|omega|decide) only [rUz,t4,t11,fieldAddr_ptr fA4 lrS,qrS,co4,hbh,q1,q3,qp,wr_alloc zrS]
   refine wr_storeN (B:=h.nx) (c:=[iv 0,iv 0,iv 0]) (fam:=h.nx) (k:=h.nx) (l:=c3 x) (by simp (disch:=first|omega|decide) only [rUz]) (by simp (disch:=first|omega|decide) only [rUz]) srS (by omega) rfl (ag_eq rfl) (af_eq rfl) rfl ?_
   have hk4:Kp H ((h.add [iv 0,iv 0,iv 0]).upd h.nx (c3 x) h.nx):=hkp.add.upd hnx
   have hg4:((h.add [iv 0,iv 0,iv 0]).upd h.nx (c3 x) h.nx).bl.get h.nx = some (.cells (c3 x) h.nx false):=upd_eq _ _ _
   simp (disch:=first|omega|decide) only [rUz]
   generalize (h.add [iv 0,iv 0,iv 0]).upd h.nx (c3 x) h.nx = h4 at hk4 hg4 ⊢
   generalize h.nx = B4 at hg4 ⊢
   repeat refine S.seq ?_
   refine S.region ?_
   simp (disch:=first|omega|decide) only [rUz,fieldAddr_ptr frS0 s3,p3,hg4,c30,t10]
   by_cases hxd:x.1 = d
   ·rw [if_pos hxd] at hrm
    have e1:stepS d m x = (m * x.2.1).tdiv x.2.2:=by unfold stepS; rw [decide_eq_true hxd,cond_true]
    have hrm2:roomS (stepS d m x) (cntS (d + 1) c.sp + eqS d (c.sp.drop (j + 1))):=roomS.step (n:=m) (by rw [show cntS (d + 1) c.sp + (1 + eqS d (c.sp.drop (j + 1))) = (cntS (d + 1) c.sp + eqS d (c.sp.drop (j + 1))) + 1 from by omega] at hrm; exact hrm) hsb.1 hsb.2.1
    have hle:=hrm2.le
    have hge:=hrm2.1
    have hb1':0 ≤ m * x.2.1:=Int.mul_nonneg hm0 (by omega)
    have hb2':m * x.2.1 ≤ m * 6:=Int.mul_le_mul_of_nonneg_left (by omega) hm0
    rw [e1] at hvv hrm2 hle hge
    repeat refine S.seq ?_
    refine S.cond (v:=true) (by first|rfl|(simp (disch:=first|omega|decide) only [rUz,↓reduceIte,Nat.reduceEqDiff,Nat.reduceAdd,decide_eq_true hxd] <;> rfl)) (fun _=>?_) (fun e=>by cases e)
    repeat refine S.seq ?_
    refine S.region ?_
    simp (disch:=first|omega|decide) only [rUz,t9,fieldAddr_ptr frS1 s3,fieldAddr_ptr frS2 s3,p3,hg4,c31,c32]
    refine optR_of' (bin_quo (i:=m * x.2.1) (j:=x.2.2) (by simp (disch:=first|omega|decide) only [rUz]) (by simp (disch:=first|omega|decide) only [rUz]) (by omega) (by omega) (by omega)) ?_
    simp (disch:=first|omega|decide) only [rUz]
    repeat refine S.seq ?_
    refine S.region ?_
    simp (disch:=first|omega|decide) only [rUz,t11]
    refine hn2 (j + 1) _ _ (by omega) ⟨(m * x.2.1).tdiv x.2.2,hk4,?_,?_,?_,?_,?_,by omega,hvv,hrm2⟩
    all_goals (first|rfl|(simp (disch:=first|omega|decide) only [rUz,t3,t4,t9,t10,t11]; done)|(simp (disch:=first|omega|decide) only [rUz,t3,t4,t9,t10,t11]; rfl))
   ·rw [if_neg hxd,Nat.zero_add] at hrm
    rw [hsb.2.2 hxd] at hvv
    repeat refine S.seq ?_
    refine S.cond (v:=false) (by first|rfl|(simp (disch:=first|omega|decide) only [rUz,↓reduceIte,Nat.reduceEqDiff,Nat.reduceAdd,decide_eq_false hxd] <;> rfl)) (fun e=>by cases e) (fun _=>?_)
    repeat refine S.seq ?_
    refine S.skip ?_
    simp (disch:=first|omega|decide) only [rUz]
    repeat refine S.seq ?_
    refine S.region ?_
    simp (disch:=first|omega|decide) only [rUz,t11]
    refine hn2 (j + 1) _ _ (by omega) ⟨m,hk4,?_,?_,?_,?_,?_,by omega,hvv,hrm⟩
    all_goals (first|rfl|(simp (disch:=first|omega|decide) only [rUz,t3,t4,t9,t10,t11]; done)|(simp (disch:=first|omega|decide) only [rUz,t3,t4,t9,t10,t11]; rfl))
  ·have hjn:j = c.sp.length:=by have:=of_decide_eq_false e; omega
   subst hjn
   rw [List.drop_of_length_le (Nat.le_refl _)] at hv hrm
   have hv':inS d c.sp n = m:=hv
   rw [hv'] at hval
   refine S.exit (he2 _ _ _ _ (fun e=>by cases e) ?_)
   simp (disch:=first|omega|decide) only [rUz]
   repeat refine S.seq ?_
   refine S.region ?_
   simp (disch:=first|omega|decide) only [rUz,t10]
   refine hn (k + 1) _ _ (by omega) ⟨m,hkp,?_,?_,?_,?_,by omega,?_,?_⟩
   ·simp (disch:=first|omega|decide) only [rUz,t3]
   ·simp (disch:=first|omega|decide) only [rUz,t4]
   ·simp (disch:=first|omega|decide) only [rUz,t9]
   ·rw [hd]; simp (disch:=first|omega|decide) only [rUz,Int.add_assoc]
   ·rw [hval,hd]; congr 1; omega
   ·rw [show a + 1 + ((k + 1:Nat):Int) = d + 1 from by omega]; exact hrm
 have hkn:¬ a + 1 + (k:Int) ≤ b:=of_decide_eq_false e
 refine S.exit (he _ _ _ _ (fun e=>by cases e) ?_)
 simp (disch:=first|omega|decide) only [rUz]
 repeat refine S.seq ?_
 refine S.region ?_
 simp (disch:=first|omega|decide) only [rUz,t9]
 refine S.ret ?_
 try simp only [seqK_ret,blockK_ret]
 subst hF
 simp only [finish,endMarks]
 rw [show Tryz.f41.results.toList = [.tmp 8] from rfl]
 simp (disch:=first|omega|decide) only [resA,ev_tmp,tget_ne,tget_eq,get_ne,get_eq,upd_eq,upd_ne,ag_eq,ag_ne,result1]
 rw [show (b - a).toNat - k = 0 from by omega,dayG] at hval
 rw [hval] at hK1
 exact hK1 _ hkp
end Go.Proofs.Cp
