import Derived.Test.YtefjnhpghgahbaaGreatCq3
/- Whether all is there; dates, courses, a company at work. -/
namespace Go.Proofs.Cp
open Go Go.Ev
set_option linter.unusedSimpArgs false

variable {pr:Prim} {R:ExT}
def IG (l:List Int) (a:Int) (h0:AHeap) (v:Value) (k:Nat) (t:T Value) (h:AHeap):Prop:=
 k ≤ l.length ∧ h = h0 ∧ tget t 7 = v ∧ tget t 8 = iv (l.length:Int) ∧ tget t 9 = iv (k:Int) ∧ ∃ x,tget t 0 = iv x ∧ (l.drop k).foldl max2 x = l.foldl max2 a
set_option maxHeartbeats 8000000 in
theorem greatest_y (S:Ev.Steps Tryz.prog pr R) (h0:AHeap) (a:Int) (v:Value) (l:List Int) (hl:IAt h0 v l) (hsz:(l.length:Int) ≤ 1000000) :
  Brings Tryz.prog R 95 [iv a,v] h0 fun u h=>u = iv (l.foldl max2 a) ∧ h = h0:=by
 refine brings_of (fn:=Tryz.f95) (c:=(Tryz.f95.body).getD .skip) (by kernel_rfl) rfl (by kernel_rfl) rfl (fun K hK=>?_)
 generalize hF:finish Tryz.prog Tryz.f95 K = KF
 simp only [Tryz.f95,Option.getD_some,argsT,setArgs,fV1_eq,T.setK_eq,id]
 have hlen:=fun t h1 o=>hl.len isI t h1 o
 repeat refine S.seq ?_
 refine S.region ?_
 simp (disch:=first|omega|decide) only [rUz]
 repeat refine S.seq ?_
 refine S.region ?_
 simp (disch:=first|omega|decide) only [rUz,hlen]
 repeat refine S.seq ?_
 refine S.block ?_
 refine S.loop (ι:=Nat) (IG l a h0 v) (fun k=>l.length - k) ?_ 0 _ _ ?_
 ·intro k t h ⟨hk,hh,t7,t8,t9,x,t0,hx⟩ K' hn he
  subst hh
  repeat refine S.seq ?_
  refine S.region ?_
  simp (disch:=first|omega|decide) only [rUz,t8,t9]
  repeat refine S.seq ?_
  refine S.cond (v:=decide ((k:Int) < (l.length:Int))) (by first|rfl|(simp (disch:=first|omega|decide) only [rUz,↓reduceIte,Nat.reduceEqDiff,Nat.reduceAdd] <;> rfl)) (fun e=>?_) (fun e=>?_)
  ·have hkn:k < l.length:=by have:=of_decide_eq_true e; omega
   clear e
   obtain ⟨b,f,ro,q1,q2,q3,q4⟩:=hl.idx slI s3' hkn
   rw [List.drop_eq_getElem_cons hkn,List.foldl_cons] at hx
   generalize l[k] = y at q4 hx
   repeat refine S.seq ?_
   refine S.skip ?_
   simp (disch:=first|omega|decide) only [rUz]
   repeat refine S.seq ?_
   refine S.block ?_
   repeat refine S.seq ?_
   refine S.region ?_
   simp (disch:=first|omega|decide) only [rUz,t7,t9,q1,q3,p3,q4]
   repeat refine S.seq ?_
   refine S.region ?_
   simp (disch:=first|omega|decide) only [rUz,t0,rd_max,w_max]
   refine optR_of' (v:=iv (max2 x y)) (call2_congr (t':=T.set 15 (T.set 14 .leaf 13 (iv x)) 14 (iv y)) (u:=iv x) (v:=iv y) ?_ ?_ (by kernel_rfl) (by kernel_rfl) (by kernel_rfl)) ?_
   ·simp (disch:=first|omega|decide) only [rUz,t0]
   ·simp (disch:=first|omega|decide) only [rUz]
   simp (disch:=first|omega|decide) only [rUz]
   repeat refine S.seq ?_
   refine S.region ?_
   simp (disch:=first|omega|decide) only [rUz,t9]
   refine hn (k + 1) _ _ (by omega) ⟨by omega,rfl,?_,?_,?_,max2 x y,?_,hx⟩
   all_goals (first|rfl|(simp (disch:=first|omega|decide) only [rUz,t7,t8,t9]; done)|(simp (disch:=first|omega|decide) only [rUz,t7,t8,t9]; rfl))
  ·have hkn:k = l.length:=by have:=of_decide_eq_false e; omega
   subst hkn
   rw [List.drop_of_length_le (Nat.le_refl _),List.foldl_nil] at hx
   subst hx
   refine S.exit (he _ _ _ _ (fun e=>by cases e) ?_)
   simp (disch:=first|omega|decide) only [rUz]
   repeat refine S.seq ?_
   refine S.region ?_
   simp (disch:=first|omega|decide) only [rUz,t0]
   refine S.ret ?_
   try simp only [seqK_ret,blockK_ret]
   subst hF
   simp only [finish,endMarks]
   rw [show Tryz.f95.results.toList = [.tmp 4] from rfl]
   simp (disch:=first|omega|decide) only [resA,ev_tmp,tget_ne,tget_eq,get_ne,get_eq,upd_eq,upd_ne,ag_eq,ag_ne,result1]
   exact hK _ _ Kp.refl ⟨rfl,rfl⟩
 ·refine ⟨Nat.zero_le _,rfl,?_,?_,?_,a,?_,rfl⟩
  all_goals (first|rfl|(simp (disch:=first|omega|decide) only [rUz]; done)|(simp (disch:=first|omega|decide) only [rUz]; rfl))

def upTo (l:List Int):Nat → List Int
 | 0=>l
 | k + 1=>(upTo l k).set k (max2 0 (l.getD k 0))
theorem upTo_len (l:List Int):∀ k,(upTo l k).length = l.length
 | 0=>rfl
 | k + 1=>by rw [upTo,List.length_set,upTo_len l k]
theorem upTo_4 {l:List Int} (h:l.length = 4):upTo l 4 = l.map (max2 0):=by
 match l,h with
 | [a,b,c,d],_=>rfl
theorem there_eq:∀ l:List Int,(l == l.map (max2 0)) = posL l
 | []=>rfl
 | x :: l=>by
  have ih:=there_eq l
  show (x == max2 0 x && l == l.map (max2 0)) = (!decide (x < 0) && posL l)
  rw [ih]
  congr 1
  unfold max2
  by_cases h:x > 0
  ·rw [if_pos h,decide_eq_false (by omega)]; simp
  ·rw [if_neg h]
   by_cases h2:x < 0
   ·rw [decide_eq_true h2]; simp; omega
   ·rw [decide_eq_false h2,show x = 0 from by omega]; rfl
set_option maxRecDepth 100000 in
theorem eqlH2 {t:T Value} {o:Oper} (z l:List Value):rBin Tryz.prog t o .eql 97 (.agg ⟨z⟩) (.agg ⟨l⟩) = ground Tryz.prog t o:=by
 have h:nilEqT Tryz.prog 97 (.agg ⟨l⟩) (.agg ⟨z⟩) = none:=by kernel_rfl
 show rBin2 Tryz.prog t o .eql (nilEqT Tryz.prog 97 (.agg ⟨l⟩) (.agg ⟨z⟩)) = _
 rw [h]; rfl
structure ITr (l:List Int) (B1 B3:Nat) (H:AHeap) (k:Nat) (t:T Value) (h:AHeap):Prop where
 fr:Fr H B3 h
 t1:tget t 1 = ptr0 B1
 t3:tget t 3 = ptr0 B3
 t7:tget t 7 = .agg ⟨l.map iv⟩
 t8:tget t 8 = iv (k:Int)
 hk:k ≤ 4
 b3:h.bl.get B3 = some (.cells ((upTo l k).map iv) B3 false)
set_option maxHeartbeats 16000000 in
theorem isThere_y (S:Ev.Steps Tryz.prog pr R) (hoff:Off pr) (h0:AHeap) (l:List Int) (hl:l.length = 4) :
  Brings Tryz.prog R 89 [.agg ⟨l.map iv⟩] h0 fun w _=>w = .bool (posL l):=by
 refine brings_of (fn:=Tryz.f89) (c:=(Tryz.f89.body).getD .skip) (by kernel_rfl) rfl (by kernel_rfl) rfl (fun K hK=>?_)
 generalize hF:finish Tryz.prog Tryz.f89 K = KF
 simp only [Tryz.f89,Option.getD_some,argsT,setArgs,fV1_eq,T.setK_eq,id]
 repeat refine S.seq ?_
 refine S.region ?_
 simp (disch:=first|omega|decide) only [rUz]
 have hb1:(h0.add (l.map iv)).bl.get h0.nx = some (.cells (l.map iv) h0.nx false):=ag_eq rfl
 have hk1:Kp h0 (h0.add (l.map iv)):=Kp.refl.add
 have hn1:h0.nx < (h0.add (l.map iv)).nx:=Nat.lt_succ_self _
 obtain ⟨B1,hB1⟩:∃ x,x = h0.nx:=⟨_,rfl⟩
 rw [← hB1] at hb1 hn1 ⊢
 generalize h0.add (l.map iv) = H at hb1 hk1 hn1 ⊢
 repeat refine S.seq ?_
 refine S.region ?_
 simp (disch:=first|omega|decide) only [rUz,hb1,pH4 hl,wr_alloc zH]
 refine wr_storeN (B:=H.nx) (c:=[iv 0,iv 0,iv 0,iv 0]) (fam:=H.nx) (k:=H.nx) (l:=l.map iv) (by simp (disch:=first|omega|decide) only [rUz]) (by simp (disch:=first|omega|decide) only [rUz]) sH (by omega) (by rw [List.length_map]; exact hl) (ag_eq rfl) (af_eq rfl) rfl ?_
 obtain ⟨B3,hB3⟩:∃ x,x = H.nx:=⟨_,rfl⟩
 have hk3:Kp H ((H.add [iv 0,iv 0,iv 0,iv 0]).upd H.nx (l.map iv) H.nx):=Kp.refl.add.upd (Nat.le_refl _)
 have hb3:((H.add [iv 0,iv 0,iv 0,iv 0]).upd H.nx (l.map iv) H.nx).bl.get H.nx = some (.cells (l.map iv) H.nx false):=upd_eq _ _ _
 have hf3:((H.add [iv 0,iv 0,iv 0,iv 0]).upd H.nx (l.map iv) H.nx).fams.get H.nx = some [H.nx]:=by rw [upd_fams]; exact af_eq rfl
 have hn3:H.nx < ((H.add [iv 0,iv 0,iv 0,iv 0]).upd H.nx (l.map iv) H.nx).nx:=Nat.lt_succ_self _
 simp (disch:=first|omega|decide) only [rUz]
 have h13:B1 < B3:=by omega
 have h03:h0.nx ≤ B3:=by omega
 rw [← hB3] at hk3 hb3 hf3 hn3 ⊢
 generalize (H.add [iv 0,iv 0,iv 0,iv 0]).upd B3 (l.map iv) B3 = G at hk3 hb3 hf3 hn3 ⊢
 have hb1g:=(hk3.get hn1).trans hb1
 have hkG:=hk1.trans hk3
 repeat refine S.seq ?_
 refine S.region ?_
 simp (disch:=first|omega|decide) only [rUz,hb1g,pH4 hl]
 repeat refine S.seq ?_
 refine S.block ?_
 refine S.loop (ι:=Nat) (ITr l B1 B3 G) (fun k=>4 - k) ?_ 0 _ _ ?_
 rotate_left
 ·refine ⟨Fr.refl,?_,?_,?_,?_,by omega,hb3⟩
  all_goals (first|rfl|(simp (disch:=first|omega|decide) only [rUz]; done)|(simp (disch:=first|omega|decide) only [rUz]; rfl))
 intro k t h ⟨hfr,t1,t3,t7,t8,hk,hb3h⟩ K' hn he
 repeat refine S.seq ?_
 refine S.region ?_
 simp (disch:=first|omega|decide) only [rUz,t8]
 repeat refine S.seq ?_
 refine S.cond (v:=decide ((k:Int) < 4)) (by first|rfl|(simp (disch:=first|omega|decide) only [rUz,↓reduceIte,Nat.reduceEqDiff,Nat.reduceAdd] <;> rfl)) (fun e=>?_) (fun e=>?_)
 ·have hk4:k < 4:=by have:=of_decide_eq_true e; omega
  clear e
  have hg:(l.map iv)[k]? = some (iv (l.getD k 0)):=by
   rw [List.getElem?_map,List.getD_eq_getElem?_getD,List.getElem?_eq_getElem (by omega)]; rfl
  generalize hx:l.getD k 0 = x at hg
  have hix:∀ (t:T Value) (o:Oper),rIndex Tryz.prog t o 97 (iv (k:Int)) (.agg ⟨l.map iv⟩) = some (iv x):=fun t o=>by
   have h1:Nat.blt k 4 = true:=by rw [Nat.blt_eq]; exact hk4
   show rIndexAgg Tryz.prog 97 ⟨l.map iv⟩ (.int .i64 (.ofNat k)) = _
   simp only [rIndexAgg,aH,h1,cond_true,s3',p3,show Nat.mul k 1 = k from Nat.mul_one k]
   exact hg
  have ia:rIndexAddr Tryz.prog 97 (.pointer (some ⟨B3,0,none⟩)) (iv (k:Int)) = some (.pointer (some ⟨B3,k,none⟩)):=by
   rw [indexAddr_arr aH s3' hk4,Nat.zero_add,Nat.mul_one]
  repeat refine S.seq ?_
  refine S.skip ?_
  simp (disch:=first|omega|decide) only [rUz]
  repeat refine S.seq ?_
  refine S.block ?_
  repeat refine S.seq ?_
  refine S.region ?_
  simp (disch:=first|omega|decide) only [rUz,t7,t8,rd_index,hix]
  repeat refine S.seq ?_
  refine S.region ?_
  simp (disch:=first|omega|decide) only [rUz,w_buildSlice]
  refine wr_lit1 slI s3' z3 rfl (by omega) (u:=iv x) (l:=[iv x]) (by simp (disch:=first|omega|decide) only [rUz]) rfl rfl ?_
  have hnG:B3 < h.nx:=Nat.lt_of_lt_of_le hn3 hfr.le
  have hbx:(h.add [iv x]).bl.get B3 = some (.cells ((upTo l k).map iv) B3 false):=by rw [ag_ne (by omega)]; exact hb3h
  have hfx:(h.add [iv x]).fams.get B3 = some [B3]:=by rw [af_ne (by omega)]; exact (hfr.fam B3 hn3).trans hf3
  have hlx:k < ((upTo l k).map iv).length:=by rw [List.length_map,upTo_len]; omega
  have hset:((upTo l k).map iv).set k (iv (max2 0 x)) = (upTo l (k + 1)).map iv:=by rw [upTo,hx,List.map_set]
  simp (disch:=first|omega|decide) only [rUz]
  refine wr_brings (fid:=95) (first:=#[]) (captured:=#[]) (Post:=fun u h'=>u = iv ([x].foldl max2 0) ∧ h' = h.add [iv x]) rfl (hoff _ _ _ rfl) (by simp (disch:=first|omega|decide) only [rUz]; exact greatest_y S _ 0 _ [x] (.inr ⟨h.nx,1,h.nx,false,rfl,Nat.lt_succ_self _,ag_eq rfl⟩) (by simp)) ?_
  rintro u g - ⟨rfl,rfl⟩
  simp (disch:=first|omega|decide) only [rUz,t3,ia,List.foldl_cons,List.foldl_nil]
  refine wr_store s3' ?_
  simp (disch:=first|omega|decide) only [rUz,hbx,hfx,hset]
  repeat refine S.seq ?_
  refine S.region ?_
  simp (disch:=first|omega|decide) only [rUz,t8]
  refine hn (k + 1) _ _ (by omega) ⟨(hfr.kp Kp.refl.add).upd,?_,?_,?_,?_,by omega,upd_eq _ _ _⟩
  all_goals (first|rfl|(simp (disch:=first|omega|decide) only [rUz,t1,t3,t7,t8]; done)|(simp (disch:=first|omega|decide) only [rUz,t1,t3,t7,t8]; rfl))
 have hk4:k = 4:=by have:=of_decide_eq_false e; omega
 subst hk4
 rw [upTo_4 hl] at hb3h
 have hb1h:=(hfr.bl B1 (Nat.lt_of_lt_of_le hn1 hk3.1) (by omega)).trans hb1g
 have hlm:(l.map (max2 0)).length = 4:=by rw [List.length_map]; exact hl
 refine S.exit (he _ _ _ _ (fun e=>by cases e) ?_)
 simp (disch:=first|omega|decide) only [rUz]
 repeat refine S.seq ?_
 refine S.region ?_
 simp (disch:=first|omega|decide) only [rUz,t1,t3,hb1h,hb3h,pH4 hl,pH4 hlm]
 refine optR_of' (v:=.bool (l == l.map (max2 0))) ?_ ?_
 ·rw [eqlH2]
  exact eqlH l hl (l.map (max2 0)) hlm (by simp (disch:=first|omega|decide) only [rUz]) (by simp (disch:=first|omega|decide) only [rUz])
 simp (disch:=first|omega|decide) only [rUz]
 refine S.ret ?_
 try simp only [seqK_ret,blockK_ret]
 subst hF
 simp only [finish,endMarks]
 rw [show Tryz.f89.results.toList = [.tmp 2] from rfl]
 simp (disch:=first|omega|decide) only [resA,ev_tmp,tget_ne,tget_eq,get_ne,get_eq,upd_eq,upd_ne,ag_eq,ag_ne,result1]
 exact hK _ _ (hfr.toKp hkG h03) (by rw [there_eq])
end Go.Proofs.Cp
