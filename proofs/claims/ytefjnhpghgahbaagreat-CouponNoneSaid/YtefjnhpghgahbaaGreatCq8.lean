import Derived.Test.YtefjnhpghgahbaaGreatCq7
/- What a truth may be; what follows from it. -/
namespace Go.Proofs.Cp
open Go Go.Ev
set_option linter.unusedSimpArgs false

def eqG {α β:Type} (q:α → β → Bool):List α → List β → Bool
 | x :: l,y :: m=>q x y && eqG q l m
 | [],[]=>true
 | _,_=>false
theorem eqG_len {α β:Type} {q:α → β → Bool}:∀ {l:List α} {m:List β},eqG q l m = true → l.length = m.length
 | [],[],_=>rfl
 | x :: l,y :: m,h=>by
  rw [eqG,Bool.and_eq_true] at h
  rw [List.length_cons,List.length_cons,eqG_len h.2]
 | [],_ :: _,h=>by simp [eqG] at h
 | _ :: _,[],h=>by simp [eqG] at h
def soldB (x:Tr) (s:Int):Bool:=inB s x.so.1 x.so.2
def delB (x:Tr) (d:Int):Bool:=inB d x.de.1 x.de.2
def ordB (s d:Int):Bool:=decide (s ≤ d)
def allowsB (c:Co) (a b:List Int):Bool:=eqG soldB c.tr a && (eqG delB c.tr b && eqG ordB a b)
theorem dat_eq:∀ (l:List Tr) (a b:List Int),a.length = l.length → b.length = l.length → datG l a b = (eqG soldB l a && (eqG delB l b && eqG ordB a b))
 | [],[],[],_,_=>rfl
 | x :: l,s :: a,d :: b,h1,h2=>by
  rw [datG,dat_eq l a b (by simpa using h1) (by simpa using h2)]
  simp only [eqG,datB,soldB,delB,ordB]
  have:(!decide (d < s)) = decide (s ≤ d):=by
   by_cases h:d < s
   ·rw [decide_eq_true h,decide_eq_false (by omega)]; rfl
   ·rw [decide_eq_false h,decide_eq_true (by omega)]; rfl
  rw [this]
  cases inB s x.so.1 x.so.2 <;> cases inB d x.de.1 x.de.2 <;> cases decide (s ≤ d) <;> cases eqG soldB l a <;> cases eqG delB l b <;> cases eqG ordB a b <;> rfl
 | [],_ :: _,_,h,_=>by simp at h
 | [],[],_ :: _,_,h=>by simp at h
 | _ :: _,[],_,h,_=>by simp at h
 | _ :: _,_ :: _,[],_,h=>by simp at h
theorem allows_eq (c:Co) (a b:List Int):allowsB c a b = datedB c a b:=by
 unfold datedB
 cases hl:lensB c a b with
 | true =>
  obtain ⟨h1,h2⟩:=lens_iff.1 hl
  rw [Bool.true_and,dat_eq _ _ _ h1 h2]; rfl
 | false =>
  rw [Bool.false_and]
  cases h:allowsB c a b with
  | false=>rfl
  | true =>
   unfold allowsB at h
   rw [Bool.and_eq_true,Bool.and_eq_true] at h
   have e1:=eqG_len h.1
   have e2:=eqG_len h.2.1
   rw [lens_iff.2 ⟨e1.symm,e2.symm⟩] at hl; cases hl

variable {pr:Prim} {R:ExT}
set_option maxHeartbeats 4000000 in
theorem sold_y (S:Ev.Steps Tryz.prog pr R) (hoff:Off pr) (h0:AHeap) (x:Tr) (s:Int):Brings Tryz.prog R 82 [.agg ⟨c7 x⟩,iv s] h0 fun u _=>u = .bool (soldB x s):=by
 refine brings_of (fn:=Tryz.f82) (c:=(Tryz.f82.body).getD .skip) (by kernel_rfl) rfl (by kernel_rfl) rfl (fun K hK=>?_)
 generalize hF:finish Tryz.prog Tryz.f82 K = KF
 simp only [Tryz.f82,Option.getD_some,argsT,setArgs,fV1_eq,T.setK_eq,id]
 repeat refine S.seq ?_
 refine S.region ?_
 simp (disch:=first|omega|decide) only [rUz]
 repeat refine S.seq ?_
 refine S.region ?_
 simp (disch:=first|omega|decide) only [rUz,fieldAddr_ptr fcT3 ScR,rc73]
 refine wr_brings (fid:=93) (first:=#[]) (captured:=#[]) (Post:=fun u _=>u = .bool (inB s x.so.1 x.so.2)) rfl (hoff _ _ _ rfl) (by simp (disch:=first|omega|decide) only [rUz]; exact has_y S _ x.so s) ?_
 rintro u g hk rfl
 simp (disch:=first|omega|decide) only [rUz]
 refine S.ret ?_
 try simp only [seqK_ret,blockK_ret]
 subst hF
 simp only [finish,endMarks]
 rw [show Tryz.f82.results.toList = [.tmp 4] from rfl]
 simp (disch:=first|omega|decide) only [resA,ev_tmp,tget_ne,tget_eq,get_ne,get_eq,upd_eq,upd_ne,ag_eq,ag_ne,result1]
 exact hK _ _ (Kp.refl.add.trans hk) rfl
set_option maxHeartbeats 4000000 in
theorem deliv_y (S:Ev.Steps Tryz.prog pr R) (hoff:Off pr) (h0:AHeap) (x:Tr) (s:Int):Brings Tryz.prog R 83 [.agg ⟨c7 x⟩,iv s] h0 fun u _=>u = .bool (delB x s):=by
 refine brings_of (fn:=Tryz.f83) (c:=(Tryz.f83.body).getD .skip) (by kernel_rfl) rfl (by kernel_rfl) rfl (fun K hK=>?_)
 generalize hF:finish Tryz.prog Tryz.f83 K = KF
 simp only [Tryz.f83,Option.getD_some,argsT,setArgs,fV1_eq,T.setK_eq,id]
 repeat refine S.seq ?_
 refine S.region ?_
 simp (disch:=first|omega|decide) only [rUz]
 repeat refine S.seq ?_
 refine S.region ?_
 simp (disch:=first|omega|decide) only [rUz,fieldAddr_ptr fcT4 ScR,rc75]
 refine wr_brings (fid:=93) (first:=#[]) (captured:=#[]) (Post:=fun u _=>u = .bool (inB s x.de.1 x.de.2)) rfl (hoff _ _ _ rfl) (by simp (disch:=first|omega|decide) only [rUz]; exact has_y S _ x.de s) ?_
 rintro u g hk rfl
 simp (disch:=first|omega|decide) only [rUz]
 refine S.ret ?_
 try simp only [seqK_ret,blockK_ret]
 subst hF
 simp only [finish,endMarks]
 rw [show Tryz.f83.results.toList = [.tmp 4] from rfl]
 simp (disch:=first|omega|decide) only [resA,ev_tmp,tget_ne,tget_eq,get_ne,get_eq,upd_eq,upd_ne,ag_eq,ag_ne,result1]
 exact hK _ _ (Kp.refl.add.trans hk) rfl
set_option maxHeartbeats 4000000 in
theorem order_y (S:Ev.Steps Tryz.prog pr R) (h0:AHeap) (s d:Int):Brings Tryz.prog R 85 [iv s,iv d] h0 fun u _=>u = .bool (ordB s d):=by
 refine brings_of (fn:=Tryz.f85) (c:=(Tryz.f85.body).getD .skip) (by kernel_rfl) rfl (by kernel_rfl) rfl (fun K hK=>?_)
 generalize hF:finish Tryz.prog Tryz.f85 K = KF
 simp only [Tryz.f85,Option.getD_some,argsT,setArgs,fV1_eq,T.setK_eq,id]
 repeat refine S.seq ?_
 refine S.region ?_
 simp (disch:=first|omega|decide) only [rUz]
 repeat refine S.seq ?_
 refine S.region ?_
 simp (disch:=first|omega|decide) only [rUz]
 refine S.ret ?_
 try simp only [seqK_ret,blockK_ret]
 subst hF
 simp only [finish,endMarks]
 rw [show Tryz.f85.results.toList = [.tmp 4] from rfl]
 simp (disch:=first|omega|decide) only [resA,ev_tmp,tget_ne,tget_eq,get_ne,get_eq,upd_eq,upd_ne,ag_eq,ag_ne,result1]
 exact hK _ _ Kp.refl rfl

structure IEq {α:Type} (q:α → Int → Bool) (l:List α) (m:List Int) (H:AHeap) (lv mv fv:Value) (k:Nat) (t:T Value) (h:AHeap):Prop where
 kp:Kp H h
 t1:tget t 1 = mv
 t2:tget t 2 = fv
 t15:tget t 15 = lv
 t16:tget t 16 = iv (l.length:Int)
 t17:tget t 17 = iv (k:Int)
 hk:k ≤ l.length
 val:eqG q l m = eqG q (l.drop k) (m.drop k)

set_option maxHeartbeats 16000000 in
theorem eqT_y (S:Ev.Steps Tryz.prog pr R) (hoff:Off pr) (h0:AHeap) (lv mv:Value) (l:List Tr) (m:List Int) (hl:SlAt h0 7 lv (l.map c7)) (hm:IAt h0 mv m) (hsz:(l.length:Int) ≤ 1000000) (G:FuncId) (hG:offB G = true) (q:Tr → Int → Bool)
  (hq:∀ h' x y,Brings Tryz.prog R G [.agg ⟨c7 x⟩,iv y] h' fun u _=>u = .bool (q x y)) :
  Brings Tryz.prog R 81 [lv,mv,.func (.func G) #[] #[]] h0 fun u _=>u = .bool (eqG q l m):=by
 refine brings_of (fn:=Tryz.f81) (c:=(Tryz.f81.body).getD .skip) (by kernel_rfl) rfl (by kernel_rfl) rfl (fun K hK=>?_)
 generalize hF:finish Tryz.prog Tryz.f81 K = KF
 simp only [Tryz.f81,Option.getD_some,argsT,setArgs,fV1_eq,T.setK_eq,id]
 have lL:=fun t h1 o=>row_len hl iscT t h1 o
 have lM:=iv_len hm
 repeat refine S.seq ?_
 refine S.region ?_
 simp (disch:=first|omega|decide) only [rUz]
 repeat refine S.seq ?_
 refine S.region ?_
 simp (disch:=first|omega|decide) only [rUz,lL,lM]
 by_cases hlen:(l.length:Int) = (m.length:Int)
 rotate_left
 ·have hf:eqG q l m = false:=by
   cases h:eqG q l m with
   | false=>rfl
   | true=>exact absurd (congrArg Int.ofNat (eqG_len h)) hlen
  have hd:(!decide ((l.length:Int) = (m.length:Int))) = true:=by rw [decide_eq_false hlen]; rfl
  rw [hf] at hK
  repeat refine S.seq ?_
  refine S.cond (v:=true) (by first|rfl|(simp (disch:=first|omega|decide) only [rUz,↓reduceIte,Nat.reduceEqDiff,Nat.reduceAdd,hd] <;> rfl)) (fun _=>?_) (fun e=>by cases e)
  repeat refine S.seq ?_
  refine S.region ?_
  simp (disch:=first|omega|decide) only [rUz]
  refine S.ret ?_
  try simp only [seqK_ret,blockK_ret]
  subst hF
  simp only [finish,endMarks]
  rw [show Tryz.f81.results.toList = [.tmp 6] from rfl]
  simp (disch:=first|omega|decide) only [resA,ev_tmp,tget_ne,tget_eq,get_ne,get_eq,upd_eq,upd_ne,ag_eq,ag_ne,result1]
  exact hK _ _ Kp.refl rfl
 have hd:(!decide ((l.length:Int) = (m.length:Int))) = false:=by rw [decide_eq_true hlen]; rfl
 repeat refine S.seq ?_
 refine S.cond (v:=false) (by first|rfl|(simp (disch:=first|omega|decide) only [rUz,↓reduceIte,Nat.reduceEqDiff,Nat.reduceAdd,hd] <;> rfl)) (fun e=>by cases e) (fun _=>?_)
 repeat refine S.seq ?_
 refine S.skip ?_
 simp (disch:=first|omega|decide) only [rUz]
 repeat refine S.seq ?_
 refine S.region ?_
 simp (disch:=first|omega|decide) only [rUz,lL]
 repeat refine S.seq ?_
 refine S.block ?_
 refine S.loop (ι:=Nat) (IEq q l m h0 lv mv (.func (.func G) #[] #[])) (fun k=>l.length - k) ?_ 0 _ _ ?_
 rotate_left
 ·refine ⟨Kp.refl,?_,?_,?_,?_,?_,Nat.zero_le _,by rw [List.drop_zero,List.drop_zero]⟩
  all_goals (first|rfl|(simp (disch:=first|omega|decide) only [rUz]; done)|(simp (disch:=first|omega|decide) only [rUz]; rfl))
 intro k t h ⟨hkp,t1,t2,t15,t16,t17,hk,hval⟩ K' hn he
 repeat refine S.seq ?_
 refine S.region ?_
 simp (disch:=first|omega|decide) only [rUz,t16,t17]
 repeat refine S.seq ?_
 refine S.cond (v:=decide ((k:Int) < (l.length:Int))) (by first|rfl|(simp (disch:=first|omega|decide) only [rUz,↓reduceIte,Nat.reduceEqDiff,Nat.reduceAdd] <;> rfl)) (fun e=>?_) (fun e=>?_)
 rotate_left
 ·have hkn:k = l.length:=by have:=of_decide_eq_false e; omega
  subst hkn
  rw [List.drop_of_length_le (Nat.le_refl _),List.drop_of_length_le (by omega)] at hval
  have hv:eqG q l m = true:=hval
  rw [hv] at hK
  refine S.exit (he _ _ _ _ (fun e=>by cases e) ?_)
  simp (disch:=first|omega|decide) only [rUz]
  repeat refine S.seq ?_
  refine S.region ?_
  simp (disch:=first|omega|decide) only [rUz]
  refine S.ret ?_
  try simp only [seqK_ret,blockK_ret]
  subst hF
  simp only [finish,endMarks]
  rw [show Tryz.f81.results.toList = [.tmp 6] from rfl]
  simp (disch:=first|omega|decide) only [resA,ev_tmp,tget_ne,tget_eq,get_ne,get_eq,upd_eq,upd_ne,ag_eq,ag_ne,result1]
  exact hK _ _ hkp rfl
 have hkn:k < l.length:=by have:=of_decide_eq_true e; omega
 clear e
 have hkm:k < m.length:=by omega
 rw [List.drop_eq_getElem_cons hkn,List.drop_eq_getElem_cons hkm,eqG] at hval
 have hnx:=hkp.1
 have hps:l[k]? = some l[k]:=List.getElem?_eq_getElem hkn
 obtain ⟨b',f,ro,cells,q1,q2,q3,q4,q5,_⟩:=row_idx (SlAt.mono hl hkp) slcT scT hps
 generalize l[k] = x at hps hval q4
 have qp:=part_at pcT q4 q5
 repeat refine S.seq ?_
 refine S.skip ?_
 simp (disch:=first|omega|decide) only [rUz]
 repeat refine S.seq ?_
 refine S.block ?_
 repeat refine S.seq ?_
 refine S.region ?_
 simp (disch:=first|omega|decide) only [rUz,t15,t17,q1,q3,qp,wr_alloc zcT]
 refine wr_storeN (B:=h.nx) (c:=[iv 0,iv 0,iv 0,iv 0,iv 0,iv 0,iv 0]) (fam:=h.nx) (k:=h.nx) (l:=c7 x) (by simp (disch:=first|omega|decide) only [rUz]) (by simp (disch:=first|omega|decide) only [rUz]) scT (by omega) rfl (ag_eq rfl) (af_eq rfl) rfl ?_
 have hk4:Kp h ((h.add [iv 0,iv 0,iv 0,iv 0,iv 0,iv 0,iv 0]).upd h.nx (c7 x) h.nx):=Kp.refl.add.upd (Nat.le_refl _)
 have hg4:((h.add [iv 0,iv 0,iv 0,iv 0,iv 0,iv 0,iv 0]).upd h.nx (c7 x) h.nx).bl.get h.nx = some (.cells (c7 x) h.nx false):=upd_eq _ _ _
 simp (disch:=first|omega|decide) only [rUz]
 generalize (h.add [iv 0,iv 0,iv 0,iv 0,iv 0,iv 0,iv 0]).upd h.nx (c7 x) h.nx = h4 at hk4 hg4 ⊢
 generalize h.nx = B4 at hg4 ⊢
 have p7:partL Tryz.prog 88 (c7 x) 0 = some (.agg ⟨c7 x⟩):=part_0 pcT (c7_len x)
 have hk5:=hkp.trans hk4
 obtain ⟨bm,fm,rm,d1,d2,d3,d4⟩:=(hm.mono hk5).idx slI s3' hkm
 generalize m[k] = y at d4 hval
 repeat refine S.seq ?_
 refine S.region ?_
 simp (disch:=first|omega|decide) only [rUz,t1,d1,d3,d4,p3]
 repeat refine S.seq ?_
 refine S.region ?_
 simp (disch:=first|omega|decide) only [rUz,t2,hg4,p7]
 refine wr_brings (fid:=G) (first:=#[]) (captured:=#[]) (Post:=fun u _=>u = .bool (q x y)) (by simp (disch:=first|omega|decide) only [rUz,t2]) (hoff _ _ _ hG) (by simp (disch:=first|omega|decide) only [rUz]; exact hq _ x y) ?_
 rintro u g hkg rfl
 simp (disch:=first|omega|decide) only [rUz,un_not]
 cases hqp:q x y with
 | false =>
  rw [hqp,Bool.false_and] at hval
  repeat refine S.seq ?_
  refine S.cond (v:=true) (by first|rfl|(simp (disch:=first|omega|decide) only [rUz,↓reduceIte,Nat.reduceEqDiff,Nat.reduceAdd,hqp,Bool.not_false] <;> rfl)) (fun _=>?_) (fun e=>by cases e)
  repeat refine S.seq ?_
  refine S.region ?_
  simp (disch:=first|omega|decide) only [rUz]
  refine S.ret ?_
  simp only [seqK_ret,blockK_ret]
  refine he _ _ _ _ (fun e=>by cases e) ?_
  try simp only [seqK_ret,blockK_ret]
  subst hF
  simp only [finish,endMarks]
  rw [show Tryz.f81.results.toList = [.tmp 6] from rfl]
  simp (disch:=first|omega|decide) only [resA,ev_tmp,tget_ne,tget_eq,get_ne,get_eq,upd_eq,upd_ne,ag_eq,ag_ne,result1]
  exact hK _ _ (hk5.trans hkg) (by rw [hval])
 | true =>
  rw [hqp,Bool.true_and] at hval
  repeat refine S.seq ?_
  refine S.cond (v:=false) (by first|rfl|(simp (disch:=first|omega|decide) only [rUz,↓reduceIte,Nat.reduceEqDiff,Nat.reduceAdd,hqp,Bool.not_true] <;> rfl)) (fun e=>by cases e) (fun _=>?_)
  repeat refine S.seq ?_
  refine S.skip ?_
  simp (disch:=first|omega|decide) only [rUz]
  repeat refine S.seq ?_
  refine S.region ?_
  simp (disch:=first|omega|decide) only [rUz,t17]
  refine hn (k + 1) _ _ (by omega) ⟨hk5.trans hkg,?_,?_,?_,?_,?_,by omega,hval⟩
  all_goals (first|rfl|(simp (disch:=first|omega|decide) only [rUz,t1,t2,t15,t16,t17]; done)|(simp (disch:=first|omega|decide) only [rUz,t1,t2,t15,t16,t17]; rfl))

set_option maxHeartbeats 16000000 in
theorem eqI_y (S:Ev.Steps Tryz.prog pr R) (hoff:Off pr) (h0:AHeap) (lv mv:Value) (l:List Int) (m:List Int) (hl:IAt h0 lv l) (hm:IAt h0 mv m) (hsz:(l.length:Int) ≤ 1000000) (G:FuncId) (hG:offB G = true) (q:Int → Int → Bool)
  (hq:∀ h' x y,Brings Tryz.prog R G [iv x,iv y] h' fun u _=>u = .bool (q x y)) :
  Brings Tryz.prog R 84 [lv,mv,.func (.func G) #[] #[]] h0 fun u _=>u = .bool (eqG q l m):=by
 refine brings_of (fn:=Tryz.f84) (c:=(Tryz.f84.body).getD .skip) (by kernel_rfl) rfl (by kernel_rfl) rfl (fun K hK=>?_)
 generalize hF:finish Tryz.prog Tryz.f84 K = KF
 simp only [Tryz.f84,Option.getD_some,argsT,setArgs,fV1_eq,T.setK_eq,id]
 have lL:=iv_len hl
 have lM:=iv_len hm
 repeat refine S.seq ?_
 refine S.region ?_
 simp (disch:=first|omega|decide) only [rUz]
 repeat refine S.seq ?_
 refine S.region ?_
 simp (disch:=first|omega|decide) only [rUz,lL,lM]
 by_cases hlen:(l.length:Int) = (m.length:Int)
 rotate_left
 ·have hf:eqG q l m = false:=by
   cases h:eqG q l m with
   | false=>rfl
   | true=>exact absurd (congrArg Int.ofNat (eqG_len h)) hlen
  have hd:(!decide ((l.length:Int) = (m.length:Int))) = true:=by rw [decide_eq_false hlen]; rfl
  rw [hf] at hK
  repeat refine S.seq ?_
  refine S.cond (v:=true) (by first|rfl|(simp (disch:=first|omega|decide) only [rUz,↓reduceIte,Nat.reduceEqDiff,Nat.reduceAdd,hd] <;> rfl)) (fun _=>?_) (fun e=>by cases e)
  repeat refine S.seq ?_
  refine S.region ?_
  simp (disch:=first|omega|decide) only [rUz]
  refine S.ret ?_
  try simp only [seqK_ret,blockK_ret]
  subst hF
  simp only [finish,endMarks]
  rw [show Tryz.f84.results.toList = [.tmp 6] from rfl]
  simp (disch:=first|omega|decide) only [resA,ev_tmp,tget_ne,tget_eq,get_ne,get_eq,upd_eq,upd_ne,ag_eq,ag_ne,result1]
  exact hK _ _ Kp.refl rfl
 have hd:(!decide ((l.length:Int) = (m.length:Int))) = false:=by rw [decide_eq_true hlen]; rfl
 repeat refine S.seq ?_
 refine S.cond (v:=false) (by first|rfl|(simp (disch:=first|omega|decide) only [rUz,↓reduceIte,Nat.reduceEqDiff,Nat.reduceAdd,hd] <;> rfl)) (fun e=>by cases e) (fun _=>?_)
 repeat refine S.seq ?_
 refine S.skip ?_
 simp (disch:=first|omega|decide) only [rUz]
 repeat refine S.seq ?_
 refine S.region ?_
 simp (disch:=first|omega|decide) only [rUz,lL]
 repeat refine S.seq ?_
 refine S.block ?_
 refine S.loop (ι:=Nat) (IEq q l m h0 lv mv (.func (.func G) #[] #[])) (fun k=>l.length - k) ?_ 0 _ _ ?_
 rotate_left
 ·refine ⟨Kp.refl,?_,?_,?_,?_,?_,Nat.zero_le _,by rw [List.drop_zero,List.drop_zero]⟩
  all_goals (first|rfl|(simp (disch:=first|omega|decide) only [rUz]; done)|(simp (disch:=first|omega|decide) only [rUz]; rfl))
 intro k t h ⟨hkp,t1,t2,t15,t16,t17,hk,hval⟩ K' hn he
 repeat refine S.seq ?_
 refine S.region ?_
 simp (disch:=first|omega|decide) only [rUz,t16,t17]
 repeat refine S.seq ?_
 refine S.cond (v:=decide ((k:Int) < (l.length:Int))) (by first|rfl|(simp (disch:=first|omega|decide) only [rUz,↓reduceIte,Nat.reduceEqDiff,Nat.reduceAdd] <;> rfl)) (fun e=>?_) (fun e=>?_)
 rotate_left
 ·have hkn:k = l.length:=by have:=of_decide_eq_false e; omega
  subst hkn
  rw [List.drop_of_length_le (Nat.le_refl _),List.drop_of_length_le (by omega)] at hval
  have hv:eqG q l m = true:=hval
  rw [hv] at hK
  refine S.exit (he _ _ _ _ (fun e=>by cases e) ?_)
  simp (disch:=first|omega|decide) only [rUz]
  repeat refine S.seq ?_
  refine S.region ?_
  simp (disch:=first|omega|decide) only [rUz]
  refine S.ret ?_
  try simp only [seqK_ret,blockK_ret]
  subst hF
  simp only [finish,endMarks]
  rw [show Tryz.f84.results.toList = [.tmp 6] from rfl]
  simp (disch:=first|omega|decide) only [resA,ev_tmp,tget_ne,tget_eq,get_ne,get_eq,upd_eq,upd_ne,ag_eq,ag_ne,result1]
  exact hK _ _ hkp rfl
 have hkn:k < l.length:=by have:=of_decide_eq_true e; omega
 clear e
 have hkm:k < m.length:=by omega
 rw [List.drop_eq_getElem_cons hkn,List.drop_eq_getElem_cons hkm,eqG] at hval
 have hnx:=hkp.1
 obtain ⟨b',f,ro,q1,q2,q3,q4⟩:=(hl.mono hkp).idx slI s3' hkn
 generalize l[k] = x at hval q4
 repeat refine S.seq ?_
 refine S.skip ?_
 simp (disch:=first|omega|decide) only [rUz]
 repeat refine S.seq ?_
 refine S.block ?_
 repeat refine S.seq ?_
 refine S.region ?_
 simp (disch:=first|omega|decide) only [rUz,t15,t17,q1,q3,q4,p3]
 have hk4:Kp h h:=Kp.refl
 have hk5:=hkp.trans hk4
 obtain ⟨bm,fm,rm,d1,d2,d3,d4⟩:=(hm.mono hk5).idx slI s3' hkm
 generalize m[k] = y at d4 hval
 repeat refine S.seq ?_
 refine S.region ?_
 simp (disch:=first|omega|decide) only [rUz,t1,d1,d3,d4,p3]
 repeat refine S.seq ?_
 refine S.region ?_
 simp (disch:=first|omega|decide) only [rUz,t2]
 refine wr_brings (fid:=G) (first:=#[]) (captured:=#[]) (Post:=fun u _=>u = .bool (q x y)) (by simp (disch:=first|omega|decide) only [rUz,t2]) (hoff _ _ _ hG) (by simp (disch:=first|omega|decide) only [rUz]; exact hq _ x y) ?_
 rintro u g hkg rfl
 simp (disch:=first|omega|decide) only [rUz,un_not]
 cases hqp:q x y with
 | false =>
  rw [hqp,Bool.false_and] at hval
  repeat refine S.seq ?_
  refine S.cond (v:=true) (by first|rfl|(simp (disch:=first|omega|decide) only [rUz,↓reduceIte,Nat.reduceEqDiff,Nat.reduceAdd,hqp,Bool.not_false] <;> rfl)) (fun _=>?_) (fun e=>by cases e)
  repeat refine S.seq ?_
  refine S.region ?_
  simp (disch:=first|omega|decide) only [rUz]
  refine S.ret ?_
  simp only [seqK_ret,blockK_ret]
  refine he _ _ _ _ (fun e=>by cases e) ?_
  try simp only [seqK_ret,blockK_ret]
  subst hF
  simp only [finish,endMarks]
  rw [show Tryz.f84.results.toList = [.tmp 6] from rfl]
  simp (disch:=first|omega|decide) only [resA,ev_tmp,tget_ne,tget_eq,get_ne,get_eq,upd_eq,upd_ne,ag_eq,ag_ne,result1]
  exact hK _ _ (hk5.trans hkg) (by rw [hval])
 | true =>
  rw [hqp,Bool.true_and] at hval
  repeat refine S.seq ?_
  refine S.cond (v:=false) (by first|rfl|(simp (disch:=first|omega|decide) only [rUz,↓reduceIte,Nat.reduceEqDiff,Nat.reduceAdd,hqp,Bool.not_true] <;> rfl)) (fun e=>by cases e) (fun _=>?_)
  repeat refine S.seq ?_
  refine S.skip ?_
  simp (disch:=first|omega|decide) only [rUz]
  repeat refine S.seq ?_
  refine S.region ?_
  simp (disch:=first|omega|decide) only [rUz,t17]
  refine hn (k + 1) _ _ (by omega) ⟨hk5.trans hkg,?_,?_,?_,?_,?_,by omega,hval⟩
  all_goals (first|rfl|(simp (disch:=first|omega|decide) only [rUz,t1,t2,t15,t16,t17]; done)|(simp (disch:=first|omega|decide) only [rUz,t1,t2,t15,t16,t17]; rfl))

set_option maxHeartbeats 16000000 in
theorem allows_y (S:Ev.Steps Tryz.prog pr R) (hoff:Off pr) (h0:AHeap) (v:Vs) (c:Co) (hc:CoAt h0 v c) (ht:c.tr.length ≤ 7) (ua ub:Value) (a b:List Int) (hua:IAt h0 ua a) (hub:IAt h0 ub b) (hla:(a.length:Int) ≤ 1000000) :
  Brings Tryz.prog R 61 [.agg ⟨coV c.hs v⟩,.agg ⟨[ua,ub]⟩] h0 fun u _=>u = .bool (datedB c a b):=by
 refine brings_of (fn:=Tryz.f61) (c:=(Tryz.f61.body).getD .skip) (by kernel_rfl) rfl (by kernel_rfl) rfl (fun K hK=>?_)
 generalize hF:finish Tryz.prog Tryz.f61 K = KF
 simp only [Tryz.f61,Option.getD_some,argsT,setArgs,fV1_eq,T.setK_eq,id]
 rw [← allows_eq] at hK
 have hK1:∀ h,Kp ((h0.add (coV c.hs v)).add [ua,ub]) h → K (.bool (allowsB c a b)) h = true:=fun h hk=>hK _ _ (Kp.refl.add.add.trans hk) rfl
 clear hK
 repeat refine S.seq ?_
 refine S.region ?_
 simp (disch:=first|omega|decide) only [rUz]
 obtain ⟨B2,hB2⟩:∃ x,x = h0.nx:=⟨_,rfl⟩
 obtain ⟨B3,hB3⟩:∃ x,x = h0.nx + 1:=⟨_,rfl⟩
 have hb2:((h0.add (coV c.hs v)).add [ua,ub]).bl.get B2 = some (.cells (coV c.hs v) B2 false):=by simp (disch:=first|omega|(simp only [nZ] <;> omega)|decide) only [ag_ne]; subst hB2; exact ag_eq rfl
 have hb3:((h0.add (coV c.hs v)).add [ua,ub]).bl.get B3 = some (.cells [ua,ub] B3 false):=by subst hB3; exact ag_eq rfl
 have hk1:Kp h0 ((h0.add (coV c.hs v)).add [ua,ub]):=Kp.refl.add.add
 have hn3:B3 < ((h0.add (coV c.hs v)).add [ua,ub]).nx:=by show B3 < h0.nx + 2; omega
 have h23:B2 < B3:=by omega
 rw [← hB3,← hB2]
 generalize (h0.add (coV c.hs v)).add [ua,ub] = H at hb2 hb3 hk1 hn3 hK1 ⊢
 clear hB2 hB3
 have hcH:=hc.mono hk1
 have haH:=hua.mono hk1
 have hbH:=hub.mono hk1
 unfold allowsB at hK1
 repeat refine S.seq ?_
 refine S.region ?_
 simp (disch:=first|omega|decide) only [rUz,hb2,hb3,fieldAddr_ptr fB2 lcT,fieldAddr_ptr fcU0 lI,qcT,qI,co2]
 refine wr_brings (fid:=81) (first:=#[]) (captured:=#[]) (Post:=fun u _=>u = .bool (eqG soldB c.tr a)) rfl (hoff _ _ _ rfl) (by simp (disch:=first|omega|decide) only [rUz]; exact eqT_y S hoff _ _ _ _ _ hcH.tr haH (by omega) 82 rfl soldB (fun h' x y=>sold_y S hoff h' x y)) ?_
 rintro u g hkg rfl
 simp (disch:=first|omega|decide) only [rUz]
 have hb2g:=(hkg.get (by omega:B2 < H.nx)).trans hb2
 have hb3g:=(hkg.get hn3).trans hb3
 repeat refine S.seq ?_
 refine S.region ?_
 simp (disch:=first|omega|decide) only [rUz,hb2g,hb3g,fieldAddr_ptr fB2 lcT,fieldAddr_ptr fcU1 lI,qcT,qI,co2]
 refine wr_brings (fid:=81) (first:=#[]) (captured:=#[]) (Post:=fun u _=>u = .bool (eqG delB c.tr b)) rfl (hoff _ _ _ rfl) (by simp (disch:=first|omega|decide) only [rUz]; exact eqT_y S hoff _ _ _ _ _ (hcH.mono hkg).tr (hbH.mono hkg) (by omega) 83 rfl delB (fun h' x y=>deliv_y S hoff h' x y)) ?_
 rintro u g2 hkg2 rfl
 simp (disch:=first|omega|decide) only [rUz]
 have hkG:=hkg.trans hkg2
 have hb3g:=(hkG.get hn3).trans hb3
 cases h1:eqG soldB c.tr a with
 | false =>
  rw [h1,Bool.false_and] at hK1
  repeat refine S.seq ?_
  refine S.region ?_
  simp (disch:=first|omega|decide) only [rUz,h1]
  refine S.ret ?_
  try simp only [seqK_ret,blockK_ret]
  subst hF
  simp only [finish,endMarks]
  rw [show Tryz.f61.results.toList = [.tmp 4] from rfl]
  simp (disch:=first|omega|decide) only [resA,ev_tmp,tget_ne,tget_eq,get_ne,get_eq,upd_eq,upd_ne,ag_eq,ag_ne,result1]
  exact hK1 _ hkG
 | true =>
 rw [h1,Bool.true_and] at hK1
 cases h2:eqG delB c.tr b with
 | false =>
  rw [h2,Bool.false_and] at hK1
  repeat refine S.seq ?_
  refine S.region ?_
  simp (disch:=first|omega|decide) only [rUz,h1,h2]
  refine S.ret ?_
  try simp only [seqK_ret,blockK_ret]
  subst hF
  simp only [finish,endMarks]
  rw [show Tryz.f61.results.toList = [.tmp 4] from rfl]
  simp (disch:=first|omega|decide) only [resA,ev_tmp,tget_ne,tget_eq,get_ne,get_eq,upd_eq,upd_ne,ag_eq,ag_ne,result1]
  exact hK1 _ hkG
 | true =>
 rw [h2,Bool.true_and] at hK1
 repeat refine S.seq ?_
 refine S.region ?_
 simp (disch:=first|omega|decide) only [rUz,h1,h2,hb3g,fieldAddr_ptr fcU0 lI,fieldAddr_ptr fcU1 lI,qI]
 refine wr_brings (fid:=84) (first:=#[]) (captured:=#[]) (Post:=fun u _=>u = .bool (eqG ordB a b)) rfl (hoff _ _ _ rfl) (by simp (disch:=first|omega|decide) only [rUz]; exact eqI_y S hoff _ _ _ _ _ (haH.mono hkG) (hbH.mono hkG) hla 85 rfl ordB (fun h' x y=>order_y S h' x y)) ?_
 rintro u g3 hkg3 rfl
 simp (disch:=first|omega|decide) only [rUz]
 refine S.ret ?_
 try simp only [seqK_ret,blockK_ret]
 subst hF
 simp only [finish,endMarks]
 rw [show Tryz.f61.results.toList = [.tmp 4] from rfl]
 simp (disch:=first|omega|decide) only [resA,ev_tmp,tget_ne,tget_eq,get_ne,get_eq,upd_eq,upd_ne,ag_eq,ag_ne,result1]
 exact hK1 _ (hkG.trans hkg3)
end Go.Proofs.Cp
