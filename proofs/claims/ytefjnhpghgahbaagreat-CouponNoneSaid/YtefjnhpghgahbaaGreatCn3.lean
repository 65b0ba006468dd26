import Derived.Test.YtefjnhpghgahbaaGreatCn2
/- lists.All over integers, trades, dividends, splits, ranges. -/
namespace Go.Proofs.Cp
open Go Go.Ev
set_option linter.unusedSimpArgs false

def firstBad {α:Type} (q:α → Bool):List α → Int → Int
 | [],_=>-1
 | a :: r,i=>bif q a then firstBad q r (i + 1) else i
theorem firstBad_ge {α:Type} (q:α → Bool):∀ (l:List α) (i:Int),0 ≤ i → decide (0 ≤ firstBad q l i) = !(l.all q)
 | [],i,_=>by simp [firstBad]
 | a :: r,i,hi=>by
  simp only [firstBad,List.all_cons]
  by_cases hq:q a = true
  ·simp only [hq,cond_true,Bool.true_and]; exact firstBad_ge q r (i + 1) (by omega)
  ·simp only [Bool.eq_false_iff.2 hq,cond_false,Bool.false_and]; simp [hi]
variable {pr:Prim} {R:ExT}
theorem pFI (c:List Value) (o:Nat):partL Tryz.prog 95 c o = c[o]?:=by kernel_rfl
set_option maxHeartbeats 4000000 in
theorem closI_y (S:Ev.Steps Tryz.prog pr R) (hoff:Off pr) (h:AHeap) (Bf f:Nat) (ro:Bool) (G:FuncId) (hG:offB G = true) (first:Array Value) (c:Int) (b:Bool) (hb:h.bl.get Bf = some (.cells [.func (.func G) first #[]] f ro))
  (hq:∀ h',Kp h h' → Brings Tryz.prog R G (first.toList ++ [iv c]) h' fun u _=>u = .bool b) :
  Brings Tryz.prog R 116 [iv c,ptr0 Bf] h fun u _=>u = .bool (!b):=by
 refine brings_of (fn:=Tryz.f116) (c:=(Tryz.f116.body).getD .skip) (by kernel_rfl) rfl (by kernel_rfl) rfl (fun K hK=>?_)
 generalize hF:finish Tryz.prog Tryz.f116 K = KF
 simp only [Tryz.f116,Option.getD_some,argsT,setArgs,fV1_eq,T.setK_eq,id]
 repeat refine S.seq ?_
 refine S.region ?_
 simp (disch:=first|omega|decide) only [rUz]
 repeat refine S.seq ?_
 refine S.region ?_
 simp (disch:=first|omega|decide) only [rUz,hb,pFI]
 refine wr_brings (fid:=G) (first:=first) (captured:=#[]) (Post:=fun u _=>u = .bool b) (by simp (disch:=first|omega|decide) only [rUz]) (hoff _ _ _ hG) (by simp (disch:=first|omega|decide) only [rUz]; exact hq _ Kp.refl) ?_
 rintro u g hk rfl
 simp (disch:=first|omega|decide) only [rUz,un_not]
 refine S.ret ?_
 try simp only [seqK_ret,blockK_ret]
 subst hF
 simp only [finish,endMarks]
 rw [show Tryz.f116.results.toList = [.tmp 3] from rfl]
 simp (disch:=first|omega|decide) only [resA,ev_tmp,tget_ne,tget_eq,get_ne,get_eq,upd_eq,upd_ne,ag_eq,ag_ne,result1]
 exact hK _ _ (hk) rfl

def IXI (q:Int → Bool) (cs:List (Int)) (H:AHeap) (cv fv:Value) (k:Nat) (t:T Value) (h:AHeap):Prop:=
 k ≤ cs.length ∧ firstBad q cs 0 = firstBad q (cs.drop k) k ∧ Kp H h ∧ tget t 0 = cv ∧ tget t 1 = fv ∧ tget t 7 = iv (cs.length:Int) ∧ tget t 8 = iv (k:Int)

set_option maxHeartbeats 4000000 in
theorem idxI_y (S:Ev.Steps Tryz.prog pr R) (hoff:Off pr) (h0:AHeap) (cv:Value) (cs:List (Int)) (hc:IAt h0 cv cs) (hsz:(cs.length:Int) ≤ 1000000) (Bf f:Nat) (ro:Bool) (G:FuncId) (hG:offB G = true) (first:Array Value) (q:Int → Bool) (hlt:Bf < h0.nx) (hb:h0.bl.get Bf = some (.cells [.func (.func G) first #[]] f ro))
  (hq:∀ h',Kp h0 h' → ∀ c,c ∈ cs → Brings Tryz.prog R G (first.toList ++ [iv c]) h' fun u _=>u = .bool (q c)) :
  Brings Tryz.prog R 128 [cv,.func (.func 116) #[] #[ptr0 Bf]] h0 fun u _=>u = iv (firstBad q cs 0):=by
 refine brings_of (fn:=Tryz.f128) (c:=(Tryz.f128.body).getD .skip) (by kernel_rfl) rfl (by kernel_rfl) rfl (fun K hK=>?_)
 generalize hF:finish Tryz.prog Tryz.f128 K = KF
 simp only [Tryz.f128,Option.getD_some,argsT,setArgs,fV1_eq,T.setK_eq,id]
 have hlen:=iv_len hc
 repeat refine S.seq ?_
 refine S.region ?_
 simp (disch:=first|omega|decide) only [rUz]
 repeat refine S.seq ?_
 refine S.region ?_
 simp (disch:=first|omega|decide) only [rUz,hlen]
 repeat refine S.seq ?_
 refine S.block ?_
 refine S.loop (ι:=Nat) (IXI q cs h0 cv (.func (.func 116) #[] #[ptr0 Bf])) (fun k=>cs.length - k) ?_ 0 _ _ ?_
 ·intro k t h ⟨hk,hfb,hkp,t0,t1,t7,t8⟩ K' hn he
  repeat refine S.seq ?_
  refine S.region ?_
  simp (disch:=first|omega|decide) only [rUz,t7,t8]
  repeat refine S.seq ?_
  refine S.cond (v:=decide ((k:Int) < (cs.length:Int))) (by first|rfl|(simp (disch:=first|omega|decide) only [rUz,↓reduceIte,Nat.reduceEqDiff,Nat.reduceAdd] <;> rfl)) (fun e=>?_) (fun e=>?_)
  ·have hkn:k < cs.length:=by have:=of_decide_eq_true e; omega
   clear e
   have hps:cs[k]? = some cs[k]:=List.getElem?_eq_getElem hkn
   have hmem:cs[k] ∈ cs:=List.getElem_mem hkn
   rw [List.drop_eq_getElem_cons hkn] at hfb
   simp only [firstBad] at hfb
   obtain ⟨b,f2,ro2,q1,q2,q3,q4⟩:=(hc.mono hkp).idx slI s3' hkn
   generalize cs[k] = c at hps hmem hfb q4
   have qp:partL Tryz.prog 3 (cs.map iv) k = some (iv c):=by rw [p3]; exact q4
   repeat refine S.seq ?_
   refine S.skip ?_
   simp (disch:=first|omega|decide) only [rUz]
   repeat refine S.seq ?_
   refine S.block ?_
   repeat refine S.seq ?_
   refine S.region ?_
   simp (disch:=first|omega|decide) only [rUz,t8]
   repeat refine S.seq ?_
   refine S.region ?_
   simp (disch:=first|omega|decide) only [rUz,t0,t1,t8,q1,q3,qp]
   refine wr_brings (fid:=116) (first:=#[]) (captured:=#[ptr0 Bf]) (Post:=fun u _=>u = .bool (!(q c))) (by simp (disch:=first|omega|decide) only [rUz,t1]) (hoff _ _ _ rfl) (by simp (disch:=first|omega|decide) only [rUz]; exact closI_y S hoff h Bf f ro G hG first c (q c) ((hkp.get hlt).trans hb) (fun h' hk'=>hq h' (hkp.trans hk') c hmem)) ?_
   rintro u g hk2 rfl
   simp (disch:=first|omega|decide) only [rUz]
   cases hqp:q c with
   | true =>
    rw [hqp,cond_true] at hfb
    repeat refine S.seq ?_
    refine S.cond (v:=false) (by first|rfl|(simp (disch:=first|omega|decide) only [rUz,↓reduceIte,Nat.reduceEqDiff,Nat.reduceAdd,hqp,Bool.not_true] <;> rfl)) (fun e=>by cases e) (fun _=>?_)
    repeat refine S.seq ?_
    refine S.skip ?_
    simp (disch:=first|omega|decide) only [rUz]
    repeat refine S.seq ?_
    refine S.region ?_
    simp (disch:=first|omega|decide) only [rUz,t8]
    refine hn (k + 1) _ _ (by omega) ⟨by omega,hfb,hkp.trans hk2,?_,?_,?_,?_⟩
    all_goals (first|rfl|(simp (disch:=first|omega|decide) only [rUz,t0,t1,t7,t8]; done)|(simp (disch:=first|omega|decide) only [rUz,t0,t1,t7,t8]; rfl))
   | false =>
    rw [hqp,cond_false] at hfb
    repeat refine S.seq ?_
    refine S.cond (v:=true) (by first|rfl|(simp (disch:=first|omega|decide) only [rUz,↓reduceIte,Nat.reduceEqDiff,Nat.reduceAdd,hqp,Bool.not_false] <;> rfl)) (fun _=>?_) (fun e=>by cases e)
    repeat refine S.seq ?_
    refine S.region ?_
    simp (disch:=first|omega|decide) only [rUz,t8]
    refine S.ret ?_
    simp only [seqK_ret,blockK_ret]
    refine he _ _ _ _ (fun e=>by cases e) ?_
    try simp only [seqK_ret,blockK_ret]
    subst hF
    simp only [finish,endMarks]
    rw [show Tryz.f128.results.toList = [.tmp 4] from rfl]
    simp (disch:=first|omega|decide) only [resA,ev_tmp,tget_ne,tget_eq,get_ne,get_eq,upd_eq,upd_ne,ag_eq,ag_ne,result1]
    exact hK _ _ (hkp.trans hk2) (by rw [hfb])
  ·have hkn:k = cs.length:=by have:=of_decide_eq_false e; omega
   subst hkn
   rw [List.drop_of_length_le (Nat.le_refl _)] at hfb
   refine S.exit (he _ _ _ _ (fun e=>by cases e) ?_)
   simp (disch:=first|omega|decide) only [rUz]
   repeat refine S.seq ?_
   refine S.region ?_
   simp (disch:=first|omega|decide) only [rUz]
   refine S.ret ?_
   try simp only [seqK_ret,blockK_ret]
   subst hF
   simp only [finish,endMarks]
   rw [show Tryz.f128.results.toList = [.tmp 4] from rfl]
   simp (disch:=first|omega|decide) only [resA,ev_tmp,tget_ne,tget_eq,get_ne,get_eq,upd_eq,upd_ne,ag_eq,ag_ne,result1]
   exact hK _ _ hkp (by rw [hfb]; rfl)
 ·refine ⟨Nat.zero_le _,rfl,Kp.refl,?_,?_,?_,?_⟩
  all_goals (first|rfl|(simp (disch:=first|omega|decide) only [rUz]; done)|(simp (disch:=first|omega|decide) only [rUz]; rfl))

set_option maxHeartbeats 4000000 in
theorem allI_y (S:Ev.Steps Tryz.prog pr R) (hoff:Off pr) (h0:AHeap) (cv:Value) (cs:List (Int)) (hc:IAt h0 cv cs) (hsz:(cs.length:Int) ≤ 1000000) (G:FuncId) (hG:offB G = true) (first:Array Value) (q:Int → Bool)
  (hq:∀ h',Kp h0 h' → ∀ c,c ∈ cs → Brings Tryz.prog R G (first.toList ++ [iv c]) h' fun u _=>u = .bool (q c)) :
  Brings Tryz.prog R 97 [cv,.func (.func G) first #[]] h0 fun u _=>u = .bool (cs.all q):=by
 refine brings_of (fn:=Tryz.f97) (c:=(Tryz.f97.body).getD .skip) (by kernel_rfl) rfl (by kernel_rfl) rfl (fun K hK=>?_)
 generalize hF:finish Tryz.prog Tryz.f97 K = KF
 simp only [Tryz.f97,Option.getD_some,argsT,setArgs,fV1_eq,T.setK_eq,id]
 repeat refine S.seq ?_
 refine S.region ?_
 simp (disch:=first|omega|decide) only [rUz]
 repeat refine S.seq ?_
 refine S.region ?_
 simp (disch:=first|omega|decide) only [rUz]
 have hidx:=idxI_y S hoff (h0.add [.func (.func G) first #[]]) cv cs (hc.mono Kp.refl.add) hsz h0.nx h0.nx false G hG first q (Nat.lt_succ_self _) (ag_eq rfl) (fun h' hk=>hq h' (Kp.refl.add.trans hk))
 have hcf:Brings Tryz.prog R 115 [cv,.func (.func 116) #[] #[ptr0 h0.nx]] (h0.add [.func (.func G) first #[]]) fun u _=>u = .bool (!(cs.all q)):=by
  clear hK hF K KF
  refine brings_of (fn:=Tryz.f115) (c:=(Tryz.f115.body).getD .skip) (by kernel_rfl) rfl (by kernel_rfl) rfl (fun K hK=>?_)
  generalize hF:finish Tryz.prog Tryz.f115 K = KF
  simp only [Tryz.f115,Option.getD_some,argsT,setArgs,fV1_eq,T.setK_eq,id]
  repeat refine S.seq ?_
  refine S.region ?_
  simp (disch:=first|omega|decide) only [rUz]
  repeat refine S.seq ?_
  refine S.region ?_
  simp (disch:=first|omega|decide) only [rUz]
  refine wr_brings (fid:=128) (first:=#[]) (captured:=#[]) (Post:=fun u _=>u = iv (firstBad q cs 0)) rfl (hoff _ _ _ rfl) (by simp (disch:=first|omega|decide) only [rUz]; exact hidx) ?_
  rintro u g hk rfl
  simp (disch:=first|omega|decide) only [rUz,firstBad_ge q cs 0 (Int.le_refl _)]
  refine S.ret ?_
  try simp only [seqK_ret,blockK_ret]
  subst hF
  simp only [finish,endMarks]
  rw [show Tryz.f115.results.toList = [.tmp 4] from rfl]
  simp (disch:=first|omega|decide) only [resA,ev_tmp,tget_ne,tget_eq,get_ne,get_eq,upd_eq,upd_ne,ag_eq,ag_ne,result1]
  exact hK _ _ hk rfl
 refine wr_brings (fid:=115) (first:=#[]) (captured:=#[]) (Post:=fun u _=>u = .bool (!(cs.all q))) rfl (hoff _ _ _ rfl) (by simp (disch:=first|omega|decide) only [rUz]; exact hcf) ?_
 rintro u g hk rfl
 simp (disch:=first|omega|decide) only [rUz,un_not,Bool.not_not]
 refine S.ret ?_
 try simp only [seqK_ret,blockK_ret]
 subst hF
 simp only [finish,endMarks]
 rw [show Tryz.f97.results.toList = [.tmp 4] from rfl]
 simp (disch:=first|omega|decide) only [resA,ev_tmp,tget_ne,tget_eq,get_ne,get_eq,upd_eq,upd_ne,ag_eq,ag_ne,result1]
 exact hK _ _ (Kp.refl.add.trans hk) rfl

theorem pFcT (c:List Value) (o:Nat):partL Tryz.prog 156 c o = c[o]?:=by kernel_rfl
set_option maxHeartbeats 4000000 in
theorem closcT_y (S:Ev.Steps Tryz.prog pr R) (hoff:Off pr) (h:AHeap) (Bf f:Nat) (ro:Bool) (G:FuncId) (hG:offB G = true) (first:Array Value) (c:Tr) (b:Bool) (hb:h.bl.get Bf = some (.cells [.func (.func G) first #[]] f ro))
  (hq:∀ h',Kp h h' → Brings Tryz.prog R G (first.toList ++ [.agg ⟨c7 c⟩]) h' fun u _=>u = .bool b) (hlt:Bf < h.nx) :
  Brings Tryz.prog R 118 [.agg ⟨c7 c⟩,ptr0 Bf] h fun u _=>u = .bool (!b):=by
 refine brings_of (fn:=Tryz.f118) (c:=(Tryz.f118.body).getD .skip) (by kernel_rfl) rfl (by kernel_rfl) rfl (fun K hK=>?_)
 generalize hF:finish Tryz.prog Tryz.f118 K = KF
 simp only [Tryz.f118,Option.getD_some,argsT,setArgs,fV1_eq,T.setK_eq,id]
 repeat refine S.seq ?_
 refine S.region ?_
 simp (disch:=first|omega|decide) only [rUz]
 have hbx:(h.add (c7 c)).bl.get Bf = some (.cells [.func (.func G) first #[]] f ro):=by rw [ag_ne (by omega)]; exact hb
 repeat refine S.seq ?_
 refine S.region ?_
 simp (disch:=first|omega|decide) only [rUz,hbx,pFcT,part_0 pcT (c7_len c)]
 refine wr_brings (fid:=G) (first:=first) (captured:=#[]) (Post:=fun u _=>u = .bool b) (by simp (disch:=first|omega|decide) only [rUz]) (hoff _ _ _ hG) (by simp (disch:=first|omega|decide) only [rUz]; exact hq _ Kp.refl.add) ?_
 rintro u g hk rfl
 simp (disch:=first|omega|decide) only [rUz,un_not]
 refine S.ret ?_
 try simp only [seqK_ret,blockK_ret]
 subst hF
 simp only [finish,endMarks]
 rw [show Tryz.f118.results.toList = [.tmp 3] from rfl]
 simp (disch:=first|omega|decide) only [resA,ev_tmp,tget_ne,tget_eq,get_ne,get_eq,upd_eq,upd_ne,ag_eq,ag_ne,result1]
 exact hK _ _ (Kp.refl.add.trans hk) rfl

def IXcT (q:Tr → Bool) (cs:List (Tr)) (H:AHeap) (cv fv:Value) (k:Nat) (t:T Value) (h:AHeap):Prop:=
 k ≤ cs.length ∧ firstBad q cs 0 = firstBad q (cs.drop k) k ∧ Kp H h ∧ tget t 0 = cv ∧ tget t 1 = fv ∧ tget t 7 = iv (cs.length:Int) ∧ tget t 8 = iv (k:Int)

set_option maxHeartbeats 4000000 in
theorem idxcT_y (S:Ev.Steps Tryz.prog pr R) (hoff:Off pr) (h0:AHeap) (cv:Value) (cs:List (Tr)) (hc:SlAt h0 7 cv (cs.map c7)) (hsz:(cs.length:Int) ≤ 1000000) (Bf f:Nat) (ro:Bool) (G:FuncId) (hG:offB G = true) (first:Array Value) (q:Tr → Bool) (hlt:Bf < h0.nx) (hb:h0.bl.get Bf = some (.cells [.func (.func G) first #[]] f ro))
  (hq:∀ h',Kp h0 h' → ∀ c,c ∈ cs → Brings Tryz.prog R G (first.toList ++ [.agg ⟨c7 c⟩]) h' fun u _=>u = .bool (q c)) :
  Brings Tryz.prog R 129 [cv,.func (.func 118) #[] #[ptr0 Bf]] h0 fun u _=>u = iv (firstBad q cs 0):=by
 refine brings_of (fn:=Tryz.f129) (c:=(Tryz.f129.body).getD .skip) (by kernel_rfl) rfl (by kernel_rfl) rfl (fun K hK=>?_)
 generalize hF:finish Tryz.prog Tryz.f129 K = KF
 simp only [Tryz.f129,Option.getD_some,argsT,setArgs,fV1_eq,T.setK_eq,id]
 have hlen:=fun t h1 o=>row_len hc iscT t h1 o
 repeat refine S.seq ?_
 refine S.region ?_
 simp (disch:=first|omega|decide) only [rUz]
 repeat refine S.seq ?_
 refine S.region ?_
 simp (disch:=first|omega|decide) only [rUz,hlen]
 repeat refine S.seq ?_
 refine S.block ?_
 refine S.loop (ι:=Nat) (IXcT q cs h0 cv (.func (.func 118) #[] #[ptr0 Bf])) (fun k=>cs.length - k) ?_ 0 _ _ ?_
 ·intro k t h ⟨hk,hfb,hkp,t0,t1,t7,t8⟩ K' hn he
  repeat refine S.seq ?_
  refine S.region ?_
  simp (disch:=first|omega|decide) only [rUz,t7,t8]
  repeat refine S.seq ?_
  refine S.cond (v:=decide ((k:Int) < (cs.length:Int))) (by first|rfl|(simp (disch:=first|omega|decide) only [rUz,↓reduceIte,Nat.reduceEqDiff,Nat.reduceAdd] <;> rfl)) (fun e=>?_) (fun e=>?_)
  ·have hkn:k < cs.length:=by have:=of_decide_eq_true e; omega
   clear e
   have hps:cs[k]? = some cs[k]:=List.getElem?_eq_getElem hkn
   have hmem:cs[k] ∈ cs:=List.getElem_mem hkn
   rw [List.drop_eq_getElem_cons hkn] at hfb
   simp only [firstBad] at hfb
   generalize cs[k] = c at hps hmem hfb
   obtain ⟨b,f2,ro2,cells,q1,q2,q3,q4,q5,_⟩:=row_idx (SlAt.mono hc hkp) slcT scT hps
   have qp:=part_at pcT q4 q5
   repeat refine S.seq ?_
   refine S.skip ?_
   simp (disch:=first|omega|decide) only [rUz]
   repeat refine S.seq ?_
   refine S.block ?_
   repeat refine S.seq ?_
   refine S.region ?_
   simp (disch:=first|omega|decide) only [rUz,t8]
   repeat refine S.seq ?_
   refine S.region ?_
   simp (disch:=first|omega|decide) only [rUz,t0,t1,t8,q1,q3,qp]
   refine wr_brings (fid:=118) (first:=#[]) (captured:=#[ptr0 Bf]) (Post:=fun u _=>u = .bool (!(q c))) (by simp (disch:=first|omega|decide) only [rUz,t1]) (hoff _ _ _ rfl) (by simp (disch:=first|omega|decide) only [rUz]; exact closcT_y S hoff h Bf f ro G hG first c (q c) ((hkp.get hlt).trans hb) (fun h' hk'=>hq h' (hkp.trans hk') c hmem) (Nat.lt_of_lt_of_le hlt hkp.1)) ?_
   rintro u g hk2 rfl
   simp (disch:=first|omega|decide) only [rUz]
   cases hqp:q c with
   | true =>
    rw [hqp,cond_true] at hfb
    repeat refine S.seq ?_
    refine S.cond (v:=false) (by first|rfl|(simp (disch:=first|omega|decide) only [rUz,↓reduceIte,Nat.reduceEqDiff,Nat.reduceAdd,hqp,Bool.not_true] <;> rfl)) (fun e=>by cases e) (fun _=>?_)
    repeat refine S.seq ?_
    refine S.skip ?_
    simp (disch:=first|omega|decide) only [rUz]
    repeat refine S.seq ?_
    refine S.region ?_
    simp (disch:=first|omega|decide) only [rUz,t8]
    refine hn (k + 1) _ _ (by omega) ⟨by omega,hfb,hkp.trans hk2,?_,?_,?_,?_⟩
    all_goals (first|rfl|(simp (disch:=first|omega|decide) only [rUz,t0,t1,t7,t8]; done)|(simp (disch:=first|omega|decide) only [rUz,t0,t1,t7,t8]; rfl))
   | false =>
    rw [hqp,cond_false] at hfb
    repeat refine S.seq ?_
    refine S.cond (v:=true) (by first|rfl|(simp (disch:=first|omega|decide) only [rUz,↓reduceIte,Nat.reduceEqDiff,Nat.reduceAdd,hqp,Bool.not_false] <;> rfl)) (fun _=>?_) (fun e=>by cases e)
    repeat refine S.seq ?_
    refine S.region ?_
    simp (disch:=first|omega|decide) only [rUz,t8]
    refine S.ret ?_
    simp only [seqK_ret,blockK_ret]
    refine he _ _ _ _ (fun e=>by cases e) ?_
    try simp only [seqK_ret,blockK_ret]
    subst hF
    simp only [finish,endMarks]
    rw [show Tryz.f129.results.toList = [.tmp 4] from rfl]
    simp (disch:=first|omega|decide) only [resA,ev_tmp,tget_ne,tget_eq,get_ne,get_eq,upd_eq,upd_ne,ag_eq,ag_ne,result1]
    exact hK _ _ (hkp.trans hk2) (by rw [hfb])
  ·have hkn:k = cs.length:=by have:=of_decide_eq_false e; omega
   subst hkn
   rw [List.drop_of_length_le (Nat.le_refl _)] at hfb
   refine S.exit (he _ _ _ _ (fun e=>by cases e) ?_)
   simp (disch:=first|omega|decide) only [rUz]
   repeat refine S.seq ?_
   refine S.region ?_
   simp (disch:=first|omega|decide) only [rUz]
   refine S.ret ?_
   try simp only [seqK_ret,blockK_ret]
   subst hF
   simp only [finish,endMarks]
   rw [show Tryz.f129.results.toList = [.tmp 4] from rfl]
   simp (disch:=first|omega|decide) only [resA,ev_tmp,tget_ne,tget_eq,get_ne,get_eq,upd_eq,upd_ne,ag_eq,ag_ne,result1]
   exact hK _ _ hkp (by rw [hfb]; rfl)
 ·refine ⟨Nat.zero_le _,rfl,Kp.refl,?_,?_,?_,?_⟩
  all_goals (first|rfl|(simp (disch:=first|omega|decide) only [rUz]; done)|(simp (disch:=first|omega|decide) only [rUz]; rfl))

set_option maxHeartbeats 4000000 in
theorem allcT_y (S:Ev.Steps Tryz.prog pr R) (hoff:Off pr) (h0:AHeap) (cv:Value) (cs:List (Tr)) (hc:SlAt h0 7 cv (cs.map c7)) (hsz:(cs.length:Int) ≤ 1000000) (G:FuncId) (hG:offB G = true) (first:Array Value) (q:Tr → Bool)
  (hq:∀ h',Kp h0 h' → ∀ c,c ∈ cs → Brings Tryz.prog R G (first.toList ++ [.agg ⟨c7 c⟩]) h' fun u _=>u = .bool (q c)) :
  Brings Tryz.prog R 99 [cv,.func (.func G) first #[]] h0 fun u _=>u = .bool (cs.all q):=by
 refine brings_of (fn:=Tryz.f99) (c:=(Tryz.f99.body).getD .skip) (by kernel_rfl) rfl (by kernel_rfl) rfl (fun K hK=>?_)
 generalize hF:finish Tryz.prog Tryz.f99 K = KF
 simp only [Tryz.f99,Option.getD_some,argsT,setArgs,fV1_eq,T.setK_eq,id]
 repeat refine S.seq ?_
 refine S.region ?_
 simp (disch:=first|omega|decide) only [rUz]
 repeat refine S.seq ?_
 refine S.region ?_
 simp (disch:=first|omega|decide) only [rUz]
 have hidx:=idxcT_y S hoff (h0.add [.func (.func G) first #[]]) cv cs (SlAt.mono hc Kp.refl.add) hsz h0.nx h0.nx false G hG first q (Nat.lt_succ_self _) (ag_eq rfl) (fun h' hk=>hq h' (Kp.refl.add.trans hk))
 have hcf:Brings Tryz.prog R 117 [cv,.func (.func 118) #[] #[ptr0 h0.nx]] (h0.add [.func (.func G) first #[]]) fun u _=>u = .bool (!(cs.all q)):=by
  clear hK hF K KF
  refine brings_of (fn:=Tryz.f117) (c:=(Tryz.f117.body).getD .skip) (by kernel_rfl) rfl (by kernel_rfl) rfl (fun K hK=>?_)
  generalize hF:finish Tryz.prog Tryz.f117 K = KF
  simp only [Tryz.f117,Option.getD_some,argsT,setArgs,fV1_eq,T.setK_eq,id]
  repeat refine S.seq ?_
  refine S.region ?_
  simp (disch:=first|omega|decide) only [rUz]
  repeat refine S.seq ?_
  refine S.region ?_
  simp (disch:=first|omega|decide) only [rUz]
  refine wr_brings (fid:=129) (first:=#[]) (captured:=#[]) (Post:=fun u _=>u = iv (firstBad q cs 0)) rfl (hoff _ _ _ rfl) (by simp (disch:=first|omega|decide) only [rUz]; exact hidx) ?_
  rintro u g hk rfl
  simp (disch:=first|omega|decide) only [rUz,firstBad_ge q cs 0 (Int.le_refl _)]
  refine S.ret ?_
  try simp only [seqK_ret,blockK_ret]
  subst hF
  simp only [finish,endMarks]
  rw [show Tryz.f117.results.toList = [.tmp 4] from rfl]
  simp (disch:=first|omega|decide) only [resA,ev_tmp,tget_ne,tget_eq,get_ne,get_eq,upd_eq,upd_ne,ag_eq,ag_ne,result1]
  exact hK _ _ hk rfl
 refine wr_brings (fid:=117) (first:=#[]) (captured:=#[]) (Post:=fun u _=>u = .bool (!(cs.all q))) rfl (hoff _ _ _ rfl) (by simp (disch:=first|omega|decide) only [rUz]; exact hcf) ?_
 rintro u g hk rfl
 simp (disch:=first|omega|decide) only [rUz,un_not,Bool.not_not]
 refine S.ret ?_
 try simp only [seqK_ret,blockK_ret]
 subst hF
 simp only [finish,endMarks]
 rw [show Tryz.f99.results.toList = [.tmp 4] from rfl]
 simp (disch:=first|omega|decide) only [resA,ev_tmp,tget_ne,tget_eq,get_ne,get_eq,upd_eq,upd_ne,ag_eq,ag_ne,result1]
 exact hK _ _ (Kp.refl.add.trans hk) rfl

theorem pFcD (c:List Value) (o:Nat):partL Tryz.prog 158 c o = c[o]?:=by kernel_rfl
set_option maxHeartbeats 4000000 in
theorem closcD_y (S:Ev.Steps Tryz.prog pr R) (hoff:Off pr) (h:AHeap) (Bf f:Nat) (ro:Bool) (G:FuncId) (hG:offB G = true) (first:Array Value) (c:T3) (b:Bool) (hb:h.bl.get Bf = some (.cells [.func (.func G) first #[]] f ro))
  (hq:∀ h',Kp h h' → Brings Tryz.prog R G (first.toList ++ [.agg ⟨c3 c⟩]) h' fun u _=>u = .bool b) (hlt:Bf < h.nx) :
  Brings Tryz.prog R 123 [.agg ⟨c3 c⟩,ptr0 Bf] h fun u _=>u = .bool (!b):=by
 refine brings_of (fn:=Tryz.f123) (c:=(Tryz.f123.body).getD .skip) (by kernel_rfl) rfl (by kernel_rfl) rfl (fun K hK=>?_)
 generalize hF:finish Tryz.prog Tryz.f123 K = KF
 simp only [Tryz.f123,Option.getD_some,argsT,setArgs,fV1_eq,T.setK_eq,id]
 repeat refine S.seq ?_
 refine S.region ?_
 simp (disch:=first|omega|decide) only [rUz]
 have hbx:(h.add (c3 c)).bl.get Bf = some (.cells [.func (.func G) first #[]] f ro):=by rw [ag_ne (by omega)]; exact hb
 repeat refine S.seq ?_
 refine S.region ?_
 simp (disch:=first|omega|decide) only [rUz,hbx,pFcD,part_0 pcD (c3_len c)]
 refine wr_brings (fid:=G) (first:=first) (captured:=#[]) (Post:=fun u _=>u = .bool b) (by simp (disch:=first|omega|decide) only [rUz]) (hoff _ _ _ hG) (by simp (disch:=first|omega|decide) only [rUz]; exact hq _ Kp.refl.add) ?_
 rintro u g hk rfl
 simp (disch:=first|omega|decide) only [rUz,un_not]
 refine S.ret ?_
 try simp only [seqK_ret,blockK_ret]
 subst hF
 simp only [finish,endMarks]
 rw [show Tryz.f123.results.toList = [.tmp 3] from rfl]
 simp (disch:=first|omega|decide) only [resA,ev_tmp,tget_ne,tget_eq,get_ne,get_eq,upd_eq,upd_ne,ag_eq,ag_ne,result1]
 exact hK _ _ (Kp.refl.add.trans hk) rfl

def IXcD (q:T3 → Bool) (cs:List (T3)) (H:AHeap) (cv fv:Value) (k:Nat) (t:T Value) (h:AHeap):Prop:=
 k ≤ cs.length ∧ firstBad q cs 0 = firstBad q (cs.drop k) k ∧ Kp H h ∧ tget t 0 = cv ∧ tget t 1 = fv ∧ tget t 7 = iv (cs.length:Int) ∧ tget t 8 = iv (k:Int)

set_option maxHeartbeats 4000000 in
theorem idxcD_y (S:Ev.Steps Tryz.prog pr R) (hoff:Off pr) (h0:AHeap) (cv:Value) (cs:List (T3)) (hc:SlAt h0 3 cv (cs.map c3)) (hsz:(cs.length:Int) ≤ 1000000) (Bf f:Nat) (ro:Bool) (G:FuncId) (hG:offB G = true) (first:Array Value) (q:T3 → Bool) (hlt:Bf < h0.nx) (hb:h0.bl.get Bf = some (.cells [.func (.func G) first #[]] f ro))
  (hq:∀ h',Kp h0 h' → ∀ c,c ∈ cs → Brings Tryz.prog R G (first.toList ++ [.agg ⟨c3 c⟩]) h' fun u _=>u = .bool (q c)) :
  Brings Tryz.prog R 130 [cv,.func (.func 123) #[] #[ptr0 Bf]] h0 fun u _=>u = iv (firstBad q cs 0):=by
 refine brings_of (fn:=Tryz.f130) (c:=(Tryz.f130.body).getD .skip) (by kernel_rfl) rfl (by kernel_rfl) rfl (fun K hK=>?_)
 generalize hF:finish Tryz.prog Tryz.f130 K = KF
 simp only [Tryz.f130,Option.getD_some,argsT,setArgs,fV1_eq,T.setK_eq,id]
 have hlen:=fun t h1 o=>row_len hc iscD t h1 o
 repeat refine S.seq ?_
 refine S.region ?_
 simp (disch:=first|omega|decide) only [rUz]
 repeat refine S.seq ?_
 refine S.region ?_
 simp (disch:=first|omega|decide) only [rUz,hlen]
 repeat refine S.seq ?_
 refine S.block ?_
 refine S.loop (ι:=Nat) (IXcD q cs h0 cv (.func (.func 123) #[] #[ptr0 Bf])) (fun k=>cs.length - k) ?_ 0 _ _ ?_
 ·intro k t h ⟨hk,hfb,hkp,t0,t1,t7,t8⟩ K' hn he
  repeat refine S.seq ?_
  refine S.region ?_
  simp (disch:=first|omega|decide) only [rUz,t7,t8]
  repeat refine S.seq ?_
  refine S.cond (v:=decide ((k:Int) < (cs.length:Int))) (by first|rfl|(simp (disch:=first|omega|decide) only [rUz,↓reduceIte,Nat.reduceEqDiff,Nat.reduceAdd] <;> rfl)) (fun e=>?_) (fun e=>?_)
  ·have hkn:k < cs.length:=by have:=of_decide_eq_true e; omega
   clear e
   have hps:cs[k]? = some cs[k]:=List.getElem?_eq_getElem hkn
   have hmem:cs[k] ∈ cs:=List.getElem_mem hkn
   rw [List.drop_eq_getElem_cons hkn] at hfb
   simp only [firstBad] at hfb
   generalize cs[k] = c at hps hmem hfb
   obtain ⟨b,f2,ro2,cells,q1,q2,q3,q4,q5,_⟩:=row_idx (SlAt.mono hc hkp) slcD scD hps
   have qp:=part_at pcD q4 q5
   repeat refine S.seq ?_
   refine S.skip ?_
   simp (disch:=first|omega|decide) only [rUz]
   repeat refine S.seq ?_
   refine S.block ?_
   repeat refine S.seq ?_
   refine S.region ?_
   simp (disch:=first|omega|decide) only [rUz,t8]
   repeat refine S.seq ?_
   refine S.region ?_
   simp (disch:=first|omega|decide) only [rUz,t0,t1,t8,q1,q3,qp]
   refine wr_brings (fid:=123) (first:=#[]) (captured:=#[ptr0 Bf]) (Post:=fun u _=>u = .bool (!(q c))) (by simp (disch:=first|omega|decide) only [rUz,t1]) (hoff _ _ _ rfl) (by simp (disch:=first|omega|decide) only [rUz]; exact closcD_y S hoff h Bf f ro G hG first c (q c) ((hkp.get hlt).trans hb) (fun h' hk'=>hq h' (hkp.trans hk') c hmem) (Nat.lt_of_lt_of_le hlt hkp.1)) ?_
   rintro u g hk2 rfl
   simp (disch:=first|omega|decide) only [rUz]
   cases hqp:q c with
   | true =>
    rw [hqp,cond_true] at hfb
    repeat refine S.seq ?_
    refine S.cond (v:=false) (by first|rfl|(simp (disch:=first|omega|decide) only [rUz,↓reduceIte,Nat.reduceEqDiff,Nat.reduceAdd,hqp,Bool.not_true] <;> rfl)) (fun e=>by cases e) (fun _=>?_)
    repeat refine S.seq ?_
    refine S.skip ?_
    simp (disch:=first|omega|decide) only [rUz]
    repeat refine S.seq ?_
    refine S.region ?_
    simp (disch:=first|omega|decide) only [rUz,t8]
    refine hn (k + 1) _ _ (by omega) ⟨by omega,hfb,hkp.trans hk2,?_,?_,?_,?_⟩
    all_goals (first|rfl|(simp (disch:=first|omega|decide) only [rUz,t0,t1,t7,t8]; done)|(simp (disch:=first|omega|decide) only [rUz,t0,t1,t7,t8]; rfl))
   | false =>
    rw [hqp,cond_false] at hfb
    repeat refine S.seq ?_
    refine S.cond (v:=true) (by first|rfl|(simp (disch:=first|omega|decide) only [rUz,↓reduceIte,Nat.reduceEqDiff,Nat.reduceAdd,hqp,Bool.not_false] <;> rfl)) (fun _=>?_) (fun e=>by cases e)
    repeat refine S.seq ?_
    refine S.region ?_
    simp (disch:=first|omega|decide) only [rUz,t8]
    refine S.ret ?_
    simp only [seqK_ret,blockK_ret]
    refine he _ _ _ _ (fun e=>by cases e) ?_
    try simp only [seqK_ret,blockK_ret]
    subst hF
    simp only [finish,endMarks]
    rw [show Tryz.f130.results.toList = [.tmp 4] from rfl]
    simp (disch:=first|omega|decide) only [resA,ev_tmp,tget_ne,tget_eq,get_ne,get_eq,upd_eq,upd_ne,ag_eq,ag_ne,result1]
    exact hK _ _ (hkp.trans hk2) (by rw [hfb])
  ·have hkn:k = cs.length:=by have:=of_decide_eq_false e; omega
   subst hkn
   rw [List.drop_of_length_le (Nat.le_refl _)] at hfb
   refine S.exit (he _ _ _ _ (fun e=>by cases e) ?_)
   simp (disch:=first|omega|decide) only [rUz]
   repeat refine S.seq ?_
   refine S.region ?_
   simp (disch:=first|omega|decide) only [rUz]
   refine S.ret ?_
   try simp only [seqK_ret,blockK_ret]
   subst hF
   simp only [finish,endMarks]
   rw [show Tryz.f130.results.toList = [.tmp 4] from rfl]
   simp (disch:=first|omega|decide) only [resA,ev_tmp,tget_ne,tget_eq,get_ne,get_eq,upd_eq,upd_ne,ag_eq,ag_ne,result1]
   exact hK _ _ hkp (by rw [hfb]; rfl)
 ·refine ⟨Nat.zero_le _,rfl,Kp.refl,?_,?_,?_,?_⟩
  all_goals (first|rfl|(simp (disch:=first|omega|decide) only [rUz]; done)|(simp (disch:=first|omega|decide) only [rUz]; rfl))

set_option maxHeartbeats 4000000 in
theorem allcD_y (S:Ev.Steps Tryz.prog pr R) (hoff:Off pr) (h0:AHeap) (cv:Value) (cs:List (T3)) (hc:SlAt h0 3 cv (cs.map c3)) (hsz:(cs.length:Int) ≤ 1000000) (G:FuncId) (hG:offB G = true) (first:Array Value) (q:T3 → Bool)
  (hq:∀ h',Kp h0 h' → ∀ c,c ∈ cs → Brings Tryz.prog R G (first.toList ++ [.agg ⟨c3 c⟩]) h' fun u _=>u = .bool (q c)) :
  Brings Tryz.prog R 103 [cv,.func (.func G) first #[]] h0 fun u _=>u = .bool (cs.all q):=by
 refine brings_of (fn:=Tryz.f103) (c:=(Tryz.f103.body).getD .skip) (by kernel_rfl) rfl (by kernel_rfl) rfl (fun K hK=>?_)
 generalize hF:finish Tryz.prog Tryz.f103 K = KF
 simp only [Tryz.f103,Option.getD_some,argsT,setArgs,fV1_eq,T.setK_eq,id]
 repeat refine S.seq ?_
 refine S.region ?_
 simp (disch:=first|omega|decide) only [rUz]
 repeat refine S.seq ?_
 refine S.region ?_
 simp (disch:=first|omega|decide) only [rUz]
 have hidx:=idxcD_y S hoff (h0.add [.func (.func G) first #[]]) cv cs (SlAt.mono hc Kp.refl.add) hsz h0.nx h0.nx false G hG first q (Nat.lt_succ_self _) (ag_eq rfl) (fun h' hk=>hq h' (Kp.refl.add.trans hk))
 have hcf:Brings Tryz.prog R 122 [cv,.func (.func 123) #[] #[ptr0 h0.nx]] (h0.add [.func (.func G) first #[]]) fun u _=>u = .bool (!(cs.all q)):=by
  clear hK hF K KF
  refine brings_of (fn:=Tryz.f122) (c:=(Tryz.f122.body).getD .skip) (by kernel_rfl) rfl (by kernel_rfl) rfl (fun K hK=>?_)
  generalize hF:finish Tryz.prog Tryz.f122 K = KF
  simp only [Tryz.f122,Option.getD_some,argsT,setArgs,fV1_eq,T.setK_eq,id]
  repeat refine S.seq ?_
  refine S.region ?_
  simp (disch:=first|omega|decide) only [rUz]
  repeat refine S.seq ?_
  refine S.region ?_
  simp (disch:=first|omega|decide) only [rUz]
  refine wr_brings (fid:=130) (first:=#[]) (captured:=#[]) (Post:=fun u _=>u = iv (firstBad q cs 0)) rfl (hoff _ _ _ rfl) (by simp (disch:=first|omega|decide) only [rUz]; exact hidx) ?_
  rintro u g hk rfl
  simp (disch:=first|omega|decide) only [rUz,firstBad_ge q cs 0 (Int.le_refl _)]
  refine S.ret ?_
  try simp only [seqK_ret,blockK_ret]
  subst hF
  simp only [finish,endMarks]
  rw [show Tryz.f122.results.toList = [.tmp 4] from rfl]
  simp (disch:=first|omega|decide) only [resA,ev_tmp,tget_ne,tget_eq,get_ne,get_eq,upd_eq,upd_ne,ag_eq,ag_ne,result1]
  exact hK _ _ hk rfl
 refine wr_brings (fid:=122) (first:=#[]) (captured:=#[]) (Post:=fun u _=>u = .bool (!(cs.all q))) rfl (hoff _ _ _ rfl) (by simp (disch:=first|omega|decide) only [rUz]; exact hcf) ?_
 rintro u g hk rfl
 simp (disch:=first|omega|decide) only [rUz,un_not,Bool.not_not]
 refine S.ret ?_
 try simp only [seqK_ret,blockK_ret]
 subst hF
 simp only [finish,endMarks]
 rw [show Tryz.f103.results.toList = [.tmp 4] from rfl]
 simp (disch:=first|omega|decide) only [resA,ev_tmp,tget_ne,tget_eq,get_ne,get_eq,upd_eq,upd_ne,ag_eq,ag_ne,result1]
 exact hK _ _ (Kp.refl.add.trans hk) rfl

theorem pFcS (c:List Value) (o:Nat):partL Tryz.prog 160 c o = c[o]?:=by kernel_rfl
set_option maxHeartbeats 4000000 in
theorem closcS_y (S:Ev.Steps Tryz.prog pr R) (hoff:Off pr) (h:AHeap) (Bf f:Nat) (ro:Bool) (G:FuncId) (hG:offB G = true) (first:Array Value) (c:T3) (b:Bool) (hb:h.bl.get Bf = some (.cells [.func (.func G) first #[]] f ro))
  (hq:∀ h',Kp h h' → Brings Tryz.prog R G (first.toList ++ [.agg ⟨c3 c⟩]) h' fun u _=>u = .bool b) (hlt:Bf < h.nx) :
  Brings Tryz.prog R 125 [.agg ⟨c3 c⟩,ptr0 Bf] h fun u _=>u = .bool (!b):=by
 refine brings_of (fn:=Tryz.f125) (c:=(Tryz.f125.body).getD .skip) (by kernel_rfl) rfl (by kernel_rfl) rfl (fun K hK=>?_)
 generalize hF:finish Tryz.prog Tryz.f125 K = KF
 simp only [Tryz.f125,Option.getD_some,argsT,setArgs,fV1_eq,T.setK_eq,id]
 repeat refine S.seq ?_
 refine S.region ?_
 simp (disch:=first|omega|decide) only [rUz]
 have hbx:(h.add (c3 c)).bl.get Bf = some (.cells [.func (.func G) first #[]] f ro):=by rw [ag_ne (by omega)]; exact hb
 repeat refine S.seq ?_
 refine S.region ?_
 simp (disch:=first|omega|decide) only [rUz,hbx,pFcS,part_0 pcS (c3_len c)]
 refine wr_brings (fid:=G) (first:=first) (captured:=#[]) (Post:=fun u _=>u = .bool b) (by simp (disch:=first|omega|decide) only [rUz]) (hoff _ _ _ hG) (by simp (disch:=first|omega|decide) only [rUz]; exact hq _ Kp.refl.add) ?_
 rintro u g hk rfl
 simp (disch:=first|omega|decide) only [rUz,un_not]
 refine S.ret ?_
 try simp only [seqK_ret,blockK_ret]
 subst hF
 simp only [finish,endMarks]
 rw [show Tryz.f125.results.toList = [.tmp 3] from rfl]
 simp (disch:=first|omega|decide) only [resA,ev_tmp,tget_ne,tget_eq,get_ne,get_eq,upd_eq,upd_ne,ag_eq,ag_ne,result1]
 exact hK _ _ (Kp.refl.add.trans hk) rfl

def IXcS (q:T3 → Bool) (cs:List (T3)) (H:AHeap) (cv fv:Value) (k:Nat) (t:T Value) (h:AHeap):Prop:=
 k ≤ cs.length ∧ firstBad q cs 0 = firstBad q (cs.drop k) k ∧ Kp H h ∧ tget t 0 = cv ∧ tget t 1 = fv ∧ tget t 7 = iv (cs.length:Int) ∧ tget t 8 = iv (k:Int)

set_option maxHeartbeats 4000000 in
theorem idxcS_y (S:Ev.Steps Tryz.prog pr R) (hoff:Off pr) (h0:AHeap) (cv:Value) (cs:List (T3)) (hc:SlAt h0 3 cv (cs.map c3)) (hsz:(cs.length:Int) ≤ 1000000) (Bf f:Nat) (ro:Bool) (G:FuncId) (hG:offB G = true) (first:Array Value) (q:T3 → Bool) (hlt:Bf < h0.nx) (hb:h0.bl.get Bf = some (.cells [.func (.func G) first #[]] f ro))
  (hq:∀ h',Kp h0 h' → ∀ c,c ∈ cs → Brings Tryz.prog R G (first.toList ++ [.agg ⟨c3 c⟩]) h' fun u _=>u = .bool (q c)) :
  Brings Tryz.prog R 131 [cv,.func (.func 125) #[] #[ptr0 Bf]] h0 fun u _=>u = iv (firstBad q cs 0):=by
 refine brings_of (fn:=Tryz.f131) (c:=(Tryz.f131.body).getD .skip) (by kernel_rfl) rfl (by kernel_rfl) rfl (fun K hK=>?_)
 generalize hF:finish Tryz.prog Tryz.f131 K = KF
 simp only [Tryz.f131,Option.getD_some,argsT,setArgs,fV1_eq,T.setK_eq,id]
 have hlen:=fun t h1 o=>row_len hc iscS t h1 o
 repeat refine S.seq ?_
 refine S.region ?_
 simp (disch:=first|omega|decide) only [rUz]
 repeat refine S.seq ?_
 refine S.region ?_
 simp (disch:=first|omega|decide) only [rUz,hlen]
 repeat refine S.seq ?_
 refine S.block ?_
 refine S.loop (ι:=Nat) (IXcS q cs h0 cv (.func (.func 125) #[] #[ptr0 Bf])) (fun k=>cs.length - k) ?_ 0 _ _ ?_
 ·intro k t h ⟨hk,hfb,hkp,t0,t1,t7,t8⟩ K' hn he
  repeat refine S.seq ?_
  refine S.region ?_
  simp (disch:=first|omega|decide) only [rUz,t7,t8]
  repeat refine S.seq ?_
  refine S.cond (v:=decide ((k:Int) < (cs.length:Int))) (by first|rfl|(simp (disch:=first|omega|decide) only [rUz,↓reduceIte,Nat.reduceEqDiff,Nat.reduceAdd] <;> rfl)) (fun e=>?_) (fun e=>?_)
  ·have hkn:k < cs.length:=by have:=of_decide_eq_true e; omega
   clear e
   have hps:cs[k]? = some cs[k]:=List.getElem?_eq_getElem hkn
   have hmem:cs[k] ∈ cs:=List.getElem_mem hkn
   rw [List.drop_eq_getElem_cons hkn] at hfb
   simp only [firstBad] at hfb
   generalize cs[k] = c at hps hmem hfb
   obtain ⟨b,f2,ro2,cells,q1,q2,q3,q4,q5,_⟩:=row_idx (SlAt.mono hc hkp) slcS scS hps
   have qp:=part_at pcS q4 q5
   repeat refine S.seq ?_
   refine S.skip ?_
   simp (disch:=first|omega|decide) only [rUz]
   repeat refine S.seq ?_
   refine S.block ?_
   repeat refine S.seq ?_
   refine S.region ?_
   simp (disch:=first|omega|decide) only [rUz,t8]
   repeat refine S.seq ?_
   refine S.region ?_
   simp (disch:=first|omega|decide) only [rUz,t0,t1,t8,q1,q3,qp]
   refine wr_brings (fid:=125) (first:=#[]) (captured:=#[ptr0 Bf]) (Post:=fun u _=>u = .bool (!(q c))) (by simp (disch:=first|omega|decide) only [rUz,t1]) (hoff _ _ _ rfl) (by simp (disch:=first|omega|decide) only [rUz]; exact closcS_y S hoff h Bf f ro G hG first c (q c) ((hkp.get hlt).trans hb) (fun h' hk'=>hq h' (hkp.trans hk') c hmem) (Nat.lt_of_lt_of_le hlt hkp.1)) ?_
   rintro u g hk2 rfl
   simp (disch:=first|omega|decide) only [rUz]
   cases hqp:q c with
   | true =>
    rw [hqp,cond_true] at hfb
    repeat refine S.seq ?_
    refine S.cond (v:=false) (by first|rfl|(simp (disch:=first|omega|decide) only [rUz,↓reduceIte,Nat.reduceEqDiff,Nat.reduceAdd,hqp,Bool.not_true] <;> rfl)) (fun e=>by cases e) (fun _=>?_)
    repeat refine S.seq ?_
    refine S.skip ?_
    simp (disch:=first|omega|decide) only [rUz]
    repeat refine S.seq ?_
    refine S.region ?_
    simp (disch:=first|omega|decide) only [rUz,t8]
    refine hn (k + 1) _ _ (by omega) ⟨by omega,hfb,hkp.trans hk2,?_,?_,?_,?_⟩
    all_goals (first|rfl|(simp (disch:=first|omega|decide) only [rUz,t0,t1,t7,t8]; done)|(simp (disch:=first|omega|decide) only [rUz,t0,t1,t7,t8]; rfl))
   | false =>
    rw [hqp,cond_false] at hfb
    repeat refine S.seq ?_
    refine S.cond (v:=true) (by first|rfl|(simp (disch:=first|omega|decide) only [rUz,↓reduceIte,Nat.reduceEqDiff,Nat.reduceAdd,hqp,Bool.not_false] <;> rfl)) (fun _=>?_) (fun e=>by cases e)
    repeat refine S.seq ?_
    refine S.region ?_
    simp (disch:=first|omega|decide) only [rUz,t8]
    refine S.ret ?_
    simp only [seqK_ret,blockK_ret]
    refine he _ _ _ _ (fun e=>by cases e) ?_
    try simp only [seqK_ret,blockK_ret]
    subst hF
    simp only [finish,endMarks]
    rw [show Tryz.f131.results.toList = [.tmp 4] from rfl]
    simp (disch:=first|omega|decide) only [resA,ev_tmp,tget_ne,tget_eq,get_ne,get_eq,upd_eq,upd_ne,ag_eq,ag_ne,result1]
    exact hK _ _ (hkp.trans hk2) (by rw [hfb])
  ·have hkn:k = cs.length:=by have:=of_decide_eq_false e; omega
   subst hkn
   rw [List.drop_of_length_le (Nat.le_refl _)] at hfb
   refine S.exit (he _ _ _ _ (fun e=>by cases e) ?_)
   simp (disch:=first|omega|decide) only [rUz]
   repeat refine S.seq ?_
   refine S.region ?_
   simp (disch:=first|omega|decide) only [rUz]
   refine S.ret ?_
   try simp only [seqK_ret,blockK_ret]
   subst hF
   simp only [finish,endMarks]
   rw [show Tryz.f131.results.toList = [.tmp 4] from rfl]
   simp (disch:=first|omega|decide) only [resA,ev_tmp,tget_ne,tget_eq,get_ne,get_eq,upd_eq,upd_ne,ag_eq,ag_ne,result1]
   exact hK _ _ hkp (by rw [hfb]; rfl)
 ·refine ⟨Nat.zero_le _,rfl,Kp.refl,?_,?_,?_,?_⟩
  all_goals (first|rfl|(simp (disch:=first|omega|decide) only [rUz]; done)|(simp (disch:=first|omega|decide) only [rUz]; rfl))

set_option maxHeartbeats 4000000 in
theorem allcS_y (S:Ev.Steps Tryz.prog pr R) (hoff:Off pr) (h0:AHeap) (cv:Value) (cs:List (T3)) (hc:SlAt h0 3 cv (cs.map c3)) (hsz:(cs.length:Int) ≤ 1000000) (G:FuncId) (hG:offB G = true) (first:Array Value) (q:T3 → Bool)
  (hq:∀ h',Kp h0 h' → ∀ c,c ∈ cs → Brings Tryz.prog R G (first.toList ++ [.agg ⟨c3 c⟩]) h' fun u _=>u = .bool (q c)) :
  Brings Tryz.prog R 105 [cv,.func (.func G) first #[]] h0 fun u _=>u = .bool (cs.all q):=by
 refine brings_of (fn:=Tryz.f105) (c:=(Tryz.f105.body).getD .skip) (by kernel_rfl) rfl (by kernel_rfl) rfl (fun K hK=>?_)
 generalize hF:finish Tryz.prog Tryz.f105 K = KF
 simp only [Tryz.f105,Option.getD_some,argsT,setArgs,fV1_eq,T.setK_eq,id]
 repeat refine S.seq ?_
 refine S.region ?_
 simp (disch:=first|omega|decide) only [rUz]
 repeat refine S.seq ?_
 refine S.region ?_
 simp (disch:=first|omega|decide) only [rUz]
 have hidx:=idxcS_y S hoff (h0.add [.func (.func G) first #[]]) cv cs (SlAt.mono hc Kp.refl.add) hsz h0.nx h0.nx false G hG first q (Nat.lt_succ_self _) (ag_eq rfl) (fun h' hk=>hq h' (Kp.refl.add.trans hk))
 have hcf:Brings Tryz.prog R 124 [cv,.func (.func 125) #[] #[ptr0 h0.nx]] (h0.add [.func (.func G) first #[]]) fun u _=>u = .bool (!(cs.all q)):=by
  clear hK hF K KF
  refine brings_of (fn:=Tryz.f124) (c:=(Tryz.f124.body).getD .skip) (by kernel_rfl) rfl (by kernel_rfl) rfl (fun K hK=>?_)
  generalize hF:finish Tryz.prog Tryz.f124 K = KF
  simp only [Tryz.f124,Option.getD_some,argsT,setArgs,fV1_eq,T.setK_eq,id]
  repeat refine S.seq ?_
  refine S.region ?_
  simp (disch:=first|omega|decide) only [rUz]
  repeat refine S.seq ?_
  refine S.region ?_
  simp (disch:=first|omega|decide) only [rUz]
  refine wr_brings (fid:=131) (first:=#[]) (captured:=#[]) (Post:=fun u _=>u = iv (firstBad q cs 0)) rfl (hoff _ _ _ rfl) (by simp (disch:=first|omega|decide) only [rUz]; exact hidx) ?_
  rintro u g hk rfl
  simp (disch:=first|omega|decide) only [rUz,firstBad_ge q cs 0 (Int.le_refl _)]
  refine S.ret ?_
  try simp only [seqK_ret,blockK_ret]
  subst hF
  simp only [finish,endMarks]
  rw [show Tryz.f124.results.toList = [.tmp 4] from rfl]
  simp (disch:=first|omega|decide) only [resA,ev_tmp,tget_ne,tget_eq,get_ne,get_eq,upd_eq,upd_ne,ag_eq,ag_ne,result1]
  exact hK _ _ hk rfl
 refine wr_brings (fid:=124) (first:=#[]) (captured:=#[]) (Post:=fun u _=>u = .bool (!(cs.all q))) rfl (hoff _ _ _ rfl) (by simp (disch:=first|omega|decide) only [rUz]; exact hcf) ?_
 rintro u g hk rfl
 simp (disch:=first|omega|decide) only [rUz,un_not,Bool.not_not]
 refine S.ret ?_
 try simp only [seqK_ret,blockK_ret]
 subst hF
 simp only [finish,endMarks]
 rw [show Tryz.f105.results.toList = [.tmp 4] from rfl]
 simp (disch:=first|omega|decide) only [resA,ev_tmp,tget_ne,tget_eq,get_ne,get_eq,upd_eq,upd_ne,ag_eq,ag_ne,result1]
 exact hK _ _ (Kp.refl.add.trans hk) rfl

theorem pFcR (c:List Value) (o:Nat):partL Tryz.prog 152 c o = c[o]?:=by kernel_rfl
set_option maxHeartbeats 4000000 in
theorem closcR_y (S:Ev.Steps Tryz.prog pr R) (hoff:Off pr) (h:AHeap) (Bf f:Nat) (ro:Bool) (G:FuncId) (hG:offB G = true) (first:Array Value) (c:R2) (b:Bool) (hb:h.bl.get Bf = some (.cells [.func (.func G) first #[]] f ro))
  (hq:∀ h',Kp h h' → Brings Tryz.prog R G (first.toList ++ [.agg ⟨c2 c⟩]) h' fun u _=>u = .bool b) (hlt:Bf < h.nx) :
  Brings Tryz.prog R 121 [.agg ⟨c2 c⟩,ptr0 Bf] h fun u _=>u = .bool (!b):=by
 refine brings_of (fn:=Tryz.f121) (c:=(Tryz.f121.body).getD .skip) (by kernel_rfl) rfl (by kernel_rfl) rfl (fun K hK=>?_)
 generalize hF:finish Tryz.prog Tryz.f121 K = KF
 simp only [Tryz.f121,Option.getD_some,argsT,setArgs,fV1_eq,T.setK_eq,id]
 repeat refine S.seq ?_
 refine S.region ?_
 simp (disch:=first|omega|decide) only [rUz]
 have hbx:(h.add (c2 c)).bl.get Bf = some (.cells [.func (.func G) first #[]] f ro):=by rw [ag_ne (by omega)]; exact hb
 repeat refine S.seq ?_
 refine S.region ?_
 simp (disch:=first|omega|decide) only [rUz,hbx,pFcR,part_0 pcR (c2_len c)]
 refine wr_brings (fid:=G) (first:=first) (captured:=#[]) (Post:=fun u _=>u = .bool b) (by simp (disch:=first|omega|decide) only [rUz]) (hoff _ _ _ hG) (by simp (disch:=first|omega|decide) only [rUz]; exact hq _ Kp.refl.add) ?_
 rintro u g hk rfl
 simp (disch:=first|omega|decide) only [rUz,un_not]
 refine S.ret ?_
 try simp only [seqK_ret,blockK_ret]
 subst hF
 simp only [finish,endMarks]
 rw [show Tryz.f121.results.toList = [.tmp 3] from rfl]
 simp (disch:=first|omega|decide) only [resA,ev_tmp,tget_ne,tget_eq,get_ne,get_eq,upd_eq,upd_ne,ag_eq,ag_ne,result1]
 exact hK _ _ (Kp.refl.add.trans hk) rfl

def IXcR (q:R2 → Bool) (cs:List (R2)) (H:AHeap) (cv fv:Value) (k:Nat) (t:T Value) (h:AHeap):Prop:=
 k ≤ cs.length ∧ firstBad q cs 0 = firstBad q (cs.drop k) k ∧ Kp H h ∧ tget t 0 = cv ∧ tget t 1 = fv ∧ tget t 7 = iv (cs.length:Int) ∧ tget t 8 = iv (k:Int)

set_option maxHeartbeats 4000000 in
theorem idxcR_y (S:Ev.Steps Tryz.prog pr R) (hoff:Off pr) (h0:AHeap) (cv:Value) (cs:List (R2)) (hc:SlAt h0 2 cv (cs.map c2)) (hsz:(cs.length:Int) ≤ 1000000) (Bf f:Nat) (ro:Bool) (G:FuncId) (hG:offB G = true) (first:Array Value) (q:R2 → Bool) (hlt:Bf < h0.nx) (hb:h0.bl.get Bf = some (.cells [.func (.func G) first #[]] f ro))
  (hq:∀ h',Kp h0 h' → ∀ c,c ∈ cs → Brings Tryz.prog R G (first.toList ++ [.agg ⟨c2 c⟩]) h' fun u _=>u = .bool (q c)) :
  Brings Tryz.prog R 114 [cv,.func (.func 121) #[] #[ptr0 Bf]] h0 fun u _=>u = iv (firstBad q cs 0):=by
 refine brings_of (fn:=Tryz.f114) (c:=(Tryz.f114.body).getD .skip) (by kernel_rfl) rfl (by kernel_rfl) rfl (fun K hK=>?_)
 generalize hF:finish Tryz.prog Tryz.f114 K = KF
 simp only [Tryz.f114,Option.getD_some,argsT,setArgs,fV1_eq,T.setK_eq,id]
 have hlen:=fun t h1 o=>row_len hc iscR t h1 o
 repeat refine S.seq ?_
 refine S.region ?_
 simp (disch:=first|omega|decide) only [rUz]
 repeat refine S.seq ?_
 refine S.region ?_
 simp (disch:=first|omega|decide) only [rUz,hlen]
 repeat refine S.seq ?_
 refine S.block ?_
 refine S.loop (ι:=Nat) (IXcR q cs h0 cv (.func (.func 121) #[] #[ptr0 Bf])) (fun k=>cs.length - k) ?_ 0 _ _ ?_
 ·intro k t h ⟨hk,hfb,hkp,t0,t1,t7,t8⟩ K' hn he
  repeat refine S.seq ?_
  refine S.region ?_
  simp (disch:=first|omega|decide) only [rUz,t7,t8]
  repeat refine S.seq ?_
  refine S.cond (v:=decide ((k:Int) < (cs.length:Int))) (by first|rfl|(simp (disch:=first|omega|decide) only [rUz,↓reduceIte,Nat.reduceEqDiff,Nat.reduceAdd] <;> rfl)) (fun e=>?_) (fun e=>?_)
  ·have hkn:k < cs.length:=by have:=of_decide_eq_true e; omega
   clear e
   have hps:cs[k]? = some cs[k]:=List.getElem?_eq_getElem hkn
   have hmem:cs[k] ∈ cs:=List.getElem_mem hkn
   rw [List.drop_eq_getElem_cons hkn] at hfb
   simp only [firstBad] at hfb
   generalize cs[k] = c at hps hmem hfb
   obtain ⟨b,f2,ro2,cells,q1,q2,q3,q4,q5,_⟩:=row_idx (SlAt.mono hc hkp) slcR scR hps
   have qp:=part_at pcR q4 q5
   repeat refine S.seq ?_
   refine S.skip ?_
   simp (disch:=first|omega|decide) only [rUz]
   repeat refine S.seq ?_
   refine S.block ?_
   repeat refine S.seq ?_
   refine S.region ?_
   simp (disch:=first|omega|decide) only [rUz,t8]
   repeat refine S.seq ?_
   refine S.region ?_
   simp (disch:=first|omega|decide) only [rUz,t0,t1,t8,q1,q3,qp]
   refine wr_brings (fid:=121) (first:=#[]) (captured:=#[ptr0 Bf]) (Post:=fun u _=>u = .bool (!(q c))) (by simp (disch:=first|omega|decide) only [rUz,t1]) (hoff _ _ _ rfl) (by simp (disch:=first|omega|decide) only [rUz]; exact closcR_y S hoff h Bf f ro G hG first c (q c) ((hkp.get hlt).trans hb) (fun h' hk'=>hq h' (hkp.trans hk') c hmem) (Nat.lt_of_lt_of_le hlt hkp.1)) ?_
   rintro u g hk2 rfl
   simp (disch:=first|omega|decide) only [rUz]
   cases hqp:q c with
   | true =>
    rw [hqp,cond_true] at hfb
    repeat refine S.seq ?_
    refine S.cond (v:=false) (by first|rfl|(simp (disch:=first|omega|decide) only [rUz,↓reduceIte,Nat.reduceEqDiff,Nat.reduceAdd,hqp,Bool.not_true] <;> rfl)) (fun e=>by cases e) (fun _=>?_)
    repeat refine S.seq ?_
    refine S.skip ?_
    simp (disch:=first|omega|decide) only [rUz]
    repeat refine S.seq ?_
    refine S.region ?_
    simp (disch:=first|omega|decide) only [rUz,t8]
    refine hn (k + 1) _ _ (by omega) ⟨by omega,hfb,hkp.trans hk2,?_,?_,?_,?_⟩
    all_goals (first|rfl|(simp (disch:=first|omega|decide) only [rUz,t0,t1,t7,t8]; done)|(simp (disch:=first|omega|decide) only [rUz,t0,t1,t7,t8]; rfl))
   | false =>
    rw [hqp,cond_false] at hfb
    repeat refine S.seq ?_
    refine S.cond (v:=true) (by first|rfl|(simp (disch:=first|omega|decide) only [rUz,↓reduceIte,Nat.reduceEqDiff,Nat.reduceAdd,hqp,Bool.not_false] <;> rfl)) (fun _=>?_) (fun e=>by cases e)
    repeat refine S.seq ?_
    refine S.region ?_
    simp (disch:=first|omega|decide) only [rUz,t8]
    refine S.ret ?_
    simp only [seqK_ret,blockK_ret]
    refine he _ _ _ _ (fun e=>by cases e) ?_
    try simp only [seqK_ret,blockK_ret]
    subst hF
    simp only [finish,endMarks]
    rw [show Tryz.f114.results.toList = [.tmp 4] from rfl]
    simp (disch:=first|omega|decide) only [resA,ev_tmp,tget_ne,tget_eq,get_ne,get_eq,upd_eq,upd_ne,ag_eq,ag_ne,result1]
    exact hK _ _ (hkp.trans hk2) (by rw [hfb])
  ·have hkn:k = cs.length:=by have:=of_decide_eq_false e; omega
   subst hkn
   rw [List.drop_of_length_le (Nat.le_refl _)] at hfb
   refine S.exit (he _ _ _ _ (fun e=>by cases e) ?_)
   simp (disch:=first|omega|decide) only [rUz]
   repeat refine S.seq ?_
   refine S.region ?_
   simp (disch:=first|omega|decide) only [rUz]
   refine S.ret ?_
   try simp only [seqK_ret,blockK_ret]
   subst hF
   simp only [finish,endMarks]
   rw [show Tryz.f114.results.toList = [.tmp 4] from rfl]
   simp (disch:=first|omega|decide) only [resA,ev_tmp,tget_ne,tget_eq,get_ne,get_eq,upd_eq,upd_ne,ag_eq,ag_ne,result1]
   exact hK _ _ hkp (by rw [hfb]; rfl)
 ·refine ⟨Nat.zero_le _,rfl,Kp.refl,?_,?_,?_,?_⟩
  all_goals (first|rfl|(simp (disch:=first|omega|decide) only [rUz]; done)|(simp (disch:=first|omega|decide) only [rUz]; rfl))

set_option maxHeartbeats 4000000 in
theorem allcR_y (S:Ev.Steps Tryz.prog pr R) (hoff:Off pr) (h0:AHeap) (cv:Value) (cs:List (R2)) (hc:SlAt h0 2 cv (cs.map c2)) (hsz:(cs.length:Int) ≤ 1000000) (G:FuncId) (hG:offB G = true) (first:Array Value) (q:R2 → Bool)
  (hq:∀ h',Kp h0 h' → ∀ c,c ∈ cs → Brings Tryz.prog R G (first.toList ++ [.agg ⟨c2 c⟩]) h' fun u _=>u = .bool (q c)) :
  Brings Tryz.prog R 101 [cv,.func (.func G) first #[]] h0 fun u _=>u = .bool (cs.all q):=by
 refine brings_of (fn:=Tryz.f101) (c:=(Tryz.f101.body).getD .skip) (by kernel_rfl) rfl (by kernel_rfl) rfl (fun K hK=>?_)
 generalize hF:finish Tryz.prog Tryz.f101 K = KF
 simp only [Tryz.f101,Option.getD_some,argsT,setArgs,fV1_eq,T.setK_eq,id]
 repeat refine S.seq ?_
 refine S.region ?_
 simp (disch:=first|omega|decide) only [rUz]
 repeat refine S.seq ?_
 refine S.region ?_
 simp (disch:=first|omega|decide) only [rUz]
 have hidx:=idxcR_y S hoff (h0.add [.func (.func G) first #[]]) cv cs (SlAt.mono hc Kp.refl.add) hsz h0.nx h0.nx false G hG first q (Nat.lt_succ_self _) (ag_eq rfl) (fun h' hk=>hq h' (Kp.refl.add.trans hk))
 have hcf:Brings Tryz.prog R 91 [cv,.func (.func 121) #[] #[ptr0 h0.nx]] (h0.add [.func (.func G) first #[]]) fun u _=>u = .bool (!(cs.all q)):=by
  clear hK hF K KF
  refine brings_of (fn:=Tryz.f91) (c:=(Tryz.f91.body).getD .skip) (by kernel_rfl) rfl (by kernel_rfl) rfl (fun K hK=>?_)
  generalize hF:finish Tryz.prog Tryz.f91 K = KF
  simp only [Tryz.f91,Option.getD_some,argsT,setArgs,fV1_eq,T.setK_eq,id]
  repeat refine S.seq ?_
  refine S.region ?_
  simp (disch:=first|omega|decide) only [rUz]
  repeat refine S.seq ?_
  refine S.region ?_
  simp (disch:=first|omega|decide) only [rUz]
  refine wr_brings (fid:=114) (first:=#[]) (captured:=#[]) (Post:=fun u _=>u = iv (firstBad q cs 0)) rfl (hoff _ _ _ rfl) (by simp (disch:=first|omega|decide) only [rUz]; exact hidx) ?_
  rintro u g hk rfl
  simp (disch:=first|omega|decide) only [rUz,firstBad_ge q cs 0 (Int.le_refl _)]
  refine S.ret ?_
  try simp only [seqK_ret,blockK_ret]
  subst hF
  simp only [finish,endMarks]
  rw [show Tryz.f91.results.toList = [.tmp 4] from rfl]
  simp (disch:=first|omega|decide) only [resA,ev_tmp,tget_ne,tget_eq,get_ne,get_eq,upd_eq,upd_ne,ag_eq,ag_ne,result1]
  exact hK _ _ hk rfl
 refine wr_brings (fid:=91) (first:=#[]) (captured:=#[]) (Post:=fun u _=>u = .bool (!(cs.all q))) rfl (hoff _ _ _ rfl) (by simp (disch:=first|omega|decide) only [rUz]; exact hcf) ?_
 rintro u g hk rfl
 simp (disch:=first|omega|decide) only [rUz,un_not,Bool.not_not]
 refine S.ret ?_
 try simp only [seqK_ret,blockK_ret]
 subst hF
 simp only [finish,endMarks]
 rw [show Tryz.f101.results.toList = [.tmp 4] from rfl]
 simp (disch:=first|omega|decide) only [resA,ev_tmp,tget_ne,tget_eq,get_ne,get_eq,upd_eq,upd_ne,ag_eq,ag_ne,result1]
 exact hK _ _ (Kp.refl.add.trans hk) rfl

end Go.Proofs.Cp
