import Derived.Test.YtefjnhpghgahbaaGreatCm2
/- Whether a truth has days of all trades. -/
namespace Go.Proofs.Cp
open Go Go.Ev
set_option linter.unusedSimpArgs false

def datB (x:Tr) (s d:Int):Bool:=inB s x.so.1 x.so.2 && (inB d x.de.1 x.de.2 && !decide (d < s))
def datG:List Tr → List Int → List Int → Bool
 | x :: r,s :: a,d :: b=>datB x s d && datG r a b
 | _,_,_=>true
def lensB (c:Co) (a b:List Int):Bool:=decide ((a.length:Int) = (c.tr.length:Int)) && decide ((b.length:Int) = (c.tr.length:Int))
def datedB (c:Co) (a b:List Int):Bool:=lensB c a b && datG c.tr a b
theorem lens_iff {c:Co} {a b:List Int}:lensB c a b = true ↔ a.length = c.tr.length ∧ b.length = c.tr.length:=by
 unfold lensB; rw [Bool.and_eq_true,decide_eq_true_eq,decide_eq_true_eq]; omega
theorem datG_nil (a b:List Int):datG [] a b = true:=by
 unfold datG; rfl

variable {pr:Prim} {R:ExT}
structure IDt (c:Co) (a b:List Int) (B2 B3:Nat) (H:AHeap) (k:Nat) (t:T Value) (h:AHeap):Prop where
 kp:Kp H h
 t2:tget t 2 = ptr0 B2
 t3:tget t 3 = ptr0 B3
 t5:tget t 5 = iv (k:Int)
 hk:k ≤ c.tr.length
 val:datG c.tr a b = datG (c.tr.drop k) (a.drop k) (b.drop k)
set_option maxHeartbeats 16000000 in
theorem dated_y (S:Ev.Steps Tryz.prog pr R) (hoff:Off pr) (h0:AHeap) (v:Vs) (c:Co) (hc:CoAt h0 v c) (hl:c.tr.length ≤ 7) (ua ub:Value) (a b:List Int) (hua:IAt h0 ua a) (hub:IAt h0 ub b) :
  Brings Tryz.prog R 31 [.agg ⟨coV c.hs v⟩,.agg ⟨[ua,ub]⟩] h0 fun u _=>u = .bool (datedB c a b):=by
 refine brings_of (fn:=Tryz.f31) (c:=(Tryz.f31.body).getD .skip) (by kernel_rfl) rfl (by kernel_rfl) rfl (fun K hK=>?_)
 generalize hF:finish Tryz.prog Tryz.f31 K = KF
 simp only [Tryz.f31,Option.getD_some,argsT,setArgs,fV1_eq,T.setK_eq,id]
 have hK1:∀ h,Kp ((h0.add (coV c.hs v)).add [ua,ub]) h → K (.bool (datedB c a b)) h = true:=fun h hk=>hK _ _ (Kp.refl.add.add.trans hk) rfl
 clear hK
 repeat refine S.seq ?_
 refine S.region ?_
 simp (disch:=first|omega|decide) only [rUz]
 have hb2:((h0.add (coV c.hs v)).add [ua,ub]).bl.get h0.nx = some (.cells (coV c.hs v) h0.nx false):=by rw [ag_ne (by show h0.nx ≠ h0.nx + 1; omega)]; exact ag_eq rfl
 have hb3:((h0.add (coV c.hs v)).add [ua,ub]).bl.get (h0.nx + 1) = some (.cells [ua,ub] (h0.nx + 1) false):=ag_eq rfl
 have hc1:CoAt ((h0.add (coV c.hs v)).add [ua,ub]) v c:=hc.mono Kp.refl.add.add
 have ha1:=hua.mono (h':=(h0.add (coV c.hs v)).add [ua,ub]) Kp.refl.add.add
 have hb1:=hub.mono (h':=(h0.add (coV c.hs v)).add [ua,ub]) Kp.refl.add.add
 have hn3:h0.nx + 1 < ((h0.add (coV c.hs v)).add [ua,ub]).nx:=Nat.lt_succ_self _
 generalize (h0.add (coV c.hs v)).add [ua,ub] = H at hK1 hb2 hb3 hc1 ha1 hb1 hn3 ⊢
 obtain ⟨B3,hB3⟩:∃ x,x = h0.nx + 1:=⟨_,rfl⟩
 obtain ⟨B2,hB2⟩:∃ x,x = h0.nx:=⟨_,rfl⟩
 rw [← hB3] at hb3 hn3 ⊢
 rw [← hB2] at hb2 ⊢
 have hn2:B2 < H.nx:=by omega
 clear hB3 hB2
 have lA:=iv_len ha1
 have lB:=iv_len hb1
 have l2:=fun t h1 o=>row_len hc1.tr isrT t h1 o
 unfold datedB at hK1
 repeat refine S.seq ?_
 refine S.region ?_
 generalize hJJ:(fun (t:T Value) (h:AHeap)=>_) = KJ
 suffices hJ:∀ t,tget t 2 = ptr0 B2 → tget t 3 = ptr0 B3 → tget t 22 = .bool (!lensB c a b) → KJ t H = true by
  clear hJJ hK1
  unfold lensB at hJ
  cases e1:decide ((a.length:Int) = (c.tr.length:Int)) with
  | false =>
   simp (disch:=first|omega|decide) only [rUz,hb2,hb3,fieldAddr_ptr frU0 lI,fieldAddr_ptr fA2 lrT,qI,qrT,co2,lA,l2,e1,Bool.not_false]
   refine hJ _ ?_ ?_ ?_
   all_goals (first|rfl|(simp (disch:=first|omega|decide) only [rUz,e1,Bool.false_and,Bool.not_false]; done)|(simp (disch:=first|omega|decide) only [rUz,e1,Bool.false_and,Bool.not_false]; rfl))
  | true =>
   simp (disch:=first|omega|decide) only [rUz,hb2,hb3,fieldAddr_ptr frU0 lI,fieldAddr_ptr frU1 lI,fieldAddr_ptr fA2 lrT,qI,qrT,co2,lA,lB,l2,e1,Bool.not_true]
   refine hJ _ ?_ ?_ ?_
   all_goals (first|rfl|(simp (disch:=first|omega|decide) only [rUz,e1,Bool.true_and,Bool.not_true]; done)|(simp (disch:=first|omega|decide) only [rUz,e1,Bool.true_and,Bool.not_true]; rfl))
 intro t t2 t3 t22
 subst hJJ
 simp only [seqK_normal]
 cases el:lensB c a b with
 | false =>
  rw [el,Bool.false_and] at hK1
  repeat refine S.seq ?_
  refine S.cond (v:=true) (by first|rfl|(simp (disch:=first|omega|decide) only [rUz,↓reduceIte,Nat.reduceEqDiff,Nat.reduceAdd,t22,el,Bool.not_false] <;> rfl)) (fun _=>?_) (fun e=>by cases e)
  repeat refine S.seq ?_
  refine S.region ?_
  simp (disch:=first|omega|decide) only [rUz]
  refine S.ret ?_
  try simp only [seqK_ret,blockK_ret]
  subst hF
  simp only [finish,endMarks]
  rw [show Tryz.f31.results.toList = [.tmp 4] from rfl]
  simp (disch:=first|omega|(simp only [nZ] <;> omega)|decide) only [resA,ev_tmp,tget_ne,tget_eq,get_ne,get_eq,upd_eq,upd_ne,ag_eq,ag_ne,result1]
  exact hK1 _ Kp.refl
 | true =>
 rw [el,Bool.true_and] at hK1
 obtain ⟨la,lb⟩:=lens_iff.1 el
 repeat refine S.seq ?_
 refine S.cond (v:=false) (by first|rfl|(simp (disch:=first|omega|(simp only [nZ] <;> omega)|decide) only [rUz,↓reduceIte,Nat.reduceEqDiff,Nat.reduceAdd,t22,el,Bool.not_true] <;> rfl)) (fun e=>by cases e) (fun _=>?_)
 repeat refine S.seq ?_
 refine S.skip ?_
 simp (disch:=first|omega|decide) only [rUz,↓reduceIte,Nat.reduceEqDiff,Nat.reduceAdd]
 repeat refine S.seq ?_
 refine S.region ?_
 simp (disch:=first|omega|decide) only [rUz,↓reduceIte,Nat.reduceEqDiff,Nat.reduceAdd]
 repeat refine S.seq ?_
 refine S.block ?_
 refine S.loop (ι:=Nat) (IDt c a b B2 B3 H) (fun k=>c.tr.length - k) ?_ 0 _ _ ?_
 rotate_left
 ·refine ⟨Kp.refl,?_,?_,?_,Nat.zero_le _,by rw [List.drop_zero,List.drop_zero,List.drop_zero]⟩
  all_goals (first|rfl|(simp (disch:=first|omega|(simp only [nZ] <;> omega)|decide) only [rUz,↓reduceIte,Nat.reduceEqDiff,Nat.reduceAdd,t2,t3]; done)|(simp (disch:=first|omega|(simp only [nZ] <;> omega)|decide) only [rUz,↓reduceIte,Nat.reduceEqDiff,Nat.reduceAdd,t2,t3]; rfl))
 clear t2 t3 t22
 clear t
 intro k t h ⟨hkp,t2,t3,t5,hk,hval⟩ K' hn he
 have hb2':=(hkp.get hn2).trans hb2
 have hnx:=hkp.1
 have l2:=fun t h1 o=>row_len (SlAt.mono hc1.tr hkp) isrT t h1 o
 repeat refine S.seq ?_
 refine S.region ?_
 simp (disch:=first|omega|(simp only [nZ] <;> omega)|decide) only [rUz,↓reduceIte,Nat.reduceEqDiff,Nat.reduceAdd,t2,t5,fieldAddr_ptr fA2 lrT,qrT,co2,hb2',l2]
 repeat refine S.seq ?_
 refine S.cond (v:=decide ((k:Int) < (c.tr.length:Int))) (by first|rfl|(simp (disch:=first|omega|(simp only [nZ] <;> omega)|decide) only [rUz,↓reduceIte,Nat.reduceEqDiff,Nat.reduceAdd] <;> rfl)) (fun e=>?_) (fun e=>?_)
 ·have hkn:k < c.tr.length:=by have:=of_decide_eq_true e; omega
  clear e
  have hka:k < a.length:=by omega
  have hkb:k < b.length:=by omega
  have hps:c.tr[k]? = some c.tr[k]:=List.getElem?_eq_getElem hkn
  rw [List.drop_eq_getElem_cons hkn,List.drop_eq_getElem_cons hka,List.drop_eq_getElem_cons hkb,datG] at hval
  obtain ⟨b',f,ro,cells,q1,q2,q3,q4,q5,_⟩:=row_idx (SlAt.mono hc1.tr hkp) slrT srT hps
  generalize c.tr[k] = x at hps hval q4
  have qp:=part_at prT q4 q5
  repeat refine S.seq ?_
  refine S.skip ?_
  simp (disch:=first|omega|(simp only [nZ] <;> omega)|decide) only [rUz,↓reduceIte,Nat.reduceEqDiff,Nat.reduceAdd]
  repeat refine S.seq ?_
  refine S.block ?_
  repeat refine S.seq ?_
  refine S.region ?_
  simp (disch:=first|omega|(simp only [nZ] <;> omega)|decide) only [rUz,↓reduceIte,Nat.reduceEqDiff,Nat.reduceAdd,t2,t5,fieldAddr_ptr fA2 lrT,qrT,co2,hb2',q1,q3,qp,wr_alloc zrT]
  refine wr_storeN (B:=h.nx) (c:=[iv 0,iv 0,iv 0,iv 0,iv 0,iv 0,iv 0]) (fam:=h.nx) (k:=h.nx) (l:=c7 x) (by simp (disch:=first|omega|(simp only [nZ] <;> omega)|decide) only [rUz,↓reduceIte,Nat.reduceEqDiff,Nat.reduceAdd]) (by simp (disch:=first|omega|(simp only [nZ] <;> omega)|decide) only [rUz,↓reduceIte,Nat.reduceEqDiff,Nat.reduceAdd]) srT (by omega) rfl (ag_eq rfl) (af_eq rfl) rfl ?_
  have hk4:Kp H ((h.add [iv 0,iv 0,iv 0,iv 0,iv 0,iv 0,iv 0]).upd h.nx (c7 x) h.nx):=hkp.add.upd hnx
  have hg4:((h.add [iv 0,iv 0,iv 0,iv 0,iv 0,iv 0,iv 0]).upd h.nx (c7 x) h.nx).bl.get h.nx = some (.cells (c7 x) h.nx false):=upd_eq _ _ _
  simp (disch:=first|omega|(simp only [nZ] <;> omega)|decide) only [rUz,↓reduceIte,Nat.reduceEqDiff,Nat.reduceAdd]
  generalize (h.add [iv 0,iv 0,iv 0,iv 0,iv 0,iv 0,iv 0]).upd h.nx (c7 x) h.nx = h4 at hk4 hg4 ⊢
  generalize h.nx = B4 at hg4 ⊢
  clear q1 q2 q3 q4 q5 qp hb2' hnx hkp l2
  clear h
  have hb34:=(hk4.get hn3).trans hb3
  obtain ⟨ba,fa,ra,a1,a2,a3,a4⟩:=(ha1.mono hk4).idx slI s3' hka
  obtain ⟨bb,fb,rb,d1,d2,d3,d4⟩:=(hb1.mono hk4).idx slI s3' hkb
  generalize a[k] = s at hval a4
  generalize b[k] = d at hval d4
  repeat refine S.seq ?_
  refine S.drawnL [(false,0),(false,1),(false,0),(false,7),(false,15),(false,0),(false,32),(false,96),(false,0),(false,256),(false,768),(true,2047),(false,4095),(false,8191),(false,16383),(false,32767),(false,16383),(false,131071),(false,262143),(false,16383),(false,540671),(false,1589247),(false,16383),(false,4210687),(false,12599295),(true,33554431),(false,67108863),(false,134217727),(false,268435455),(false,536870911),(false,1073741823),(false,536870911),(false,4294967295),(false,8589934591),(false,536870911),(false,17716740095),(false,536870911),(false,120795955199),(false,258234908671),(false,549755813887),(false,1099511627775)] (by kernel_rfl) (by kernel_rfl) (by kernel_rfl) ?_
  generalize hJJ:(fun (t:T Value) (h:AHeap)=>_) = KJ
  suffices hJ:∀ t,tget t 2 = ptr0 B2 → tget t 3 = ptr0 B3 → tget t 5 = iv (k:Int) → tget t 75 = .bool (!datB x s d) → KJ t h4 = true by
   clear hJJ hn he hK1
   simp (disch:=first|omega|(simp only [nZ] <;> omega)|decide) only [rUz,↓reduceIte,Nat.reduceEqDiff,Nat.reduceAdd,rDz,infoL,Nat.reduceSub,t3,t5,hb34,hg4,fieldAddr_ptr frU0 lI,fieldAddr_ptr frT3 SrR,fieldAddr_ptr frR0 s3,fieldAddr_ptr frR1 s3,qI,p3,a1,a3,a4,c73,c74]
   refine drW_brings (fid:=19) (first:=#[]) (captured:=#[]) (Post:=fun u h'=>u = .bool (inB s x.so.1 x.so.2) ∧ h' = h4) rfl (hoff _ _ _ rfl) (by simp (disch:=first|omega|(simp only [nZ] <;> omega)|decide) only [rUz,↓reduceIte,Nat.reduceEqDiff,Nat.reduceAdd]; exact in_y S _ _ _ _) (Nat.le_of_ble_eq_true rfl) ?_
   rintro u g - ⟨rfl,rfl⟩
   refine ⟨?_,?_⟩
   ·try simp (disch:=first|decide|rfl) only [again_nil,again_skip,again_free]
   unfold datB at hJ
   cases h1:inB s x.so.1 x.so.2 with
   | false =>
    simp (disch:=first|omega|decide) only [rUz,↓reduceIte,Nat.reduceEqDiff,Nat.reduceAdd,rDz,infoL,Nat.reduceSub,un_not,h1,Bool.not_false]
    refine hJ _ ?_ ?_ ?_ ?_
    all_goals (first|rfl|(simp (disch:=first|omega|decide) only [rUz,↓reduceIte,Nat.reduceEqDiff,Nat.reduceAdd,t2,t3,t5,h1,Bool.false_and,Bool.not_false]; done)|(simp (disch:=first|omega|decide) only [rUz,↓reduceIte,Nat.reduceEqDiff,Nat.reduceAdd,t2,t3,t5,h1,Bool.false_and,Bool.not_false]; rfl))
   | true =>
   simp (disch:=first|omega|decide) only [rUz,↓reduceIte,Nat.reduceEqDiff,Nat.reduceAdd,rDz,infoL,Nat.reduceSub,un_not,h1,Bool.not_true,t3,t5,hb34,hg4,fieldAddr_ptr frU1 lI,fieldAddr_ptr frT4 SrR,fieldAddr_ptr frR0 s3,fieldAddr_ptr frR1 s3,qI,p3,d1,d3,d4,c75,c76]
   refine drW_brings (fid:=19) (first:=#[]) (captured:=#[]) (Post:=fun u h'=>u = .bool (inB d x.de.1 x.de.2) ∧ h' = g) rfl (hoff _ _ _ rfl) (by simp (disch:=first|omega|(simp only [nZ] <;> omega)|decide) only [rUz,↓reduceIte,Nat.reduceEqDiff,Nat.reduceAdd]; exact in_y S _ _ _ _) (Nat.le_of_ble_eq_true rfl) ?_
   rintro u g2 - ⟨rfl,rfl⟩
   refine ⟨?_,?_⟩
   ·try simp (disch:=first|decide|rfl) only [again_nil,again_skip,again_free]
   cases h2:inB d x.de.1 x.de.2 with
   | false =>
    simp (disch:=first|omega|decide) only [rUz,rDz,infoL,Nat.reduceSub,un_not,h2,Bool.not_false]
    refine hJ _ ?_ ?_ ?_ ?_
    all_goals (first|rfl|(simp (disch:=first|omega|decide) only [rUz,t2,t3,t5,h1,h2,Bool.false_and,Bool.true_and,Bool.not_true,Bool.not_false]; done)|(simp (disch:=first|omega|decide) only [rUz,t2,t3,t5,h1,h2,Bool.false_and,Bool.true_and,Bool.not_true,Bool.not_false]; rfl))
   | true =>
    simp (disch:=first|omega|decide) only [rUz,rDz,infoL,Nat.reduceSub,un_not,h2,Bool.not_true,t3,t5,hb34,fieldAddr_ptr frU0 lI,fieldAddr_ptr frU1 lI,qI,p3,a1,a3,a4,d1,d3,d4]
    refine hJ _ ?_ ?_ ?_ ?_
    all_goals (first|rfl|(simp (disch:=first|omega|decide) only [rUz,t2,t3,t5,h1,h2,Bool.true_and,Bool.not_not]; done)|(simp (disch:=first|omega|decide) only [rUz,t2,t3,t5,h1,h2,Bool.true_and,Bool.not_not]; rfl))
  intro t t2 t3 t5 t75
  subst hJJ
  simp only [seqK_normal]
  cases hx:datB x s d with
  | false =>
   rw [hx,Bool.false_and] at hval
   repeat refine S.seq ?_
   refine S.cond (v:=true) (by first|rfl|(simp (disch:=first|omega|decide) only [rUz,↓reduceIte,Nat.reduceEqDiff,Nat.reduceAdd,t75,hx,Bool.not_false] <;> rfl)) (fun _=>?_) (fun e=>by cases e)
   repeat refine S.seq ?_
   refine S.region ?_
   simp (disch:=first|omega|decide) only [rUz]
   refine S.ret ?_
   simp only [seqK_ret,blockK_ret]
   refine he _ _ _ _ (fun e=>by cases e) ?_
   try simp only [seqK_ret,blockK_ret]
   subst hF
   simp only [finish,endMarks]
   rw [show Tryz.f31.results.toList = [.tmp 4] from rfl]
   simp (disch:=first|omega|decide) only [resA,ev_tmp,tget_ne,tget_eq,get_ne,get_eq,upd_eq,upd_ne,ag_eq,ag_ne,result1]
   rw [hval] at hK1
   exact hK1 _ hk4
  | true =>
   rw [hx,Bool.true_and] at hval
   repeat refine S.seq ?_
   refine S.cond (v:=false) (by first|rfl|(simp (disch:=first|omega|decide) only [rUz,↓reduceIte,Nat.reduceEqDiff,Nat.reduceAdd,t75,hx,Bool.not_true] <;> rfl)) (fun e=>by cases e) (fun _=>?_)
   repeat refine S.seq ?_
   refine S.skip ?_
   simp (disch:=first|omega|decide) only [rUz]
   repeat refine S.seq ?_
   refine S.region ?_
   simp (disch:=first|omega|decide) only [rUz,t5]
   refine hn (k + 1) _ _ (by omega) ⟨hk4,?_,?_,?_,by omega,hval⟩
   all_goals (first|rfl|(simp (disch:=first|omega|decide) only [rUz,t2,t3,t5]; done)|(simp (disch:=first|omega|decide) only [rUz,t2,t3,t5]; rfl))
 have hkn:k = c.tr.length:=by have:=of_decide_eq_false e; omega
 subst hkn
 rw [List.drop_of_length_le (Nat.le_refl _),datG_nil] at hval
 refine S.exit (he _ _ _ _ (fun e=>by cases e) ?_)
 simp (disch:=first|omega|decide) only [rUz]
 repeat refine S.seq ?_
 refine S.region ?_
 simp (disch:=first|omega|decide) only [rUz]
 refine S.ret ?_
 try simp only [seqK_ret,blockK_ret]
 subst hF
 simp only [finish,endMarks]
 rw [show Tryz.f31.results.toList = [.tmp 4] from rfl]
 simp (disch:=first|omega|decide) only [resA,ev_tmp,tget_ne,tget_eq,get_ne,get_eq,upd_eq,upd_ne,ag_eq,ag_ne,result1]
 rw [hval] at hK1
 exact hK1 _ hkp
end Go.Proofs.Cp
