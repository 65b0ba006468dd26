import Derived.Test.YthgmipngikdknaaGreatPo4
/- The error of a post, by the words of the document and by the program. -/
set_option maxHeartbeats 16000000
namespace Go.Proofs.Po
open Nat (reduceEqDiff reduceAdd reduceSub)
open Go Go.Ev Go.RowKit
set_option linter.unusedSimpArgs false
variable {pr:Prim} {R:ExT}
def okO (x:Od):Bool:=inB x.l 1 100 && (inB x.n 1 20 && (decide (0 ≤ x.lo) && (decide (x.lo ≤ x.hi) && decide (x.hi ≤ 30))))
def fewB (O:List Od):Bool:=decide ((O.length:Int) ≤ 6)
def oL (O:List Od):Bool:=!(decide ((O.length:Int) = 0)) && O.all okO
def dY (O:List Od):Int:=bif fewB O then (bif oL O then 0 else 1) else 3
structure IFa (O:List Od) (H:AHeap) (B1:Nat) (k:Nat) (t:T Value) (h:AHeap):Prop where
 kp:Kp H h
 t1:tget t 1 = bG B1
 t3:tget t 3 = iv (k:Int)
 ha:O.all okO = (O.drop k).all okO
 hk:k ≤ O.length
theorem ltB (x y:Int):decide (x < y) = !decide (y ≤ x):=gtB y x
theorem rfault_y (S:Ev.Steps Tryz.prog pr R) (hoff:Off pr) (h0:AHeap) (v:Value) (O:List Od) (hb:PoAt h0 v O) :
  bD Tryz.prog R 40 [.agg ⟨poV v⟩] h0 fun u _=>u = iv (dY O):=by
 refine aV (fn:=Tryz.f40) (c:=(Tryz.f40.body).getD .skip) (by kernel_rfl) rfl (by kernel_rfl) rfl (fun K hK=>?_)
 generalize hF:finish Tryz.prog Tryz.f40 K = KF
 simp only [Tryz.f40,Option.getD_some,bJ,aX,aZ,T.setK_eq,id]
 have hK':∀ n,n = dY O → ∀ g,Kp h0 g → K (iv n) g = true:=fun b e g hk=>hK _ _ hk (by rw [e])
 clear hK
 unfold dY fewB oL at hK'
 repeat refine S.seq ?_
 refine S.region ?_
 simp (disch:=first|omega|simp only [aA,aB]<;>omega|decide) only [rUz,↓reduceIte,reduceEqDiff,reduceAdd]
 have hb1:(h0.add (poV v)).bl.get h0.nx = some (.cells (poV v) h0.nx false):=aP rfl
 have hn1:h0.nx < (h0.add (poV v)).nx:=Nat.lt_succ_self _
 have hk1:Kp h0 (h0.add (poV v)):=Kp.refl.add
 generalize h0.add (poV v) = H at hb1 hn1 hk1 ⊢
 generalize h0.nx = B1 at hb1 hn1 ⊢
 have hbH:=hb.mono hk1
 clear hb
 have lO:=fun t h1 o=>dQ hbH isrO t h1 o
 cases h1:decide ((O.length:Int) ≤ 6) with
 | false =>
  rw [h1,cond_false] at hK'
  repeat refine S.seq ?_
  refine S.region ?_
  simp (disch:=first|omega|simp only [aA,aB]<;>omega|decide) only [rUz,↓reduceIte,reduceEqDiff,reduceAdd,aC fA0 lrO,qrO,hb1,po0,lO,gtB,h1,Bool.not_false]
  repeat refine S.seq ?_
  refine S.cond (v:=true) (by first|rfl|(simp (disch:=first|omega|simp only [aA,aB]<;>omega|decide) only [rUz,↓reduceIte,reduceEqDiff,reduceAdd]<;>rfl)) (fun _=>?_) (fun e=>by cases e)
  repeat refine S.seq ?_
  refine S.region ?_
  simp (disch:=first|omega|simp only [aA,aB]<;>omega|decide) only [rUz,↓reduceIte,reduceEqDiff,reduceAdd]
  refine S.ret ?_
  try simp only [aJ,aF]
  subst hF
  simp only [finish,aI]
  rw [show Tryz.f40.results.toList = [.tmp 2] from rfl]
  simp (disch:=first|omega|simp only [aA,aB]<;>omega|decide) only [bK,aY,aS,aT,aQ,aU,aO,upd_ne,aP,aW,result1]
  exact hK' _ rfl _ hk1
 | true =>
 rw [h1,cond_true] at hK'
 repeat refine S.seq ?_
 refine S.region ?_
 simp (disch:=first|omega|simp only [aA,aB]<;>omega|decide) only [rUz,↓reduceIte,reduceEqDiff,reduceAdd,aC fA0 lrO,qrO,hb1,po0,lO,gtB,h1,Bool.not_true]
 repeat refine S.seq ?_
 refine S.cond (v:=false) (by first|rfl|(simp (disch:=first|omega|simp only [aA,aB]<;>omega|decide) only [rUz,↓reduceIte,reduceEqDiff,reduceAdd]<;>rfl)) (fun e=>by cases e) (fun _=>?_)
 repeat refine S.seq ?_
 refine S.skip ?_
 simp (disch:=first|omega|simp only [aA,aB]<;>omega|decide) only [rUz,↓reduceIte,reduceEqDiff,reduceAdd]
 have h6:=of_decide_eq_true h1
 cases h2:decide ((O.length:Int) = 0) with
 | true =>
  rw [h2,Bool.not_true,Bool.false_and,cond_false] at hK'
  repeat refine S.seq ?_
  refine S.region ?_
  simp (disch:=first|omega|simp only [aA,aB]<;>omega|decide) only [rUz,↓reduceIte,reduceEqDiff,reduceAdd,aC fA0 lrO,qrO,hb1,po0,lO,h2]
  repeat refine S.seq ?_
  refine S.cond (v:=true) (by first|rfl|(simp (disch:=first|omega|simp only [aA,aB]<;>omega|decide) only [rUz,↓reduceIte,reduceEqDiff,reduceAdd]<;>rfl)) (fun _=>?_) (fun e=>by cases e)
  repeat refine S.seq ?_
  refine S.region ?_
  simp (disch:=first|omega|simp only [aA,aB]<;>omega|decide) only [rUz,↓reduceIte,reduceEqDiff,reduceAdd]
  refine S.ret ?_
  try simp only [aJ,aF]
  subst hF
  simp only [finish,aI]
  rw [show Tryz.f40.results.toList = [.tmp 2] from rfl]
  simp (disch:=first|omega|simp only [aA,aB]<;>omega|decide) only [bK,aY,aS,aT,aQ,aU,aO,upd_ne,aP,aW,result1]
  exact hK' _ rfl _ hk1
 | false =>
 rw [h2,Bool.not_false,Bool.true_and] at hK'
 repeat refine S.seq ?_
 refine S.region ?_
 simp (disch:=first|omega|simp only [aA,aB]<;>omega|decide) only [rUz,↓reduceIte,reduceEqDiff,reduceAdd,aC fA0 lrO,qrO,hb1,po0,lO,h2]
 repeat refine S.seq ?_
 refine S.cond (v:=false) (by first|rfl|(simp (disch:=first|omega|simp only [aA,aB]<;>omega|decide) only [rUz,↓reduceIte,reduceEqDiff,reduceAdd]<;>rfl)) (fun e=>by cases e) (fun _=>?_)
 repeat refine S.seq ?_
 refine S.skip ?_
 simp (disch:=first|omega|simp only [aA,aB]<;>omega|decide) only [rUz,↓reduceIte,reduceEqDiff,reduceAdd]
 clear h1 h2
 repeat refine S.seq ?_
 refine S.region ?_
 simp (disch:=first|omega|simp only [aA,aB]<;>omega|decide) only [rUz,↓reduceIte,reduceEqDiff,reduceAdd]
 repeat refine S.seq ?_
 refine S.block ?_
 refine S.loop (ι:=Nat) (IFa O H B1) (fun k=>O.length - k) ?_ 0 _ _ ?_
 rotate_left
 ·refine ⟨Kp.refl,?_,?_,rfl,Nat.zero_le _⟩
  all_goals (first|rfl|(simp (disch:=first|omega|simp only [aA,aB]<;>omega|decide) only [rUz,↓reduceIte,reduceEqDiff,reduceAdd]<;>rfl))
 intro k t h ⟨hkp,t1,t3,ha,hk⟩ K' hn he
 have hb1h:=(hkp.get hn1).trans hb1
 have hnx:=hkp.1
 repeat refine S.seq ?_
 refine S.region ?_
 simp (disch:=first|omega|simp only [aA,aB]<;>omega|decide) only [rUz,↓reduceIte,reduceEqDiff,reduceAdd,t1,t3,aC fA0 lrO,qrO,hb1h,po0,lO]
 repeat refine S.seq ?_
 refine S.cond (v:=decide ((k:Int) < (O.length:Int))) (by first|rfl|(simp (disch:=first|omega|simp only [aA,aB]<;>omega|decide) only [rUz,↓reduceIte,reduceEqDiff,reduceAdd]<;>rfl)) (fun e=>?_) (fun e=>?_)
 ·have hkn:k < O.length:=by have:=of_decide_eq_true e; omega
  clear e
  have hps:O[k]? = some O[k]:=List.getElem?_eq_getElem hkn
  rw [List.drop_eq_getElem_cons hkn,List.all_cons] at ha
  generalize O[k] = x at ha hps
  obtain ⟨b,f,ro,cells,q1,q2,q3,q4,q5,_⟩:=dM (hbH.mono hkp) slrO srO hps
  have qp:=gQ prO q4 q5
  repeat refine S.seq ?_
  refine S.skip ?_
  simp (disch:=first|omega|simp only [aA,aB]<;>omega|decide) only [rUz,↓reduceIte,reduceEqDiff,reduceAdd]
  repeat refine S.seq ?_
  refine S.block ?_
  repeat refine S.seq ?_
  refine S.region ?_
  simp (disch:=first|omega|simp only [aA,aB]<;>omega|decide) only [rUz,↓reduceIte,reduceEqDiff,reduceAdd,t1,t3,aC fA0 lrO,qrO,po0,hb1h,q1,q3,qp,cO zrO]
  refine dF (B:=h.nx) (c:=[.bool false,iv 0,iv 0,iv 0,iv 0]) (fam:=h.nx) (k:=h.nx) (l:=cOd x) (by simp (disch:=first|omega|simp only [aA,aB]<;>omega|decide) only [rUz,↓reduceIte,reduceEqDiff,reduceAdd]) (by simp (disch:=first|omega|simp only [aA,aB]<;>omega|decide) only [rUz,↓reduceIte,reduceEqDiff,reduceAdd]) srO (by omega) rfl (aP rfl) (dL rfl) rfl ?_
  have hk4:Kp h ((h.add [.bool false,iv 0,iv 0,iv 0,iv 0]).upd h.nx (cOd x) h.nx):=Kp.refl.add.upd (Nat.le_refl _)
  have hg4:((h.add [.bool false,iv 0,iv 0,iv 0,iv 0]).upd h.nx (cOd x) h.nx).bl.get h.nx = some (.cells (cOd x) h.nx false):=aO _ _ _
  simp (disch:=first|omega|simp only [aA,aB]<;>omega|decide) only [rUz,↓reduceIte,reduceEqDiff,reduceAdd]
  generalize (h.add [.bool false,iv 0,iv 0,iv 0,iv 0]).upd h.nx (cOd x) h.nx = h4 at hk4 hg4 ⊢
  generalize h.nx = B4 at hg4 hnx ⊢
  clear q1 q2 q3 q4 q5 qp hb1h
  replace hk4:=hkp.trans hk4
  clear hkp
  clear h
  repeat refine S.seq ?_
  refine S.region ?_
  generalize hJJ:(fun (t:T Value) (h:AHeap)=>_) = KJ
  suffices hJ:∀ t,tget t 1 = bG B1 → tget t 3 = iv (k:Int) → tget t 55 = .bool (!okO x) → KJ t h4 = true by
   clear hJJ hn he hK'
   unfold okO at hJ
   simp (disch:=first|omega|simp only [aA,aB]<;>omega|decide) only [rUz,↓reduceIte,reduceEqDiff,reduceAdd,aC frO1 s3,p3,hg4,cOd1]
   refine bC (fid:=60) (first:=#[]) (captured:=#[]) (Post:=fun v g=>v = .bool (inB x.l 1 100) ∧ g = h4) rfl (hoff _ _ _ rfl) (by simp (disch:=first|omega|simp only [aA,aB]<;>omega|decide) only [rUz,↓reduceIte,reduceEqDiff,reduceAdd]; exact in_y S h4 x.l 1 100) ?_
   rintro u g - ⟨rfl,rfl⟩
   cases h1:inB x.l 1 100 with
   | false =>
    simp (disch:=first|omega|simp only [aA,aB]<;>omega|decide) only [rUz,↓reduceIte,reduceEqDiff,reduceAdd,dX,h1,Bool.not_false]
    refine hJ _ ?_ ?_ ?_
    all_goals (first|rfl|(simp (disch:=first|omega|simp only [aA,aB]<;>omega|decide) only [rUz,↓reduceIte,reduceEqDiff,reduceAdd,t1,t3,h1,Bool.false_and,Bool.not_false]<;>rfl))
   | true =>
   simp (disch:=first|omega|simp only [aA,aB]<;>omega|decide) only [rUz,↓reduceIte,reduceEqDiff,reduceAdd,dX,h1,Bool.not_true,aC frO2 s3,p3,hg4,cOd2]
   refine bC (fid:=60) (first:=#[]) (captured:=#[]) (Post:=fun v g'=>v = .bool (inB x.n 1 20) ∧ g' = g) rfl (hoff _ _ _ rfl) (by simp (disch:=first|omega|simp only [aA,aB]<;>omega|decide) only [rUz,↓reduceIte,reduceEqDiff,reduceAdd]; exact in_y S g x.n 1 20) ?_
   rintro u g2 - ⟨rfl,rfl⟩
   cases h2:inB x.n 1 20 with
   | false =>
    simp (disch:=first|omega|simp only [aA,aB]<;>omega|decide) only [rUz,↓reduceIte,reduceEqDiff,reduceAdd,dX,h2,Bool.not_false]
    refine hJ _ ?_ ?_ ?_
    all_goals (first|rfl|(simp (disch:=first|omega|simp only [aA,aB]<;>omega|decide) only [rUz,↓reduceIte,reduceEqDiff,reduceAdd,t1,t3,h1,h2,Bool.false_and,Bool.true_and,Bool.not_false]<;>rfl))
   | true =>
   cases h3:decide (0 ≤ x.lo) with
   | false =>
    simp (disch:=first|omega|simp only [aA,aB]<;>omega|decide) only [rUz,↓reduceIte,reduceEqDiff,reduceAdd,dX,h2,Bool.not_true,aC frO3 SrR,aC frR0 s3,p3,hg4,cOd3,ltB,h3,Bool.not_false]
    refine hJ _ ?_ ?_ ?_
    all_goals (first|rfl|(simp (disch:=first|omega|simp only [aA,aB]<;>omega|decide) only [rUz,↓reduceIte,reduceEqDiff,reduceAdd,t1,t3,h1,h2,h3,Bool.false_and,Bool.true_and,Bool.not_false]<;>rfl))
   | true =>
   cases h4':decide (x.lo ≤ x.hi) with
   | false =>
    simp (disch:=first|omega|simp only [aA,aB]<;>omega|decide) only [rUz,↓reduceIte,reduceEqDiff,reduceAdd,dX,h2,Bool.not_true,aC frO3 SrR,aC frR0 s3,aC frR1 s3,p3,hg4,cOd3,cOd4,ltB,h3,h4',Bool.not_false]
    refine hJ _ ?_ ?_ ?_
    all_goals (first|rfl|(simp (disch:=first|omega|simp only [aA,aB]<;>omega|decide) only [rUz,↓reduceIte,reduceEqDiff,reduceAdd,t1,t3,h1,h2,h3,h4',Bool.false_and,Bool.true_and,Bool.not_false]<;>rfl))
   | true =>
    simp (disch:=first|omega|simp only [aA,aB]<;>omega|decide) only [rUz,↓reduceIte,reduceEqDiff,reduceAdd,dX,h2,Bool.not_true,aC frO3 SrR,aC frR0 s3,aC frR1 s3,p3,hg4,cOd3,cOd4,ltB,h3,h4']
    refine hJ _ ?_ ?_ ?_
    all_goals (first|rfl|(simp (disch:=first|omega|simp only [aA,aB]<;>omega|decide) only [rUz,↓reduceIte,reduceEqDiff,reduceAdd,t1,t3,h1,h2,h3,h4',Bool.true_and]<;>rfl))
  intro t t1 t3 t55
  subst hJJ
  simp only [fM]
  cases hok:okO x with
  | false =>
   rw [hok,Bool.false_and] at ha
   repeat refine S.seq ?_
   refine S.cond (v:=true) (by first|rfl|(simp (disch:=first|omega|simp only [aA,aB]<;>omega|decide) only [rUz,↓reduceIte,reduceEqDiff,reduceAdd,t55,hok,Bool.not_false]<;>rfl)) (fun _=>?_) (fun e=>by cases e)
   repeat refine S.seq ?_
   refine S.region ?_
   simp (disch:=first|omega|simp only [aA,aB]<;>omega|decide) only [rUz,↓reduceIte,reduceEqDiff,reduceAdd]
   refine S.ret ?_
   simp only [aJ,aF]
   refine he _ _ _ _ (fun e=>by cases e) ?_
   try simp only [aJ,aF]
   subst hF
   simp only [finish,aI]
   rw [show Tryz.f40.results.toList = [.tmp 2] from rfl]
   simp (disch:=first|omega|simp only [aA,aB]<;>omega|decide) only [bK,aY,aS,aT,aQ,aU,aO,upd_ne,aP,aW,result1]
   exact hK' _ (by rw [ha]; rfl) _ (hk1.trans hk4)
  | true =>
   rw [hok,Bool.true_and] at ha
   repeat refine S.seq ?_
   refine S.cond (v:=false) (by first|rfl|(simp (disch:=first|omega|simp only [aA,aB]<;>omega|decide) only [rUz,↓reduceIte,reduceEqDiff,reduceAdd,t55,hok,Bool.not_true]<;>rfl)) (fun e=>by cases e) (fun _=>?_)
   repeat refine S.seq ?_
   refine S.skip ?_
   simp (disch:=first|omega|simp only [aA,aB]<;>omega|decide) only [rUz,↓reduceIte,reduceEqDiff,reduceAdd]
   repeat refine S.seq ?_
   refine S.region ?_
   simp (disch:=first|omega|simp only [aA,aB]<;>omega|decide) only [rUz,↓reduceIte,reduceEqDiff,reduceAdd,t3]
   refine hn (k + 1) _ _ (by omega) ⟨hk4,?_,?_,ha,by omega⟩
   all_goals (first|rfl|(simp (disch:=first|omega|simp only [aA,aB]<;>omega|decide) only [rUz,↓reduceIte,reduceEqDiff,reduceAdd,t1]<;>rfl))
 have hkn:k = O.length:=by have:=of_decide_eq_false e; omega
 subst hkn
 rw [List.drop_of_length_le (Nat.le_refl _),List.all_nil] at ha
 rw [ha,cond_true] at hK'
 refine S.exit (he _ _ _ _ (fun e=>by cases e) ?_)
 simp (disch:=first|omega|simp only [aA,aB]<;>omega|decide) only [rUz,↓reduceIte,reduceEqDiff,reduceAdd]
 repeat refine S.seq ?_
 refine S.region ?_
 simp (disch:=first|omega|simp only [aA,aB]<;>omega|decide) only [rUz,↓reduceIte,reduceEqDiff,reduceAdd]
 refine S.ret ?_
 try simp only [aJ,aF]
 subst hF
 simp only [finish,aI]
 rw [show Tryz.f40.results.toList = [.tmp 2] from rfl]
 simp (disch:=first|omega|simp only [aA,aB]<;>omega|decide) only [bK,aY,aS,aT,aQ,aU,aO,upd_ne,aP,aW,result1]
 exact hK' _ rfl _ (hk1.trans hkp)
/-! ## What a post without an error has -/
structure OkO (x:Od):Prop where
 l1:1 ≤ x.l
 l2:x.l ≤ 100
 n1:1 ≤ x.n
 n2:x.n ≤ 20
 m0:0 ≤ x.lo
 m1:x.lo ≤ x.hi
 m2:x.hi ≤ 30
theorem okO_iff {x:Od}:okO x = true ↔ OkO x:=by
 simp only [okO,Bool.and_eq_true,decide_eq_true_eq,uX]
 exact ⟨fun h=>⟨h.1.1,h.1.2,h.2.1.1,h.2.1.2,h.2.2.1,h.2.2.2.1,h.2.2.2.2⟩,fun h=>⟨⟨h.l1,h.l2⟩,⟨h.n1,h.n2⟩,h.m0,h.m1,h.m2⟩⟩
structure Val (O:List Od):Prop where
 l1:1 ≤ O.length
 l6:O.length ≤ 6
 ok:∀ x,x ∈ O → OkO x
theorem nM {O:List Od}:dY O = 0 ↔ Val O:=by
 unfold dY
 constructor
 ·intro h
  cases h1:fewB O with
  | false=>rw [h1,cond_false] at h; omega
  | true =>
   rw [h1,cond_true] at h
   cases h2:oL O with
   | false=>rw [h2,cond_false] at h; omega
   | true =>
    simp only [fewB,oL,Bool.and_eq_true,decide_eq_true_eq,List.all_eq_true,Bool.not_eq_true',decide_eq_false_iff_not] at h1 h2
    exact ⟨by omega,by omega,fun x hx=>okO_iff.1 (h2.2 x hx)⟩
 ·intro h
  have h0:=h.l1
  have h6:=h.l6
  have h1:fewB O = true:=by unfold fewB; rw [decide_eq_true_eq]; omega
  have h2:oL O = true:=by
   simp only [oL,Bool.and_eq_true,List.all_eq_true,Bool.not_eq_true',decide_eq_false_iff_not]
   exact ⟨by omega,fun x hx=>okO_iff.2 (h.ok x hx)⟩
  rw [h1,h2]; rfl
/-! ## The program's own tests -/
theorem isMin_y (S:Ev.Steps Tryz.prog pr R) (h0:AHeap) (r:I2):bD Tryz.prog R 110 [.agg ⟨c2 r⟩] h0 fun u _=>u = .bool (decide (0 ≤ r.1) && (decide (r.1 ≤ r.2) && decide (r.2 ≤ 30))):=by
 refine aV (fn:=Tryz.f110) (c:=(Tryz.f110.body).getD .skip) (by kernel_rfl) rfl (by kernel_rfl) rfl (fun K hK=>?_)
 generalize hF:finish Tryz.prog Tryz.f110 K = KF
 simp only [Tryz.f110,Option.getD_some,bJ,aX,aZ,T.setK_eq,id]
 have hK':∀ b,b = (decide (0 ≤ r.1) && (decide (r.1 ≤ r.2) && decide (r.2 ≤ 30))) → ∀ g,Kp h0 g → K (.bool b) g = true:=fun b e g hk=>hK _ _ hk (by rw [e])
 clear hK
 repeat refine S.seq ?_
 refine S.region ?_
 simp (disch:=first|omega|simp only [aA,aB]<;>omega|decide) only [rUz,↓reduceIte,reduceEqDiff,reduceAdd]
 cases h1:decide (0 ≤ r.1) with
 | false =>
  rw [h1,Bool.false_and] at hK'
  repeat refine S.seq ?_
  refine S.region ?_
  simp (disch:=first|omega|simp only [aA,aB]<;>omega|decide) only [rUz,↓reduceIte,reduceEqDiff,reduceAdd,aC fcR0 s3,p3,c20,h1]
  refine S.ret ?_
  try simp only [aJ,aF]
  subst hF
  simp only [finish,aI]
  rw [show Tryz.f110.results.toList = [.tmp 2] from rfl]
  simp (disch:=first|omega|simp only [aA,aB]<;>omega|decide) only [bK,aY,aS,aT,aQ,aU,aO,upd_ne,aP,aW,result1]
  exact hK' _ rfl _ Kp.refl.add
 | true =>
 rw [h1,Bool.true_and] at hK'
 cases h2:decide (r.1 ≤ r.2) with
 | false =>
  rw [h2,Bool.false_and] at hK'
  repeat refine S.seq ?_
  refine S.region ?_
  simp (disch:=first|omega|simp only [aA,aB]<;>omega|decide) only [rUz,↓reduceIte,reduceEqDiff,reduceAdd,aC fcR0 s3,aC fcR1 s3,p3,c20,c21,h1,h2]
  refine S.ret ?_
  try simp only [aJ,aF]
  subst hF
  simp only [finish,aI]
  rw [show Tryz.f110.results.toList = [.tmp 2] from rfl]
  simp (disch:=first|omega|simp only [aA,aB]<;>omega|decide) only [bK,aY,aS,aT,aQ,aU,aO,upd_ne,aP,aW,result1]
  exact hK' _ rfl _ Kp.refl.add
 | true =>
  rw [h2,Bool.true_and] at hK'
  repeat refine S.seq ?_
  refine S.region ?_
  simp (disch:=first|omega|simp only [aA,aB]<;>omega|decide) only [rUz,↓reduceIte,reduceEqDiff,reduceAdd,aC fcR0 s3,aC fcR1 s3,p3,c20,c21,h1,h2]
  refine S.ret ?_
  try simp only [aJ,aF]
  subst hF
  simp only [finish,aI]
  rw [show Tryz.f110.results.toList = [.tmp 2] from rfl]
  simp (disch:=first|omega|simp only [aA,aB]<;>omega|decide) only [bK,aY,aS,aT,aQ,aU,aO,upd_ne,aP,aW,result1]
  exact hK' _ rfl _ Kp.refl.add
theorem validO_y (S:Ev.Steps Tryz.prog pr R) (hoff:Off pr) (h0:AHeap) (x:Od):bD Tryz.prog R 90 [.agg ⟨cOd x⟩] h0 fun u _=>u = .bool (okO x):=by
 refine aV (fn:=Tryz.f90) (c:=(Tryz.f90.body).getD .skip) (by kernel_rfl) rfl (by kernel_rfl) rfl (fun K hK=>?_)
 generalize hF:finish Tryz.prog Tryz.f90 K = KF
 simp only [Tryz.f90,Option.getD_some,bJ,aX,aZ,T.setK_eq,id]
 have hK':∀ b,b = okO x → ∀ g,Kp h0 g → K (.bool b) g = true:=fun b e g hk=>hK _ _ hk (by rw [e])
 clear hK
 unfold okO inB at hK'
 repeat refine S.seq ?_
 refine S.region ?_
 simp (disch:=first|omega|simp only [aA,aB]<;>omega|decide) only [rUz,↓reduceIte,reduceEqDiff,reduceAdd]
 cases h1:decide (1 ≤ x.l) with
 | false =>
  rw [h1,Bool.false_and,Bool.false_and] at hK'
  repeat refine S.seq ?_
  refine S.region ?_
  simp (disch:=first|omega|simp only [aA,aB]<;>omega|decide) only [rUz,↓reduceIte,reduceEqDiff,reduceAdd,aC fcO1 s3,p3,cOd1,h1]
  repeat refine S.seq ?_
  refine S.region ?_
  simp (disch:=first|omega|simp only [aA,aB]<;>omega|decide) only [rUz,↓reduceIte,reduceEqDiff,reduceAdd]
  refine S.ret ?_
  try simp only [aJ,aF]
  subst hF
  simp only [finish,aI]
  rw [show Tryz.f90.results.toList = [.tmp 2] from rfl]
  simp (disch:=first|omega|simp only [aA,aB]<;>omega|decide) only [bK,aY,aS,aT,aQ,aU,aO,upd_ne,aP,aW,result1]
  exact hK' _ rfl _ Kp.refl.add
 | true =>
 rw [h1,Bool.true_and] at hK'
 repeat refine S.seq ?_
 refine S.region ?_
 simp (disch:=first|omega|simp only [aA,aB]<;>omega|decide) only [rUz,↓reduceIte,reduceEqDiff,reduceAdd,aC fcO1 s3,p3,cOd1,h1]
 cases h2:decide (x.l ≤ 100) with
 | false =>
  rw [h2,Bool.false_and] at hK'
  repeat refine S.seq ?_
  refine S.region ?_
  simp (disch:=first|omega|simp only [aA,aB]<;>omega|decide) only [rUz,↓reduceIte,reduceEqDiff,reduceAdd,h2]
  refine S.ret ?_
  try simp only [aJ,aF]
  subst hF
  simp only [finish,aI]
  rw [show Tryz.f90.results.toList = [.tmp 2] from rfl]
  simp (disch:=first|omega|simp only [aA,aB]<;>omega|decide) only [bK,aY,aS,aT,aQ,aU,aO,upd_ne,aP,aW,result1]
  exact hK' _ rfl _ Kp.refl.add
 | true =>
 rw [h2,Bool.true_and] at hK'
 cases h3:decide (1 ≤ x.n) with
 | false =>
  rw [h3,Bool.false_and,Bool.false_and] at hK'
  repeat refine S.seq ?_
  refine S.region ?_
  simp (disch:=first|omega|simp only [aA,aB]<;>omega|decide) only [rUz,↓reduceIte,reduceEqDiff,reduceAdd,aC fcO2 s3,p3,cOd2,h2,h3]
  refine S.ret ?_
  try simp only [aJ,aF]
  subst hF
  simp only [finish,aI]
  rw [show Tryz.f90.results.toList = [.tmp 2] from rfl]
  simp (disch:=first|omega|simp only [aA,aB]<;>omega|decide) only [bK,aY,aS,aT,aQ,aU,aO,upd_ne,aP,aW,result1]
  exact hK' _ rfl _ Kp.refl.add
 | true =>
 rw [h3,Bool.true_and] at hK'
 cases h4:decide (x.n ≤ 20) with
 | false =>
  rw [h4,Bool.false_and] at hK'
  repeat refine S.seq ?_
  refine S.region ?_
  simp (disch:=first|omega|simp only [aA,aB]<;>omega|decide) only [rUz,↓reduceIte,reduceEqDiff,reduceAdd,aC fcO2 s3,p3,cOd2,h2,h3,h4]
  refine S.ret ?_
  try simp only [aJ,aF]
  subst hF
  simp only [finish,aI]
  rw [show Tryz.f90.results.toList = [.tmp 2] from rfl]
  simp (disch:=first|omega|simp only [aA,aB]<;>omega|decide) only [bK,aY,aS,aT,aQ,aU,aO,upd_ne,aP,aW,result1]
  exact hK' _ rfl _ Kp.refl.add
 | true =>
 rw [h4,Bool.true_and] at hK'
 repeat refine S.seq ?_
 refine S.region ?_
 simp (disch:=first|omega|simp only [aA,aB]<;>omega|decide) only [rUz,↓reduceIte,reduceEqDiff,reduceAdd,aC fcO2 s3,aC fcO3 ScR,p3,cOd2,k3O,h2,h3,h4]
 refine bC (fid:=110) (first:=#[]) (captured:=#[]) (Post:=fun u _=>u = .bool (decide (0 ≤ x.lo) && (decide (x.lo ≤ x.hi) && decide (x.hi ≤ 30)))) rfl (hoff _ _ _ rfl) (by simp (disch:=first|omega|simp only [aA,aB]<;>omega|decide) only [rUz,↓reduceIte,reduceEqDiff,reduceAdd]; exact isMin_y S _ (c2o x)) ?_
 rintro u g hk rfl
 simp (disch:=first|omega|simp only [aA,aB]<;>omega|decide) only [rUz,↓reduceIte,reduceEqDiff,reduceAdd]
 refine S.ret ?_
 try simp only [aJ,aF]
 subst hF
 simp only [finish,aI]
 rw [show Tryz.f90.results.toList = [.tmp 2] from rfl]
 simp (disch:=first|omega|simp only [aA,aB]<;>omega|decide) only [bK,aY,aS,aT,aQ,aU,aO,upd_ne,aP,aW,result1]
 exact hK' _ rfl _ (Kp.refl.add.trans hk)
theorem isFew_y (S:Ev.Steps Tryz.prog pr R) (h0:AHeap) (v:Value) (O:List Od) (hb:PoAt h0 v O):bD Tryz.prog R 66 [.agg ⟨poV v⟩] h0 fun u _=>u = .bool (fewB O):=by
 refine aV (fn:=Tryz.f66) (c:=(Tryz.f66.body).getD .skip) (by kernel_rfl) rfl (by kernel_rfl) rfl (fun K hK=>?_)
 generalize hF:finish Tryz.prog Tryz.f66 K = KF
 simp only [Tryz.f66,Option.getD_some,bJ,aX,aZ,T.setK_eq,id]
 have lO:=fun t h1 o=>dQ hb iscO t h1 o
 unfold fewB at hK
 repeat refine S.seq ?_
 refine S.region ?_
 simp (disch:=first|omega|simp only [aA,aB]<;>omega|decide) only [rUz,↓reduceIte,reduceEqDiff,reduceAdd]
 repeat refine S.seq ?_
 refine S.region ?_
 simp (disch:=first|omega|simp only [aA,aB]<;>omega|decide) only [rUz,↓reduceIte,reduceEqDiff,reduceAdd,aC fB0 lcO,qcO,po0,lO]
 refine S.ret ?_
 try simp only [aJ,aF]
 subst hF
 simp only [finish,aI]
 rw [show Tryz.f66.results.toList = [.tmp 2] from rfl]
 simp (disch:=first|omega|simp only [aA,aB]<;>omega|decide) only [bK,aY,aS,aT,aQ,aU,aO,upd_ne,aP,aW,result1]
 exact hK _ _ Kp.refl.add rfl
theorem isValid_y (S:Ev.Steps Tryz.prog pr R) (hoff:Off pr) (h0:AHeap) (v:Value) (O:List Od) (hb:PoAt h0 v O) (h9:O.length ≤ 9):bD Tryz.prog R 67 [.agg ⟨poV v⟩] h0 fun u _=>u = .bool (oL O):=by
 refine aV (fn:=Tryz.f67) (c:=(Tryz.f67.body).getD .skip) (by kernel_rfl) rfl (by kernel_rfl) rfl (fun K hK=>?_)
 generalize hF:finish Tryz.prog Tryz.f67 K = KF
 simp only [Tryz.f67,Option.getD_some,bJ,aX,aZ,T.setK_eq,id]
 have hK':∀ b,b = oL O → ∀ g,Kp h0 g → K (.bool b) g = true:=fun b e g hk=>hK _ _ hk (by rw [e])
 clear hK
 have lO:=fun t h1 o=>dQ hb iscO t h1 o
 unfold oL at hK'
 repeat refine S.seq ?_
 refine S.region ?_
 simp (disch:=first|omega|simp only [aA,aB]<;>omega|decide) only [rUz,↓reduceIte,reduceEqDiff,reduceAdd]
 cases h2:decide ((O.length:Int) = 0) with
 | true =>
  have h0':=of_decide_eq_true h2
  have hd:decide ((0:Int) < (O.length:Int)) = false:=decide_eq_false (by omega)
  rw [h2,Bool.not_true,Bool.false_and] at hK'
  repeat refine S.seq ?_
  refine S.region ?_
  simp (disch:=first|omega|simp only [aA,aB]<;>omega|decide) only [rUz,↓reduceIte,reduceEqDiff,reduceAdd,aC fB0 lcO,qcO,po0,lO,hd]
  refine S.ret ?_
  try simp only [aJ,aF]
  subst hF
  simp only [finish,aI]
  rw [show Tryz.f67.results.toList = [.tmp 2] from rfl]
  simp (disch:=first|omega|simp only [aA,aB]<;>omega|decide) only [bK,aY,aS,aT,aQ,aU,aO,upd_ne,aP,aW,result1]
  exact hK' _ rfl _ Kp.refl.add
 | false =>
  have h0':=of_decide_eq_false h2
  have hd:decide ((0:Int) < (O.length:Int)) = true:=decide_eq_true (by omega)
  rw [h2,Bool.not_false,Bool.true_and] at hK'
  repeat refine S.seq ?_
  refine S.region ?_
  simp (disch:=first|omega|simp only [aA,aB]<;>omega|decide) only [rUz,↓reduceIte,reduceEqDiff,reduceAdd,aC fB0 lcO,qcO,po0,lO,hd]
  refine bC (fid:=89) (first:=#[]) (captured:=#[]) (Post:=fun u _=>u = .bool (O.all okO)) rfl (hoff _ _ _ rfl) (by simp (disch:=first|omega|simp only [aA,aB]<;>omega|decide) only [rUz,↓reduceIte,reduceEqDiff,reduceAdd]; exact allcO_y S hoff _ v O (hb.mono Kp.refl.add) (by omega) 90 rfl #[] okO (fun h' _ c _=>validO_y S hoff h' c)) ?_
  rintro u g hk rfl
  simp (disch:=first|omega|simp only [aA,aB]<;>omega|decide) only [rUz,↓reduceIte,reduceEqDiff,reduceAdd]
  refine S.ret ?_
  try simp only [aJ,aF]
  subst hF
  simp only [finish,aI]
  rw [show Tryz.f67.results.toList = [.tmp 2] from rfl]
  simp (disch:=first|omega|simp only [aA,aB]<;>omega|decide) only [bK,aY,aS,aT,aQ,aU,aO,upd_ne,aP,aW,result1]
  exact hK' _ rfl _ (Kp.refl.add.trans hk)
theorem checkPost_y (S:Ev.Steps Tryz.prog pr R) (hoff:Off pr) (h0:AHeap) (v:Value) (O:List Od) (hb:PoAt h0 v O) (h9:O.length ≤ 9):bD Tryz.prog R 45 [.agg ⟨poV v⟩] h0 fun u _=>u = iv (dY O):=by
 refine aV (fn:=Tryz.f45) (c:=(Tryz.f45.body).getD .skip) (by kernel_rfl) rfl (by kernel_rfl) rfl (fun K hK=>?_)
 generalize hF:finish Tryz.prog Tryz.f45 K = KF
 simp only [Tryz.f45,Option.getD_some,bJ,aX,aZ,T.setK_eq,id]
 have hK':∀ n,n = dY O → ∀ g,Kp h0 g → K (iv n) g = true:=fun b e g hk=>hK _ _ hk (by rw [e])
 clear hK
 unfold dY at hK'
 repeat refine S.seq ?_
 refine S.region ?_
 simp (disch:=first|omega|simp only [aA,aB]<;>omega|decide) only [rUz,↓reduceIte,reduceEqDiff,reduceAdd]
 have hb1:(h0.add (poV v)).bl.get h0.nx = some (.cells (poV v) h0.nx false):=aP rfl
 have hn1:h0.nx < (h0.add (poV v)).nx:=Nat.lt_succ_self _
 have hk1:Kp h0 (h0.add (poV v)):=Kp.refl.add
 generalize h0.add (poV v) = H at hb1 hn1 hk1 ⊢
 generalize h0.nx = B1 at hb1 hn1 ⊢
 have hbH:=hb.mono hk1
 repeat refine S.seq ?_
 refine S.region ?_
 simp (disch:=first|omega|simp only [aA,aB]<;>omega|decide) only [rUz,↓reduceIte,reduceEqDiff,reduceAdd,hb1,bT pB (dR v)]
 refine bC (fid:=66) (first:=#[]) (captured:=#[]) (Post:=fun u _=>u = .bool (fewB O)) rfl (hoff _ _ _ rfl) (by simp (disch:=first|omega|simp only [aA,aB]<;>omega|decide) only [rUz,↓reduceIte,reduceEqDiff,reduceAdd]; exact isFew_y S H v O hbH) ?_
 rintro u g hkg rfl
 have hb1g:=(hkg.get hn1).trans hb1
 cases h1:fewB O with
 | false =>
  rw [h1,cond_false] at hK'
  simp (disch:=first|omega|simp only [aA,aB]<;>omega|decide) only [rUz,↓reduceIte,reduceEqDiff,reduceAdd,dX,h1,Bool.not_false]
  repeat refine S.seq ?_
  refine S.cond (v:=true) (by first|rfl|(simp (disch:=first|omega|simp only [aA,aB]<;>omega|decide) only [rUz,↓reduceIte,reduceEqDiff,reduceAdd]<;>rfl)) (fun _=>?_) (fun e=>by cases e)
  repeat refine S.seq ?_
  refine S.region ?_
  simp (disch:=first|omega|simp only [aA,aB]<;>omega|decide) only [rUz,↓reduceIte,reduceEqDiff,reduceAdd]
  refine S.ret ?_
  try simp only [aJ,aF]
  subst hF
  simp only [finish,aI]
  rw [show Tryz.f45.results.toList = [.tmp 2] from rfl]
  simp (disch:=first|omega|simp only [aA,aB]<;>omega|decide) only [bK,aY,aS,aT,aQ,aU,aO,upd_ne,aP,aW,result1]
  exact hK' _ rfl _ (hk1.trans hkg)
 | true =>
 rw [h1,cond_true] at hK'
 simp (disch:=first|omega|simp only [aA,aB]<;>omega|decide) only [rUz,↓reduceIte,reduceEqDiff,reduceAdd,dX,h1,Bool.not_true]
 repeat refine S.seq ?_
 refine S.cond (v:=false) (by first|rfl|(simp (disch:=first|omega|simp only [aA,aB]<;>omega|decide) only [rUz,↓reduceIte,reduceEqDiff,reduceAdd]<;>rfl)) (fun e=>by cases e) (fun _=>?_)
 repeat refine S.seq ?_
 refine S.skip ?_
 simp (disch:=first|omega|simp only [aA,aB]<;>omega|decide) only [rUz,↓reduceIte,reduceEqDiff,reduceAdd]
 repeat refine S.seq ?_
 refine S.region ?_
 simp (disch:=first|omega|simp only [aA,aB]<;>omega|decide) only [rUz,↓reduceIte,reduceEqDiff,reduceAdd,hb1g,bT pB (dR v)]
 refine bC (fid:=67) (first:=#[]) (captured:=#[]) (Post:=fun u _=>u = .bool (oL O)) rfl (hoff _ _ _ rfl) (by simp (disch:=first|omega|simp only [aA,aB]<;>omega|decide) only [rUz,↓reduceIte,reduceEqDiff,reduceAdd]; exact isValid_y S hoff g v O (hbH.mono hkg) h9) ?_
 rintro u g2 hkg2 rfl
 cases h2:oL O with
 | false =>
  rw [h2,cond_false] at hK'
  simp (disch:=first|omega|simp only [aA,aB]<;>omega|decide) only [rUz,↓reduceIte,reduceEqDiff,reduceAdd,dX,h2,Bool.not_false]
  repeat refine S.seq ?_
  refine S.cond (v:=true) (by first|rfl|(simp (disch:=first|omega|simp only [aA,aB]<;>omega|decide) only [rUz,↓reduceIte,reduceEqDiff,reduceAdd]<;>rfl)) (fun _=>?_) (fun e=>by cases e)
  repeat refine S.seq ?_
  refine S.region ?_
  simp (disch:=first|omega|simp only [aA,aB]<;>omega|decide) only [rUz,↓reduceIte,reduceEqDiff,reduceAdd]
  refine S.ret ?_
  try simp only [aJ,aF]
  subst hF
  simp only [finish,aI]
  rw [show Tryz.f45.results.toList = [.tmp 2] from rfl]
  simp (disch:=first|omega|simp only [aA,aB]<;>omega|decide) only [bK,aY,aS,aT,aQ,aU,aO,upd_ne,aP,aW,result1]
  exact hK' _ rfl _ (hk1.trans (hkg.trans hkg2))
 | true =>
 rw [h2,cond_true] at hK'
 simp (disch:=first|omega|simp only [aA,aB]<;>omega|decide) only [rUz,↓reduceIte,reduceEqDiff,reduceAdd,dX,h2,Bool.not_true]
 repeat refine S.seq ?_
 refine S.cond (v:=false) (by first|rfl|(simp (disch:=first|omega|simp only [aA,aB]<;>omega|decide) only [rUz,↓reduceIte,reduceEqDiff,reduceAdd]<;>rfl)) (fun e=>by cases e) (fun _=>?_)
 repeat refine S.seq ?_
 refine S.skip ?_
 simp (disch:=first|omega|simp only [aA,aB]<;>omega|decide) only [rUz,↓reduceIte,reduceEqDiff,reduceAdd]
 repeat refine S.seq ?_
 refine S.region ?_
 simp (disch:=first|omega|simp only [aA,aB]<;>omega|decide) only [rUz,↓reduceIte,reduceEqDiff,reduceAdd]
 refine S.ret ?_
 try simp only [aJ,aF]
 subst hF
 simp only [finish,aI]
 rw [show Tryz.f45.results.toList = [.tmp 2] from rfl]
 simp (disch:=first|omega|simp only [aA,aB]<;>omega|decide) only [bK,aY,aS,aT,aQ,aU,aO,upd_ne,aP,aW,result1]
 exact hK' _ rfl _ (hk1.trans (hkg.trans hkg2))
end Go.Proofs.Po
