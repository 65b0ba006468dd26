import Derived.Test.YthgmipngikdknaaGreatPoK
/- Whether a list is a truth; the course of a post in a truth; Play. -/
namespace Go.Proofs.Po
open Nat (reduceEqDiff reduceAdd reduceSub)
open Go Go.Ev Go.RowKit
set_option linter.unusedSimpArgs false
variable {pr:Prim} {R:ExT}
structure IEq (cs:List Od) (ps:List Int) (q:Od × Int → Bool) (H:AHeap) (cv pv fv:Value) (k:Nat) (t:T Value) (h:AHeap):Prop where
 kp:Kp H h
 ha:(List.zip cs ps).all q = ((List.zip cs ps).drop k).all q
 t1:tget t 1 = pv
 t2:tget t 2 = fv
 t15:tget t 15 = cv
 t16:tget t 16 = iv (cs.length:Int)
 t17:tget t 17 = iv (k:Int)
 hk:k ≤ cs.length
set_option maxHeartbeats 8000000 in
theorem eqOI_y (S:Ev.Steps Tryz.prog pr R) (hoff:Off pr) (h0:AHeap) (cv pv:Value) (cs:List Od) (ps:List Int) (hc:SlAt h0 5 cv (cs.map cOd)) (hp:IAt h0 pv ps) (hsz:(cs.length:Int) ≤ 1000000) (G:FuncId) (hG:offB G = true) (q:Od × Int → Bool)
  (hq:∀ h',Kp h0 h' → ∀ x p,x ∈ cs → p ∈ ps → bD Tryz.prog R G [.agg ⟨cOd x⟩,iv p] h' fun u _=>u = .bool (q (x,p))) :
  bD Tryz.prog R 84 [cv,pv,.func (.func G) #[] #[]] h0 fun u _=>u = .bool (decide ((cs.length:Int) = (ps.length:Int)) && (List.zip cs ps).all q):=by
 refine aW (fn:=Tryz.f84) (c:=(Tryz.f84.body).getD .skip) (by kernel_rfl) rfl (by kernel_rfl) rfl (fun K hK=>?_)
 generalize hF:finish Tryz.prog Tryz.f84 K = KF
 simp only [Tryz.f84,Option.getD_some,bI,aZ,bC,T.setK_eq,id]
 have hlen:=fun t h1 o=>dI hc iscO t h1 o
 have plen:=fun t h1 o=>o7 hp t h1 o
 have hKb:(decide ((cs.length:Int) = (ps.length:Int)) && (List.zip cs ps).all q) = false → ∀ g,Kp h0 g → K (.bool false) g = true:=fun e g hk=>hK _ _ hk (by rw [e])
 have hKg:(decide ((cs.length:Int) = (ps.length:Int)) && (List.zip cs ps).all q) = true → ∀ g,Kp h0 g → K (.bool true) g = true:=fun e g hk=>hK _ _ hk (by rw [e])
 clear hK
 repeat refine S.seq ?_
 refine S.region ?_
 simp (disch:=first|omega|simp only [aA,aB]<;>omega|decide) only [rUz,↓reduceIte,reduceEqDiff,reduceAdd]
 cases h1:decide ((cs.length:Int) = (ps.length:Int)) with
 | false =>
  rw [h1,Bool.false_and] at hKb
  repeat refine S.seq ?_
  refine S.region ?_
  simp (disch:=first|omega|simp only [aA,aB]<;>omega|decide) only [rUz,↓reduceIte,reduceEqDiff,reduceAdd,hlen,plen,h1,Bool.not_false]
  repeat refine S.seq ?_
  refine S.cond (v:=true) (by first|rfl|(simp (disch:=first|omega|simp only [aA,aB]<;>omega|decide) only [rUz,↓reduceIte,reduceEqDiff,reduceAdd]<;>rfl)) (fun _=>?_) (fun e=>by cases e)
  repeat refine S.seq ?_
  refine S.region ?_
  simp (disch:=first|omega|simp only [aA,aB]<;>omega|decide) only [rUz,↓reduceIte,reduceEqDiff,reduceAdd]
  refine S.ret ?_
  try simp only [aI,aF]
  subst hF
  simp only [finish,aJ]
  rw [show Tryz.f84.results.toList = [.tmp 6] from rfl]
  simp (disch:=first|omega|simp only [aA,aB]<;>omega|decide) only [bH,aY,aQ,aS,aT,aU,aO,upd_ne,aP,aX,result1]
  exact hKb rfl _ Kp.refl
 | true =>
 rw [h1,Bool.true_and] at hKb hKg
 repeat refine S.seq ?_
 refine S.region ?_
 simp (disch:=first|omega|simp only [aA,aB]<;>omega|decide) only [rUz,↓reduceIte,reduceEqDiff,reduceAdd,hlen,plen,h1,Bool.not_true]
 repeat refine S.seq ?_
 refine S.cond (v:=false) (by first|rfl|(simp (disch:=first|omega|simp only [aA,aB]<;>omega|decide) only [rUz,↓reduceIte,reduceEqDiff,reduceAdd]<;>rfl)) (fun e=>by cases e) (fun _=>?_)
 repeat refine S.seq ?_
 refine S.skip ?_
 simp (disch:=first|omega|simp only [aA,aB]<;>omega|decide) only [rUz,↓reduceIte,reduceEqDiff,reduceAdd]
 have hcp:=of_decide_eq_true h1
 have hzl:(List.zip cs ps).length = cs.length:=by rw [List.length_zip]; omega
 repeat refine S.seq ?_
 refine S.region ?_
 simp (disch:=first|omega|simp only [aA,aB]<;>omega|decide) only [rUz,↓reduceIte,reduceEqDiff,reduceAdd,hlen]
 repeat refine S.seq ?_
 refine S.block ?_
 refine S.loop (ι:=Nat) (IEq cs ps q h0 cv pv (.func (.func G) #[] #[])) (fun k=>cs.length - k) ?_ 0 _ _ ?_
 rotate_left
 ·refine ⟨Kp.refl,rfl,?_,?_,?_,?_,?_,Nat.zero_le _⟩
  all_goals (first|rfl|(simp (disch:=first|omega|simp only [aA,aB]<;>omega|decide) only [rUz,↓reduceIte,reduceEqDiff,reduceAdd]<;>rfl))
 intro k t h ⟨hkp,ha,t1,t2,t15,t16,t17,hk⟩ K' hn he
 have hnx:=hkp.1
 repeat refine S.seq ?_
 refine S.region ?_
 simp (disch:=first|omega|simp only [aA,aB]<;>omega|decide) only [rUz,↓reduceIte,reduceEqDiff,reduceAdd,t16,t17]
 repeat refine S.seq ?_
 refine S.cond (v:=decide ((k:Int) < (cs.length:Int))) (by first|rfl|(simp (disch:=first|omega|simp only [aA,aB]<;>omega|decide) only [rUz,↓reduceIte,reduceEqDiff,reduceAdd]<;>rfl)) (fun e=>?_) (fun e=>?_)
 ·have hkn:k < cs.length:=by have:=of_decide_eq_true e; omega
  clear e
  have hkq:k < ps.length:=by omega
  have hkz:k < (List.zip cs ps).length:=by omega
  have hgz:(List.zip cs ps)[k] = (cs[k],ps[k]):=List.getElem_zip
  rw [List.drop_eq_getElem_cons hkz,List.all_cons,hgz] at ha
  have hps:cs[k]? = some cs[k]:=List.getElem?_eq_getElem hkn
  have hpp:ps[k]? = some ps[k]:=List.getElem?_eq_getElem hkq
  have hxm:cs[k] ∈ cs:=List.getElem_mem hkn
  have hpm:ps[k] ∈ ps:=List.getElem_mem hkq
  obtain ⟨rb,rf,rw0,r1,r2,r3,r4⟩:=(hp.mono hkp).idx slI s3' hkq
  generalize ps[k] = p at ha hpp hpm r4
  generalize cs[k] = x at ha hps hxm
  obtain ⟨b,f,ro,cells,q1,q2,q3,q4,q5,_⟩:=dH (SlAt.mono hc hkp) slcO scO hps
  have qp:=fF pcO q4 q5
  repeat refine S.seq ?_
  refine S.skip ?_
  simp (disch:=first|omega|simp only [aA,aB]<;>omega|decide) only [rUz,↓reduceIte,reduceEqDiff,reduceAdd]
  repeat refine S.seq ?_
  refine S.block ?_
  repeat refine S.seq ?_
  refine S.region ?_
  simp (disch:=first|omega|simp only [aA,aB]<;>omega|decide) only [rUz,↓reduceIte,reduceEqDiff,reduceAdd,t15,t17,q1,q3,qp,bU zcO]
  refine dE (B:=h.nx) (c:=[.bool false,iv 0,iv 0,iv 0,iv 0]) (fam:=h.nx) (k:=h.nx) (l:=cOd x) (by simp (disch:=first|omega|simp only [aA,aB]<;>omega|decide) only [rUz,↓reduceIte,reduceEqDiff,reduceAdd]) (by simp (disch:=first|omega|simp only [aA,aB]<;>omega|decide) only [rUz,↓reduceIte,reduceEqDiff,reduceAdd]) scO (by omega) rfl (aP rfl) (dL rfl) rfl ?_
  have hk0:Kp h ((h.add [.bool false,iv 0,iv 0,iv 0,iv 0]).upd h.nx (cOd x) h.nx):=Kp.refl.add.upd (Nat.le_refl _)
  have hk4:Kp h0 ((h.add [.bool false,iv 0,iv 0,iv 0,iv 0]).upd h.nx (cOd x) h.nx):=hkp.add.upd hnx
  have hg4:((h.add [.bool false,iv 0,iv 0,iv 0,iv 0]).upd h.nx (cOd x) h.nx).bl.get h.nx = some (.cells (cOd x) h.nx false):=aO _ _ _
  simp (disch:=first|omega|simp only [aA,aB]<;>omega|decide) only [rUz,↓reduceIte,reduceEqDiff,reduceAdd]
  generalize (h.add [.bool false,iv 0,iv 0,iv 0,iv 0]).upd h.nx (cOd x) h.nx = h4 at hk0 hk4 hg4 ⊢
  have hr3:=(hk0.get r2).trans r3
  generalize h.nx = B8 at hg4 ⊢
  repeat refine S.seq ?_
  refine S.region ?_
  simp (disch:=first|omega|simp only [aA,aB]<;>omega|decide) only [rUz,↓reduceIte,reduceEqDiff,reduceAdd,t1,r1,hr3,p3,r4]
  repeat refine S.seq ?_
  refine S.region ?_
  simp (disch:=first|omega|simp only [aA,aB]<;>omega|decide) only [rUz,↓reduceIte,reduceEqDiff,reduceAdd,t2,hg4,bP pcO (cOd_len x)]
  refine aV (fid:=G) (first:=#[]) (captured:=#[]) (Post:=fun u _=>u = .bool (q (x,p))) (by simp (disch:=first|omega|simp only [aA,aB]<;>omega|decide) only [rUz,↓reduceIte,reduceEqDiff,reduceAdd]) (hoff _ _ _ hG) (by simp (disch:=first|omega|simp only [aA,aB]<;>omega|decide) only [rUz,↓reduceIte,reduceEqDiff,reduceAdd]; exact hq _ hk4 x p hxm hpm) ?_
  rintro u g hkg rfl
  simp (disch:=first|omega|simp only [aA,aB]<;>omega|decide) only [rUz,↓reduceIte,reduceEqDiff,reduceAdd,dR]
  cases hqp:q (x,p) with
  | true =>
   rw [hqp,Bool.true_and] at ha
   repeat refine S.seq ?_
   refine S.cond (v:=false) (by first|rfl|(simp (disch:=first|omega|simp only [aA,aB]<;>omega|decide) only [rUz,↓reduceIte,reduceEqDiff,reduceAdd,hqp,Bool.not_true]<;>rfl)) (fun e=>by cases e) (fun _=>?_)
   repeat refine S.seq ?_
   refine S.skip ?_
   simp (disch:=first|omega|simp only [aA,aB]<;>omega|decide) only [rUz,↓reduceIte,reduceEqDiff,reduceAdd]
   repeat refine S.seq ?_
   refine S.region ?_
   simp (disch:=first|omega|simp only [aA,aB]<;>omega|decide) only [rUz,↓reduceIte,reduceEqDiff,reduceAdd,t17]
   refine hn (k + 1) _ _ (by omega) ⟨hk4.trans hkg,ha,?_,?_,?_,?_,?_,by omega⟩
   all_goals (first|rfl|(simp (disch:=first|omega|simp only [aA,aB]<;>omega|decide) only [rUz,↓reduceIte,reduceEqDiff,reduceAdd,t1,t2,t15,t16]<;>rfl))
  | false =>
   rw [hqp,Bool.false_and] at ha
   repeat refine S.seq ?_
   refine S.cond (v:=true) (by first|rfl|(simp (disch:=first|omega|simp only [aA,aB]<;>omega|decide) only [rUz,↓reduceIte,reduceEqDiff,reduceAdd,hqp,Bool.not_false]<;>rfl)) (fun _=>?_) (fun e=>by cases e)
   repeat refine S.seq ?_
   refine S.region ?_
   simp (disch:=first|omega|simp only [aA,aB]<;>omega|decide) only [rUz,↓reduceIte,reduceEqDiff,reduceAdd]
   refine S.ret ?_
   simp only [aI,aF]
   refine he _ _ _ _ (fun e=>by cases e) ?_
   try simp only [aI,aF]
   subst hF
   simp only [finish,aJ]
   rw [show Tryz.f84.results.toList = [.tmp 6] from rfl]
   simp (disch:=first|omega|simp only [aA,aB]<;>omega|decide) only [bH,aY,aQ,aS,aT,aU,aO,upd_ne,aP,aX,result1]
   exact hKb ha _ (hk4.trans hkg)
 have hkn:k = cs.length:=by have:=of_decide_eq_false e; omega
 subst hkn
 rw [List.drop_of_length_le (Nat.le_of_eq hzl),List.all_nil] at ha
 refine S.exit (he _ _ _ _ (fun e=>by cases e) ?_)
 simp (disch:=first|omega|simp only [aA,aB]<;>omega|decide) only [rUz,↓reduceIte,reduceEqDiff,reduceAdd]
 repeat refine S.seq ?_
 refine S.region ?_
 simp (disch:=first|omega|simp only [aA,aB]<;>omega|decide) only [rUz,↓reduceIte,reduceEqDiff,reduceAdd]
 refine S.ret ?_
 try simp only [aI,aF]
 subst hF
 simp only [finish,aJ]
 rw [show Tryz.f84.results.toList = [.tmp 6] from rfl]
 simp (disch:=first|omega|simp only [aA,aB]<;>omega|decide) only [bH,aY,aQ,aS,aT,aU,aO,upd_ne,aP,aX,result1]
 exact hKg ha _ hkp

set_option maxHeartbeats 4000000 in
theorem canCome_y (S:Ev.Steps Tryz.prog pr R) (h0:AHeap) (x:Od) (n:Int):bD Tryz.prog R 85 [.agg ⟨cOd x⟩,iv n] h0 fun u _=>u = .bool (inB n x.lo x.hi):=by
 refine aW (fn:=Tryz.f85) (c:=(Tryz.f85.body).getD .skip) (by kernel_rfl) rfl (by kernel_rfl) rfl (fun K hK=>?_)
 generalize hF:finish Tryz.prog Tryz.f85 K = KF
 simp only [Tryz.f85,Option.getD_some,bI,aZ,bC,T.setK_eq,id]
 have hK':∀ b,b = inB n x.lo x.hi → ∀ g,Kp h0 g → K (.bool b) g = true:=fun b e g hk=>hK _ _ hk (by rw [e])
 clear hK
 unfold inB at hK'
 repeat refine S.seq ?_
 refine S.region ?_
 simp (disch:=first|omega|simp only [aA,aB]<;>omega|decide) only [rUz,↓reduceIte,reduceEqDiff,reduceAdd]
 cases h1:decide (x.lo ≤ n) with
 | false =>
  rw [h1,Bool.false_and] at hK'
  repeat refine S.seq ?_
  refine S.region ?_
  simp (disch:=first|omega|simp only [aA,aB]<;>omega|decide) only [rUz,↓reduceIte,reduceEqDiff,reduceAdd,aC fcO3 ScR,aC fcR0 s3,p3,cOd3,h1]
  refine S.ret ?_
  try simp only [aI,aF]
  subst hF
  simp only [finish,aJ]
  rw [show Tryz.f85.results.toList = [.tmp 4] from rfl]
  simp (disch:=first|omega|simp only [aA,aB]<;>omega|decide) only [bH,aY,aQ,aS,aT,aU,aO,upd_ne,aP,aX,result1]
  exact hK' _ rfl _ Kp.refl.add
 | true =>
  rw [h1,Bool.true_and] at hK'
  repeat refine S.seq ?_
  refine S.region ?_
  simp (disch:=first|omega|simp only [aA,aB]<;>omega|decide) only [rUz,↓reduceIte,reduceEqDiff,reduceAdd,aC fcO3 ScR,aC fcR0 s3,aC fcR1 s3,p3,cOd3,cOd4,h1]
  refine S.ret ?_
  try simp only [aI,aF]
  subst hF
  simp only [finish,aJ]
  rw [show Tryz.f85.results.toList = [.tmp 4] from rfl]
  simp (disch:=first|omega|simp only [aA,aB]<;>omega|decide) only [bH,aY,aQ,aS,aT,aU,aO,upd_ne,aP,aX,result1]
  exact hK' _ rfl _ Kp.refl.add
def comeQ (z:Od × Int):Bool:=inB z.2 z.1.lo z.1.hi
def fJ (O:List Od) (t:List Int):Bool:=decide ((O.length:Int) = (t.length:Int)) && (List.zip O t).all comeQ
set_option maxHeartbeats 4000000 in
theorem allows_y (S:Ev.Steps Tryz.prog pr R) (hoff:Off pr) (h0:AHeap) (v tv:Value) (O:List Od) (t:List Int) (hb:PoAt h0 v O) (ht:IAt h0 tv t) (h9:O.length ≤ 9) :
  bD Tryz.prog R 63 [.agg ⟨poV v⟩,tv] h0 fun u _=>u = .bool (fJ O t):=by
 refine aW (fn:=Tryz.f63) (c:=(Tryz.f63.body).getD .skip) (by kernel_rfl) rfl (by kernel_rfl) rfl (fun K hK=>?_)
 generalize hF:finish Tryz.prog Tryz.f63 K = KF
 simp only [Tryz.f63,Option.getD_some,bI,aZ,bC,T.setK_eq,id]
 unfold fJ at hK
 repeat refine S.seq ?_
 refine S.region ?_
 simp (disch:=first|omega|simp only [aA,aB]<;>omega|decide) only [rUz,↓reduceIte,reduceEqDiff,reduceAdd]
 repeat refine S.seq ?_
 refine S.region ?_
 simp (disch:=first|omega|simp only [aA,aB]<;>omega|decide) only [rUz,↓reduceIte,reduceEqDiff,reduceAdd,aC fB0 lcO,qcO,po0]
 refine aV (fid:=84) (first:=#[]) (captured:=#[]) (Post:=fun u _=>u = .bool (decide ((O.length:Int) = (t.length:Int)) && (List.zip O t).all comeQ)) rfl (hoff _ _ _ rfl) (by simp (disch:=first|omega|simp only [aA,aB]<;>omega|decide) only [rUz,↓reduceIte,reduceEqDiff,reduceAdd]; exact eqOI_y S hoff (h0.add (poV v)) v tv O t (hb.mono Kp.refl.add) (ht.mono Kp.refl.add) (by omega) 85 rfl comeQ (fun h' _ x n _ _=>canCome_y S h' x n)) ?_
 rintro u g hk rfl
 simp (disch:=first|omega|simp only [aA,aB]<;>omega|decide) only [rUz,↓reduceIte,reduceEqDiff,reduceAdd]
 refine S.ret ?_
 try simp only [aI,aF]
 subst hF
 simp only [finish,aJ]
 rw [show Tryz.f63.results.toList = [.tmp 4] from rfl]
 simp (disch:=first|omega|simp only [aA,aB]<;>omega|decide) only [bH,aY,aQ,aS,aT,aU,aO,upd_ne,aP,aX,result1]
 exact hK _ _ (Kp.refl.add.trans hk) rfl
theorem qC {O:List Od} {t:List Int}:fJ O t = true ↔ O.length = t.length ∧ ∀ (i:Nat) (h1:i < O.length) (h2:i < t.length),O[i].lo ≤ t[i] ∧ t[i] ≤ O[i].hi:=by
 unfold fJ
 rw [Bool.and_eq_true,decide_eq_true_eq,List.all_eq_true]
 constructor
 ·rintro ⟨h1,h2⟩
  refine ⟨by omega,fun i hi ht=>?_⟩
  have hz:i < (List.zip O t).length:=by rw [List.length_zip]; omega
  have hm:=List.getElem_mem hz
  rw [List.getElem_zip] at hm
  exact uX.1 (h2 _ hm)
 ·rintro ⟨h1,h2⟩
  refine ⟨by omega,fun z hz=>?_⟩
  obtain ⟨i,hi,rfl⟩:=List.mem_iff_getElem.1 hz
  rw [List.length_zip] at hi
  rw [List.getElem_zip]
  exact uX.2 (h2 i (by omega) (by omega))
structure Tru (O:List Od) (t:List Int):Prop where
 len:t.length = O.length
 rng:∀ x,x ∈ t → 0 ≤ x ∧ x ≤ 30
theorem rD {O:List Od} {t:List Int} (hv:Val O) (h:fJ O t = true):Tru O t:=by
 obtain ⟨h1,h2⟩:=qC.1 h
 refine ⟨h1.symm,fun x hx=>?_⟩
 obtain ⟨i,hi,rfl⟩:=List.mem_iff_getElem.1 hx
 have:=h2 i (by omega) hi
 have ok:=hv.ok O[i] (List.getElem_mem (by omega))
 have a:=ok.m0; have b:=ok.m2
 omega
/-! ## What lies below a heap is kept -/
theorem oO {N sz:Nat} {h0 h:AHeap} {v:Value} {cs:List (List Value)} (k:SlAt h0 sz v cs) (hN:h0.nx ≤ N) (hn:N ≤ h.nx) (hg:∀ j,j < h0.nx → h.bl.get j = h0.bl.get j):SlAt h sz v cs:=by
 rcases k with k|⟨b,cap,f,ro,k1,k2,k3,k4,k5⟩
 ·exact .inl k
 ·exact .inr ⟨b,cap,f,ro,k1,k2,by omega,(hg b k3).trans k4,k5⟩
theorem bC0 (p:Option Addr) (n c:Nat):fQ Tryz.prog 114 [(0,.agg ⟨[.slice p n c]⟩)] = some (.agg ⟨crV (.slice p n c) nl [0,0,0,0,0,0] nl⟩):=by kernel_rfl
structure IRa (H:AHeap) (Bc:Nat) (O:List Od) (v tv:Value) (k:Nat) (t:T Value) (h:AHeap):Prop where
 hk:k ≤ O.length
 fr:Fr H Bc h
 bc:h.bl.get Bc = some (.cells (crV v nl (jH O k) nl) Bc false)
 t1:tget t 1 = tv
 t5:tget t 5 = bG Bc
 t14:tget t 14 = v
 t15:tget t 15 = iv (O.length:Int)
 t16:tget t 16 = iv (k:Int)
structure IRb (H:AHeap) (Bc Ba:Nat) (O:List Od) (t0:List Int) (v:Value) (k:Nat) (t:T Value) (h:AHeap):Prop where
 hk:k ≤ t0.length
 ex:∃ lf sl,CrAt H Bc v ((lQ t0).take k) lf sl h ∧ runZ O ((lQ t0).drop k) ((lQ t0).take k) (lf,sl) = dG O t0 ∧ sl.length ≤ 20 * k
 t5:tget t 5 = bG Bc
 t30:tget t 30 = slB Ba t0.length
 t31:tget t 31 = iv (t0.length:Int)
 t32:tget t 32 = iv (k:Int)
/-- What run returns. -/
def RunAt (O:List Od) (t:List Int) (v u:Value) (h:AHeap):Prop:=∃ Bc cv lf sv,u = bG Bc ∧ h.bl.get Bc = some (.cells (crV v cv lf sv) Bc false) ∧ lf.length = 6 ∧ SlAt h 4 sv ((dG O t).2.map cSa) ∧ Bc < h.nx ∧ (dG O t).2.length ≤ 120
end Go.Proofs.Po
