import Derived.Test.YthgmipngikdknaaGreatPoI
/- An order meets the best one that rests. -/
namespace Go.Proofs.Po
open Nat (reduceEqDiff reduceAdd reduceSub)
open Go Go.Ev Go.RowKit
set_option linter.unusedSimpArgs false
variable {pr:Prim} {R:ExT}
def jI (O:List Od) (a:Nat) (came:List Nat) (st:ST):ST:=
 match fZ O st.1 a came none with
 | none=>st
 | some r=>(jO O st.1 a r,st.2 ++ [iM O st.1 a r])
def accN:Option Nat → Nat
 | none=>0
 | some b=>b
structure IMe (O:List Od) (lf:List Int) (a:Nat) (came:List Nat) (Bc:Nat) (cv:Value) (H:AHeap) (k:Nat) (t:T Value) (h:AHeap):Prop where
 hk:k ≤ came.length
 kp:Kp H h
 ex:∃ acc:Option Nat,fZ O lf a came none = fZ O lf a (came.drop k) acc ∧ (∀ b,acc = some b → b < O.length) ∧ tget t 4 = iv ((accN acc:Nat):Int) ∧ tget t 5 = .bool acc.isSome
 t0:tget t 0 = bG Bc
 t1:tget t 1 = iv (a:Int)
 t11:tget t 11 = cv
 t12:tget t 12 = iv (came.length:Int)
 t13:tget t 13 = iv (k:Int)
set_option maxHeartbeats 32000000 in
theorem meet_y (S:Ev.Steps Tryz.prog pr R) (hoff:Off pr) (H h0:AHeap) (Bc:Nat) (v:Value) (O:List Od) (came:List Nat) (lf:List Int) (sl:List Sa) (a:Nat) (hc:CrAt H Bc v came lf sl h0) (hp:PoF H Bc v O) (h6:O.length ≤ 6) (ha:a < O.length) (hcm:∀ r,r ∈ came → r < O.length) (hl6:came.length ≤ 6) (hsl:sl.length ≤ 1000) (Bk:Nat) (ck:List Value) (hBk:h0.bl.get Bk = some (.cells ck Bk false)) (hkl:Bk < h0.nx) (hkc:Bk ≠ Bc)
  (w:∃ cv sv F1 F2,h0.bl.get Bc = some (.cells (crV v cv lf sv) Bc false) ∧ TwoS H.nx 1 4 h0 (came.map cn) (sl.map cSa) cv sv F1 F2 ∧ (sl.map cSa ≠ [] → F2 ≠ Bk)) :
  gJ Tryz.prog R 97 [bG Bc,iv (a:Int)] h0 fun _ h=>CrAt H Bc v came (jI O a came (lf,sl)).1 (jI O a came (lf,sl)).2 h ∧ h.bl.get Bk = some (.cells ck Bk false):=by
 refine gW (fn:=Tryz.f97) (c:=(Tryz.f97.body).getD .skip) (by kernel_rfl) rfl (by kernel_rfl) rfl (fun K hK=>?_)
 generalize hF:finish Tryz.prog Tryz.f97 K = KF
 simp only [Tryz.f97,Option.getD_some,bJ,aX,aZ,T.setK_eq,id]
 obtain ⟨cv,sv,F1,F2,hbc,htwo,hFk⟩:=w
 have hlt:=hc.lt
 have lC:=fun t h1 o=>dQ htwo.x.at isI t h1 o
 repeat refine S.seq ?_
 refine S.region ?_
 simp (disch:=first|omega|simp only [aA,aB]<;>omega|decide) only [rUz,↓reduceIte,reduceEqDiff,reduceAdd]
 repeat refine S.seq ?_
 refine S.region ?_
 simp (disch:=first|omega|simp only [aA,aB]<;>omega|decide) only [rUz,↓reduceIte,reduceEqDiff,reduceAdd,hbc,aC fC1 lI,qI,cr1,lC]
 repeat refine S.seq ?_
 refine S.block ?_
 refine S.loop (ι:=Nat) (IMe O lf a came Bc cv h0) (fun k=>came.length - k) ?_ 0 _ _ ?_
 rotate_left
 ·refine ⟨Nat.zero_le _,Kp.refl,⟨none,rfl,(fun b e=>by cases e),?_,?_⟩,?_,?_,?_,?_,?_⟩
  all_goals (first|rfl|(simp (disch:=first|omega|simp only [aA,aB]<;>omega|decide) only [rUz,↓reduceIte,reduceEqDiff,reduceAdd,accN,Option.isSome_none]<;>rfl))
 intro k t h ⟨hk,kp,⟨acc,hpk,hab,t4,t5⟩,t0,t1,t11,t12,t13⟩ K' hn he
 have hch:=hc.mono kp
 repeat refine S.seq ?_
 refine S.region ?_
 simp (disch:=first|omega|simp only [aA,aB]<;>omega|decide) only [rUz,↓reduceIte,reduceEqDiff,reduceAdd,t12,t13]
 repeat refine S.seq ?_
 refine S.cond (v:=decide ((k:Int) < (came.length:Int))) (by first|rfl|(simp (disch:=first|omega|simp only [aA,aB]<;>omega|decide) only [rUz,↓reduceIte,reduceEqDiff,reduceAdd]<;>rfl)) (fun e=>?_) (fun e=>?_)
 ·have hkn:k < came.length:=by have:=of_decide_eq_true e; omega
  clear e
  have hps:came[k]? = some came[k]:=List.getElem?_eq_getElem hkn
  have hrO:=hcm _ (List.getElem_mem hkn)
  rw [List.drop_eq_getElem_cons hkn,fZ] at hpk
  generalize came[k] = r at hps hrO hpk
  obtain ⟨b,f,ro,cells,q1,q2,q3,q4,q5,q6⟩:=dM (htwo.x.at |>.mono kp) slI s3' hps
  have q6:=q6 0 (iv (r:Int)) rfl
  rw [Nat.mul_one] at q1
  rw [Nat.mul_one,Nat.add_zero] at q6
  unfold stepP at hpk
  repeat refine S.seq ?_
  refine S.skip ?_
  simp (disch:=first|omega|simp only [aA,aB]<;>omega|decide) only [rUz,↓reduceIte,reduceEqDiff,reduceAdd]
  repeat refine S.seq ?_
  refine S.block ?_
  repeat refine S.seq ?_
  refine S.region ?_
  simp (disch:=first|omega|simp only [aA,aB]<;>omega|decide) only [rUz,↓reduceIte,reduceEqDiff,reduceAdd,t11,t13,q1,q3,p3,q6]
  clear q1 q2 q3 q4 q5 q6
  repeat refine S.seq ?_
  refine S.drawnL [(false,0),(false,0),(false,0),(true,7),(false,15),(false,31),(false,63),(false,127),(false,255),(false,511),(false,1023),(false,2047),(false,4095),(false,255),(false,16383),(false,32767),(false,255),(false,65791),(false,196863),(false,459007),(false,983295),(false,255),(false,4129023),(false,8323327),(true,16777215),(false,33554431),(false,67108863)] (by kernel_rfl) (by kernel_rfl) (by kernel_rfl) ?_
  simp (disch:=first|omega|simp only [aA,aB]<;>omega|decide) only [rUz,↓reduceIte,reduceEqDiff,reduceAdd,rDz,infoL,reduceSub,t0,t1]
  refine dC (fid:=115) (first:=#[]) (captured:=#[]) (Post:=fun u _=>u = .bool (qE O lf a r)) rfl (hoff _ _ _ rfl) (by simp (disch:=first|omega|simp only [aA,aB]<;>omega|decide) only [rUz,↓reduceIte,reduceEqDiff,reduceAdd]; exact canB_y S hoff H h Bc v O came lf sl a r hch hp h6 ha hrO) (Nat.le_of_ble_eq_true rfl) ?_
  rintro u g hkg rfl
  refine ⟨?_,?_⟩
  ·try simp (disch:=first|decide|rfl) only [aK,aG,aH]
  cases hcb:qE O lf a r with
  | false =>
   rw [hcb,Bool.false_and,cond_false] at hpk
   simp (disch:=first|omega|simp only [aA,aB]<;>omega|decide) only [rUz,↓reduceIte,reduceEqDiff,reduceAdd,rDz,infoL,reduceSub,hcb]
   repeat refine S.seq ?_
   refine S.cond (v:=false) (by first|rfl|(simp (disch:=first|omega|simp only [aA,aB]<;>omega|decide) only [rUz,↓reduceIte,reduceEqDiff,reduceAdd]<;>rfl)) (fun e=>by cases e) (fun _=>?_)
   repeat refine S.seq ?_
   refine S.skip ?_
   simp (disch:=first|omega|simp only [aA,aB]<;>omega|decide) only [rUz,↓reduceIte,reduceEqDiff,reduceAdd]
   repeat refine S.seq ?_
   refine S.region ?_
   simp (disch:=first|omega|simp only [aA,aB]<;>omega|decide) only [rUz,↓reduceIte,reduceEqDiff,reduceAdd,t13]
   refine hn (k + 1) _ _ (by omega) ⟨by omega,kp.trans hkg,⟨acc,hpk,hab,?_,?_⟩,?_,?_,?_,?_,?_⟩
   all_goals (first|rfl|(simp (disch:=first|omega|simp only [aA,aB]<;>omega|decide) only [rUz,↓reduceIte,reduceEqDiff,reduceAdd,t0,t1,t4,t5,t11,t12]<;>rfl))
  | true =>
  rw [hcb,Bool.true_and] at hpk
  cases acc with
  | none =>
   have hpk:fZ O lf a came none = fZ O lf a (came.drop (k + 1)) (some r):=hpk
   simp (disch:=first|omega|simp only [aA,aB]<;>omega|decide) only [rUz,↓reduceIte,reduceEqDiff,reduceAdd,rDz,infoL,reduceSub,hcb,t5,dX,Option.isSome_none,Bool.not_false]
   repeat refine S.seq ?_
   refine S.cond (v:=true) (by first|rfl|(simp (disch:=first|omega|simp only [aA,aB]<;>omega|decide) only [rUz,↓reduceIte,reduceEqDiff,reduceAdd]<;>rfl)) (fun _=>?_) (fun e=>by cases e)
   repeat refine S.seq ?_
   refine S.region ?_
   simp (disch:=first|omega|simp only [aA,aB]<;>omega|decide) only [rUz,↓reduceIte,reduceEqDiff,reduceAdd]
   repeat refine S.seq ?_
   refine S.region ?_
   simp (disch:=first|omega|simp only [aA,aB]<;>omega|decide) only [rUz,↓reduceIte,reduceEqDiff,reduceAdd,t13]
   refine hn (k + 1) _ _ (by omega) ⟨by omega,kp.trans hkg,⟨some r,hpk,(fun b e=>by cases e; exact hrO),?_,?_⟩,?_,?_,?_,?_,?_⟩
   all_goals (first|rfl|(simp (disch:=first|omega|simp only [aA,aB]<;>omega|decide) only [rUz,↓reduceIte,reduceEqDiff,reduceAdd,t0,t1,t11,t12,accN,Option.isSome_some]<;>rfl))
  | some b0 =>
   have hb0:=hab b0 rfl
   have t4':tget t 4 = iv (b0:Int):=t4
   have hcg:=hch.mono hkg
   have hltg:=hcg.lt
   obtain ⟨cv',sv',F1',F2',hbg,_⟩:=hcg.ex
   have hpo:=hp g hcg.fr
   obtain ⟨b1,f1,o1,c1,q1,q2,q3,q4,q5,_⟩:=dM hpo slcO scO (jB hrO)
   obtain ⟨b2,f2,o2,c2',r1,r2,r3,r4,r5,_⟩:=dM hpo slcO scO (jB hb0)
   have qp:=gQ pcO q4 q5
   have rp:=gQ pcO r4 r5
   have hpk:fZ O lf a came none = fZ O lf a (came.drop (k + 1)) (bif betB O r b0 then some r else some b0):=hpk
   unfold betB at hpk
   simp (disch:=first|omega|simp only [aA,aB]<;>omega|decide) only [rUz,↓reduceIte,reduceEqDiff,reduceAdd,rDz,infoL,reduceSub,hcb,t0,t4',t5,dX,Option.isSome_some,Bool.not_true,hbg,aC fC0 SB,aC fB0 lcO,qcO,cr0,q1,q3,qp,r1,r3,rp]
   refine dC (fid:=116) (first:=#[]) (captured:=#[]) (Post:=fun u _=>u = .bool (!oM (od O b0) (od O r).l)) rfl (hoff _ _ _ rfl) (by simp (disch:=first|omega|simp only [aA,aB]<;>omega|decide) only [rUz,↓reduceIte,reduceEqDiff,reduceAdd]; exact betterO_y S hoff g (od O r) (od O b0)) (Nat.le_of_ble_eq_true rfl) ?_
   rintro u g2 hkg2 rfl
   refine ⟨?_,?_⟩
   ·try simp (disch:=first|decide|rfl) only [aK,aG,aH]
   have hkk:=(kp.trans hkg).trans hkg2
   cases hbt : !oM (od O b0) (od O r).l with
   | true =>
    rw [hbt,cond_true] at hpk
    simp (disch:=first|omega|simp only [aA,aB]<;>omega|decide) only [rUz,↓reduceIte,reduceEqDiff,reduceAdd,rDz,infoL,reduceSub,hbt]
    repeat refine S.seq ?_
    refine S.cond (v:=true) (by first|rfl|(simp (disch:=first|omega|simp only [aA,aB]<;>omega|decide) only [rUz,↓reduceIte,reduceEqDiff,reduceAdd]<;>rfl)) (fun _=>?_) (fun e=>by cases e)
    repeat refine S.seq ?_
    refine S.region ?_
    simp (disch:=first|omega|simp only [aA,aB]<;>omega|decide) only [rUz,↓reduceIte,reduceEqDiff,reduceAdd]
    repeat refine S.seq ?_
    refine S.region ?_
    simp (disch:=first|omega|simp only [aA,aB]<;>omega|decide) only [rUz,↓reduceIte,reduceEqDiff,reduceAdd,t13]
    refine hn (k + 1) _ _ (by omega) ⟨by omega,hkk,⟨some r,hpk,(fun b e=>by cases e; exact hrO),?_,?_⟩,?_,?_,?_,?_,?_⟩
    all_goals (first|rfl|(simp (disch:=first|omega|simp only [aA,aB]<;>omega|decide) only [rUz,↓reduceIte,reduceEqDiff,reduceAdd,t0,t1,t11,t12,accN,Option.isSome_some]<;>rfl))
   | false =>
    rw [hbt,cond_false] at hpk
    simp (disch:=first|omega|simp only [aA,aB]<;>omega|decide) only [rUz,↓reduceIte,reduceEqDiff,reduceAdd,rDz,infoL,reduceSub,hbt]
    repeat refine S.seq ?_
    refine S.cond (v:=false) (by first|rfl|(simp (disch:=first|omega|simp only [aA,aB]<;>omega|decide) only [rUz,↓reduceIte,reduceEqDiff,reduceAdd]<;>rfl)) (fun e=>by cases e) (fun _=>?_)
    repeat refine S.seq ?_
    refine S.skip ?_
    simp (disch:=first|omega|simp only [aA,aB]<;>omega|decide) only [rUz,↓reduceIte,reduceEqDiff,reduceAdd]
    repeat refine S.seq ?_
    refine S.region ?_
    simp (disch:=first|omega|simp only [aA,aB]<;>omega|decide) only [rUz,↓reduceIte,reduceEqDiff,reduceAdd,t13]
    refine hn (k + 1) _ _ (by omega) ⟨by omega,hkk,⟨some b0,hpk,hab,?_,?_⟩,?_,?_,?_,?_,?_⟩
    all_goals (first|rfl|(simp (disch:=first|omega|simp only [aA,aB]<;>omega|decide) only [rUz,↓reduceIte,reduceEqDiff,reduceAdd,t0,t1,t4,t5,t11,t12]<;>rfl))
 have hkn:k = came.length:=by have:=of_decide_eq_false e; omega
 subst hkn
 rw [List.drop_of_length_le (Nat.le_refl _),fZ] at hpk
 refine S.exit (he _ _ _ _ (fun e=>by cases e) ?_)
 simp (disch:=first|omega|simp only [aA,aB]<;>omega|decide) only [rUz,↓reduceIte,reduceEqDiff,reduceAdd]
 cases acc with
 | none =>
  have hnx:jI O a came (lf,sl) = (lf,sl):=by unfold jI; rw [hpk]
  rw [hnx] at hK
  repeat refine S.seq ?_
  refine S.region ?_
  simp (disch:=first|omega|simp only [aA,aB]<;>omega|decide) only [rUz,↓reduceIte,reduceEqDiff,reduceAdd,t5,Option.isSome_none]
  repeat refine S.seq ?_
  refine S.cond (v:=false) (by first|rfl|(simp (disch:=first|omega|simp only [aA,aB]<;>omega|decide) only [rUz,↓reduceIte,reduceEqDiff,reduceAdd]<;>rfl)) (fun e=>by cases e) (fun _=>?_)
  refine S.skip ?_
  subst hF
  simp only [finish,aI]
  rw [show Tryz.f97.results.toList = [] from rfl]
  simp only [bK,result1]
  exact hK _ _ ⟨hch,(kp.get hkl).trans hBk⟩
 | some r =>
  have t4':tget t 4 = iv (r:Int):=t4
  have hr:=hab r rfl
  have hnx:jI O a came (lf,sl) = (jO O lf a r,sl ++ [iM O lf a r]):=by unfold jI; rw [hpk]
  rw [hnx] at hK
  have hcan:qE O lf a r = true:=by
   rcases qF hpk with h|h
   ·cases h
   ·exact h.2
  obtain ⟨p1,p2,_⟩:=vH hcan
  obtain ⟨m1,m2,m3⟩:=min2_b p1 p2
  have hb20:=(hc.ok.b a).2
  have hok:=(drop_ok (O:=O) hc.ok (by omega:a < 6) (by omega:r < 6) hcan).1
  have hbs:(bsZ O a r).1 < 6 ∧ (bsZ O a r).2 < 6:=by
   rcases bs_cases O a r with e|e<;>rw [e]<;>constructor<;>simp only<;>omega
  repeat refine S.seq ?_
  refine S.region ?_
  simp (disch:=first|omega|simp only [aA,aB]<;>omega|decide) only [rUz,↓reduceIte,reduceEqDiff,reduceAdd,t5,Option.isSome_some]
  repeat refine S.seq ?_
  refine S.cond (v:=true) (by first|rfl|(simp (disch:=first|omega|simp only [aA,aB]<;>omega|decide) only [rUz,↓reduceIte,reduceEqDiff,reduceAdd]<;>rfl)) (fun _=>?_) (fun e=>by cases e)
  repeat refine S.seq ?_
  refine S.region ?_
  simp (disch:=first|omega|simp only [aA,aB]<;>omega|decide) only [rUz,↓reduceIte,reduceEqDiff,reduceAdd,t0,t1,t4']
  refine bC (fid:=118) (first:=#[]) (captured:=#[]) (Post:=fun u _=>u = .agg ⟨cSa (iM O lf a r)⟩) rfl (hoff _ _ _ rfl) (by simp (disch:=first|omega|simp only [aA,aB]<;>omega|decide) only [rUz,↓reduceIte,reduceEqDiff,reduceAdd]; exact sale_y S hoff H h Bc v O came lf sl a r hch hp h6 ha hr) ?_
  rintro u g hkg rfl
  simp (disch:=first|omega|simp only [aA,aB]<;>omega|decide) only [rUz,↓reduceIte,reduceEqDiff,reduceAdd,t0]
  refine iT (fid:=117) (first:=#[]) (captured:=#[]) (Post:=fun _ h=>CrAt H Bc v came (nP (nP lf (bsZ O a r).1 (iM O lf a r).nu) (bsZ O a r).2 (iM O lf a r).nu) (sl ++ [iM O lf a r]) h ∧ h.bl.get Bk = some (.cells ck Bk false)) rfl (hoff _ _ _ rfl) (by simp (disch:=first|omega|simp only [aA,aB]<;>omega|decide) only [rUz,↓reduceIte,reduceEqDiff,reduceAdd]; exact happen_y S hoff H g Bc v came lf sl (iM O lf a r) (bsZ O a r).1 (bsZ O a r).2 (hch.mono hkg) rfl rfl hbs.1 hbs.2 (by show 0 ≤ min2 (lg lf a) (lg lf r); omega) (by show min2 (lg lf a) (lg lf r) ≤ 20; omega) hok hsl Bk ck (((kp.trans hkg).get hkl).trans hBk) (Nat.lt_of_lt_of_le hkl (kp.trans hkg).1) hkc ⟨cv,sv,F1,F2,((kp.trans hkg).get hlt).trans hbc,htwo.mono (kp.trans hkg),hFk⟩) ?_
  rintro u g2 hc2
  try simp (disch:=first|omega|simp only [aA,aB]<;>omega|decide) only [rUz,↓reduceIte,reduceEqDiff,reduceAdd]
  subst hF
  simp only [finish,aI]
  rw [show Tryz.f97.results.toList = [] from rfl]
  simp only [bK,result1]
  exact hK _ _ hc2
end Go.Proofs.Po
