import Derived.Test.YthgmipngikdknaaGreatPoL
/- The course of a post in a truth; Play. -/
namespace Go.Proofs.Po
open Nat (reduceEqDiff reduceAdd reduceSub)
open Go Go.Ev Go.RowKit
set_option linter.unusedSimpArgs false
variable {pr:Prim} {R:ExT}
theorem ord_len {t:List Int} (h:∀ x,x ∈ t → 0 ≤ x ∧ x ≤ 30):(lQ t).length = t.length:=by
 have:=(cm_ok h t.length (Nat.le_refl _)).len
 rw [List.take_of_length_le (Nat.le_refl _)] at this
 unfold lQ; rw [List.length_map]; exact this
theorem cells_eq {h:AHeap} {B:Nat} {c1 c2:List Value} {f1 f2:Nat} {r1 r2:Bool} (e1:h.bl.get B = some (.cells c1 f1 r1)) (e2:h.bl.get B = some (.cells c2 f2 r2)):c1 = c2:=by
 rw [e1] at e2
 injection e2 with e
 injection e
theorem run_start (O:List Od) (t:List Int):runZ O ((lQ t).drop 0) ((lQ t).take 0) (jH O O.length,[]) = dG O t:=by
 rw [List.drop_zero,List.take_zero]; unfold dG; rfl
theorem cr_start {g:AHeap} {Bc:Nat} {v:Value} {lf:List Int} (t:List Int) (hB:Bc < g.nx) (hf:g.fams.get Bc = some [Bc]) (ok:LfOk lf) (bc:g.bl.get Bc = some (.cells (crV v nl lf nl) Bc false)):CrAt g Bc v ((lQ t).take 0) lf [] g:=by
 rw [List.take_zero]
 exact ⟨Fr.refl,hB,hf,ok,nl,nl,0,0,bc,TwoS.start⟩
theorem ord_at {t:List Int} {k:Nat} {y:AR} (hy:(cmZ t)[k]? = some y):(lQ t)[k]? = some y.2:=by
 unfold lQ; rw [List.getElem?_map,hy]; rfl
theorem run_step {O:List Od} {l:List Nat} {k a:Nat} {came:List Nat} {st:ST} (h:l[k]? = some a):runZ O (l.drop k) came st = runZ O (l.drop (k + 1)) (came ++ [a]) (jG O came a 20 st):=by
 obtain ⟨hk,e⟩:=List.getElem?_eq_some_iff.1 h
 rw [List.drop_eq_getElem_cons hk,e,runZ]
theorem take_at {l:List Nat} {k a:Nat} (h:l[k]? = some a):l.take (k + 1) = l.take k ++ [a]:=by
 rw [List.take_add_one,h]; rfl
/-- The same, and that all of it is new. -/
def RunAt2 (lo:Nat) (O:List Od) (t:List Int) (v u:Value) (h:AHeap):Prop:=∃ Bc cv lf sv,u = bG Bc ∧ h.bl.get Bc = some (.cells (crV v cv lf sv) Bc false) ∧ lf.length = 6 ∧ SlAt h 4 sv ((dG O t).2.map cSa) ∧ Bc < h.nx ∧ (dG O t).2.length ≤ 120 ∧ lo ≤ Bc ∧ ∀ b,blk sv = some b → lo ≤ b
theorem app_lo {lo:Nat} {h:AHeap} {sz F b:Nat} {v:Value} {cs:List (List Value)} (k:App lo h sz v cs F) (hb:blk v = some b):lo ≤ b:=by
 rcases k with ⟨_,rfl⟩|⟨b',l,_,rfl,hlo,_⟩
 ·cases hb
 ·cases hb; exact hlo
set_option maxHeartbeats 32000000 in
theorem run_y2 (S:Ev.Steps Tryz.prog pr R) (hoff:Off pr) (h0:AHeap) (v tv:Value) (O:List Od) (t0:List Int) (hb:PoAt h0 v O) (ht:IAt h0 tv t0) (hv:Val O) (htr:Tru O t0) :
  bD Tryz.prog R 54 [.agg ⟨poV v⟩,tv] h0 fun u h=>RunAt2 h0.nx O t0 v u h:=by
 refine aW (fn:=Tryz.f54) (c:=(Tryz.f54.body).getD .skip) (by kernel_rfl) rfl (by kernel_rfl) rfl (fun K hK=>?_)
 generalize hF:finish Tryz.prog Tryz.f54 K = KF
 simp only [Tryz.f54,Option.getD_some,bI,aZ,bC,T.setK_eq,id]
 have h6:=hv.l6
 have h1:=hv.l1
 have htl:=htr.len
 have lO:=fun t h1 o=>dI hb iscO t h1 o
 obtain ⟨vp,vn,vc,hvs⟩:=row_sl hb
 repeat refine S.seq ?_
 refine S.region ?_
 simp (disch:=first|omega|simp only [aA,aB]<;>omega|decide) only [rUz,↓reduceIte,reduceEqDiff,reduceAdd]
 obtain ⟨B2,hB2⟩:∃ x,x = h0.nx:=⟨_,rfl⟩
 have hb2:(h0.add (poV v)).bl.get B2 = some (.cells (poV v) B2 false):=by subst hB2; exact aP rfl
 have hk1:Kp h0 (h0.add (poV v)):=Kp.refl.add
 have hn1:(h0.add (poV v)).nx = h0.nx + 1:=rfl
 rw [← hB2]
 generalize h0.add (poV v) = G at hb2 hk1 hn1 ⊢
 have hp0:=bP pB (dC v)
 have hbC:=bC0 vp vn vc
 rw [← hvs] at hbC
 have hbC':fQ Tryz.prog 114 [(0,.agg ⟨poV v⟩)] = some (.agg ⟨crV v nl [0,0,0,0,0,0] nl⟩):=hbC
 repeat refine S.seq ?_
 refine S.region ?_
 simp (disch:=first|omega|simp only [aA,aB]<;>omega|decide) only [rUz,↓reduceIte,reduceEqDiff,reduceAdd,hb2,hp0,fU,List.map_cons,List.map_nil,hbC']
 obtain ⟨Bc,hBc⟩:∃ x,x = G.nx:=⟨_,rfl⟩
 have e0:jH O 0 = [0,0,0,0,0,0]:=rfl
 have hkG:Kp G (G.add (crV v nl (jH O 0) nl)):=Kp.refl.add
 have hbc:(G.add (crV v nl (jH O 0) nl)).bl.get Bc = some (.cells (crV v nl (jH O 0) nl) Bc false):=by subst hBc; exact aP rfl
 have hfc:(G.add (crV v nl (jH O 0) nl)).fams.get Bc = some [Bc]:=by subst hBc; exact dL rfl
 have hnc:Bc < (G.add (crV v nl (jH O 0) nl)).nx:=by subst hBc; exact Nat.lt_succ_self _
 rw [← e0,← hBc]
 generalize G.add (crV v nl (jH O 0) nl) = H at hkG hbc hfc hnc ⊢
 replace hb2:=(hkG.get (by omega:B2 < G.nx)).trans hb2
 replace hk1:=hk1.trans hkG
 have hB2c:B2 < Bc:=by omega
 have hcB:h0.nx < Bc:=by omega
 clear hkG hB2 hBc hn1 hbC hbC'
 clear G
 repeat refine S.seq ?_
 refine S.region ?_
 simp (disch:=first|omega|simp only [aA,aB]<;>omega|decide) only [rUz,↓reduceIte,reduceEqDiff,reduceAdd,hb2,aC fB0 lcO,qcO,po0,lO]
 repeat refine S.seq ?_
 refine S.block ?_
 refine S.loop (ι:=Nat) (IRa H Bc O v tv) (fun k=>O.length - k) ?_ 0 _ _ ?_
 rotate_left
 ·refine ⟨Nat.zero_le _,Fr.refl,hbc,?_,?_,?_,?_,?_⟩
  all_goals (first|rfl|(simp (disch:=first|omega|simp only [aA,aB]<;>omega|decide) only [rUz,↓reduceIte,reduceEqDiff,reduceAdd]<;>rfl))
 clear hbc
 intro k t h ⟨hk,fr,bc,t1,t5,t14,t15,t16⟩ K' hn he
 have hle:=fr.le
 have hfh:=(fr.fam Bc hnc).trans hfc
 have hpoh:PoAt h v O:=oO hb (Nat.le_refl _) (by have:=hk1.1; omega) fun j hj=>(fr.bl j (by have:=hk1.1; omega) (by omega)).trans (hk1.get hj)
 repeat refine S.seq ?_
 refine S.region ?_
 simp (disch:=first|omega|simp only [aA,aB]<;>omega|decide) only [rUz,↓reduceIte,reduceEqDiff,reduceAdd,t15,t16]
 repeat refine S.seq ?_
 refine S.cond (v:=decide ((k:Int) < (O.length:Int))) (by first|rfl|(simp (disch:=first|omega|simp only [aA,aB]<;>omega|decide) only [rUz,↓reduceIte,reduceEqDiff,reduceAdd]<;>rfl)) (fun e=>?_) (fun e=>?_)
 ·have hkn:k < O.length:=by have:=of_decide_eq_true e; omega
  clear e
  have hps:=jS hkn
  obtain ⟨b,f,ro,cells,q1,q2,q3,q4,q5,_⟩:=dH hpoh slcO scO hps
  have qp:=fF pcO q4 q5
  have hl0:=qH O k
  have hstep:=left0_step (O:=O) (k:=k) (by omega)
  have cs:=cr_setL (v:=v) (cv:=nl) (sv:=nl) hl0 (j:=k) (by omega) (x:=(od O k).n)
  have c9:=cr_len (v:=v) (cv:=nl) (sv:=nl) hl0
  have ix:=ixN (B:=Bc) (j:=k) (by omega)
  rw [hstep] at cs
  generalize od O k = x at hps q4 qp cs
  repeat refine S.seq ?_
  refine S.skip ?_
  simp (disch:=first|omega|simp only [aA,aB]<;>omega|decide) only [rUz,↓reduceIte,reduceEqDiff,reduceAdd]
  repeat refine S.seq ?_
  refine S.block ?_
  repeat refine S.seq ?_
  refine S.region ?_
  simp (disch:=first|omega|simp only [aA,aB]<;>omega|decide) only [rUz,↓reduceIte,reduceEqDiff,reduceAdd,t14,t16,q1,q3,qp,bU zcO]
  refine dE (B:=h.nx) (c:=[.bool false,iv 0,iv 0,iv 0,iv 0]) (fam:=h.nx) (k:=h.nx) (l:=cOd x) (by simp (disch:=first|omega|simp only [aA,aB]<;>omega|decide) only [rUz,↓reduceIte,reduceEqDiff,reduceAdd]) (by simp (disch:=first|omega|simp only [aA,aB]<;>omega|decide) only [rUz,↓reduceIte,reduceEqDiff,reduceAdd]) scO (by omega) rfl (aP rfl) (dL rfl) rfl ?_
  have hk4:Kp h ((h.add [.bool false,iv 0,iv 0,iv 0,iv 0]).upd h.nx (cOd x) h.nx):=Kp.refl.add.upd (Nat.le_refl _)
  have hg4:((h.add [.bool false,iv 0,iv 0,iv 0,iv 0]).upd h.nx (cOd x) h.nx).bl.get h.nx = some (.cells (cOd x) h.nx false):=aO _ _ _
  simp (disch:=first|omega|simp only [aA,aB]<;>omega|decide) only [rUz,↓reduceIte,reduceEqDiff,reduceAdd]
  generalize (h.add [.bool false,iv 0,iv 0,iv 0,iv 0]).upd h.nx (cOd x) h.nx = g at hk4 hg4 ⊢
  have bcg:=(hk4.get (by omega:Bc < h.nx)).trans bc
  have fcg:=(hk4.fget (by omega:Bc < h.nx)).trans hfh
  generalize h.nx = B7 at hg4 ⊢
  clear q1 q2 q3 q4 q5 qp
  repeat refine S.seq ?_
  refine S.drawnL [(false,0),(false,0),(false,0),(false,4),(false,1),(false,17),(false,63),(true,127)] (by kernel_rfl) (by kernel_rfl) (by kernel_rfl) ?_
  simp (disch:=first|omega|simp only [aA,aB]<;>omega|decide) only [rUz,↓reduceIte,reduceEqDiff,reduceAdd,rDz,infoL,reduceSub,t5,hg4,aC fcO2 s3,aC fC2 SN,p3,cOd2,ix]
  refine gK (jK (B:=Bc) (off:=2 + k) (v:=iv x.n) (by simp (disch:=first|omega|simp only [aA,aB]<;>omega|decide) only [rUz,↓reduceIte,reduceEqDiff,reduceAdd,rDz,infoL,reduceSub]) (by simp (disch:=first|omega|simp only [aA,aB]<;>omega|decide) only [rUz,↓reduceIte,reduceEqDiff,reduceAdd,rDz,infoL,reduceSub]) s3' rfl rfl bcg fcg (by rw [c9]; omega)) ?_ ?_
  ·try simp (disch:=first|decide|rfl) only [aK,aG,aH]
  rw [cs]
  simp (disch:=first|omega|simp only [aA,aB]<;>omega|decide) only [rUz,↓reduceIte,reduceEqDiff,reduceAdd,rDz,infoL,reduceSub]
  repeat refine S.seq ?_
  refine S.region ?_
  simp (disch:=first|omega|simp only [aA,aB]<;>omega|decide) only [rUz,↓reduceIte,reduceEqDiff,reduceAdd,t16]
  refine hn (k + 1) _ _ (by omega) ⟨by omega,(fr.kp hk4).upd,aO _ _ _,?_,?_,?_,?_,?_⟩
  all_goals (first|rfl|(simp (disch:=first|omega|simp only [aA,aB]<;>omega|decide) only [rUz,↓reduceIte,reduceEqDiff,reduceAdd,t1,t5,t14,t15]<;>rfl))
 have hkn:k = O.length:=by have:=of_decide_eq_false e; omega
 subst hkn
 refine S.exit (he _ _ _ _ (fun e=>by cases e) ?_)
 simp (disch:=first|omega|simp only [aA,aB]<;>omega|decide) only [rUz,↓reduceIte,reduceEqDiff,reduceAdd]
 clear hn he K' e t16 t15 t14
 have hkh:Kp h0 h:=fr.toKp hk1 (by omega)
 have hBh:Bc < h.nx:=Nat.lt_of_lt_of_le hnc hle
 repeat refine S.seq ?_
 refine S.region ?_
 simp (disch:=first|omega|simp only [aA,aB]<;>omega|decide) only [rUz,↓reduceIte,reduceEqDiff,reduceAdd,t1]
 refine aV (fid:=75) (first:=#[]) (captured:=#[]) (Post:=fun u h=>∃ B,u = slB B t0.length ∧ RAt h B (cmZ t0) ∧ B < h.nx) rfl (hoff _ _ _ rfl) (by simp (disch:=first|omega|simp only [aA,aB]<;>omega|decide) only [rUz,↓reduceIte,reduceEqDiff,reduceAdd]; exact arrivals_y S hoff h tv t0 (ht.mono hkh) htr.rng (by omega) (by omega)) ?_
 rintro u g hkg ⟨Ba,rfl,hra,hBa⟩
 have bcg:=(hkg.get hBh).trans bc
 have fcg:=(hkg.fget hBh).trans hfh
 have hBg:=Nat.lt_of_lt_of_le hBh hkg.1
 have hkg0:=hkh.trans hkg
 have hac:Ba ≠ Bc:=by
  intro e
  subst e
  have h9:=congrArg List.length (cells_eq bcg hra)
  rw [cr_len (qH _ _),xN] at h9
  omega
 have hol:=ord_len htr.rng
 have hcmg:(lQ t0).length ≤ 6:=by omega
 have hPoF:PoF g Bc v O:=fun h' fr'=>oO hb (Nat.le_refl _) (by have:=fr'.le; have:=hkg0.1; omega) fun j hj=>(fr'.bl j (by have:=hkg0.1; omega) (by omega)).trans (hkg0.get hj)
 have ls:∀ (t:T Value) (h1:AHeap) (o:Oper),pK Tryz.prog t h1 o 131 (slB Ba t0.length) = some (iv (t0.length:Int)):=fun _ _ _=>mZ isV
 simp (disch:=first|omega|simp only [aA,aB]<;>omega|decide) only [rUz,↓reduceIte,reduceEqDiff,reduceAdd,ls]
 clear t1 bc hfh fr hle hpoh
 repeat refine S.seq ?_
 refine S.block ?_
 refine S.loop (ι:=Nat) (IRb g Bc Ba O t0 v) (fun k=>t0.length - k) ?_ 0 _ _ ?_
 rotate_left
 ·refine ⟨Nat.zero_le _,⟨jH O O.length,[],cr_start t0 hBg fcg (left0_ok hv) bcg,run_start O t0,Nat.zero_le _⟩,?_,?_,?_,?_⟩
  all_goals (first|rfl|(simp (disch:=first|omega|simp only [aA,aB]<;>omega|decide) only [rUz,↓reduceIte,reduceEqDiff,reduceAdd,t5]<;>rfl))
 clear t5
 clear t
 intro k t h2 ⟨hk,⟨lf,sl,hcr,hrun,hsl⟩,t5,t30,t31,t32⟩ K' hn he
 have hle:=hcr.fr.le
 have hra2:RAt h2 Ba (cmZ t0):=by unfold RAt at hra ⊢; rw [hcr.fr.bl Ba hBa hac]; exact hra
 have hcl:(cmZ t0).length = t0.length:=by rw [← hol]; unfold lQ; rw [List.length_map]
 repeat refine S.seq ?_
 refine S.region ?_
 simp (disch:=first|omega|simp only [aA,aB]<;>omega|decide) only [rUz,↓reduceIte,reduceEqDiff,reduceAdd,t31,t32]
 repeat refine S.seq ?_
 refine S.cond (v:=decide ((k:Int) < (t0.length:Int))) (by first|rfl|(simp (disch:=first|omega|simp only [aA,aB]<;>omega|decide) only [rUz,↓reduceIte,reduceEqDiff,reduceAdd]<;>rfl)) (fun e=>?_) (fun e=>?_)
 ·have hkn:k < t0.length:=by have:=of_decide_eq_true e; omega
  clear e
  have hko:k < (lQ t0).length:=by omega
  have hkc:k < (cmZ t0).length:=by omega
  have hy:(cmZ t0)[k]? = some (cmZ t0)[k]:=List.getElem?_eq_getElem hkc
  have pr2:=part_row hy
  generalize (cmZ t0)[k] = y at hy pr2
  have hyo:=ord_at hy
  have htk:=take_at hyo
  rw [run_step hyo] at hrun
  have hao:y.2 < O.length:=by rw [← htl]; exact ord_lt (List.mem_of_getElem? hyo)
  have hcm:∀ r,r ∈ (lQ t0).take k → r < O.length:=fun r hr=>by have:=ord_lt (List.mem_of_mem_take hr); omega
  have hl6:((lQ t0).take k).length ≤ 6:=by rw [List.length_take]; omega
  have ia:cO Tryz.prog 131 (slB Ba t0.length) (iv (k:Int)) = some (.pointer (some ⟨Ba,k * 2,none⟩)):=by
   rw [fG slV sV hkn,Nat.zero_add]
  unfold RAt at hra2
  repeat refine S.seq ?_
  refine S.skip ?_
  simp (disch:=first|omega|simp only [aA,aB]<;>omega|decide) only [rUz,↓reduceIte,reduceEqDiff,reduceAdd]
  repeat refine S.seq ?_
  refine S.block ?_
  repeat refine S.seq ?_
  refine S.region ?_
  simp (disch:=first|omega|simp only [aA,aB]<;>omega|decide) only [rUz,↓reduceIte,reduceEqDiff,reduceAdd,t30,t32,ia,hra2,pr2,bU zV]
  refine dE (B:=h2.nx) (c:=[iv 0,iv 0]) (fam:=h2.nx) (k:=h2.nx) (l:=cA y) (by simp (disch:=first|omega|simp only [aA,aB]<;>omega|decide) only [rUz,↓reduceIte,reduceEqDiff,reduceAdd]) (by simp (disch:=first|omega|simp only [aA,aB]<;>omega|decide) only [rUz,↓reduceIte,reduceEqDiff,reduceAdd]) sV (by omega) rfl (aP rfl) (dL rfl) rfl ?_
  have hk4:Kp h2 ((h2.add [iv 0,iv 0]).upd h2.nx (cA y) h2.nx):=Kp.refl.add.upd (Nat.le_refl _)
  have hg4:((h2.add [iv 0,iv 0]).upd h2.nx (cA y) h2.nx).bl.get h2.nx = some (.cells (cA y) h2.nx false):=aO _ _ _
  simp (disch:=first|omega|simp only [aA,aB]<;>omega|decide) only [rUz,↓reduceIte,reduceEqDiff,reduceAdd]
  generalize (h2.add [iv 0,iv 0]).upd h2.nx (cA y) h2.nx = g4 at hk4 hg4 ⊢
  generalize h2.nx = B9 at hg4 ⊢
  repeat refine S.seq ?_
  refine S.region ?_
  simp (disch:=first|omega|simp only [aA,aB]<;>omega|decide) only [rUz,↓reduceIte,reduceEqDiff,reduceAdd,t5,hg4,aC fV1 s3,p3,cA1]
  refine iM (fid:=76) (first:=#[]) (captured:=#[]) (Post:=fun _ h=>CrAt g Bc v ((lQ t0).take k ++ [y.2]) (jG O ((lQ t0).take k) y.2 20 (lf,sl)).1 (jG O ((lQ t0).take k) y.2 20 (lf,sl)).2 h ∧ (jG O ((lQ t0).take k) y.2 20 (lf,sl)).2.length ≤ sl.length + 20) rfl (hoff _ _ _ rfl) (by simp (disch:=first|omega|simp only [aA,aB]<;>omega|decide) only [rUz,↓reduceIte,reduceEqDiff,reduceAdd]; exact come_y S hoff g g4 Bc v O ((lQ t0).take k) lf sl y.2 (hcr.mono hk4) hPoF h6 hao hcm hl6 (by omega)) ?_
  rintro u g5 ⟨hc5,hl5⟩
  rw [← htk] at hc5 hrun
  simp (disch:=first|omega|simp only [aA,aB]<;>omega|decide) only [rUz,↓reduceIte,reduceEqDiff,reduceAdd]
  repeat refine S.seq ?_
  refine S.region ?_
  simp (disch:=first|omega|simp only [aA,aB]<;>omega|decide) only [rUz,↓reduceIte,reduceEqDiff,reduceAdd,t32]
  refine hn (k + 1) _ _ (by omega) ⟨by omega,⟨_,_,hc5,hrun,by omega⟩,?_,?_,?_,?_⟩
  all_goals (first|rfl|(simp (disch:=first|omega|simp only [aA,aB]<;>omega|decide) only [rUz,↓reduceIte,reduceEqDiff,reduceAdd,t5,t30,t31]<;>rfl))
 have hkn:k = t0.length:=by have:=of_decide_eq_false e; omega
 subst hkn
 rw [List.drop_of_length_le (by omega),runZ] at hrun
 refine S.exit (he _ _ _ _ (fun e=>by cases e) ?_)
 simp (disch:=first|omega|simp only [aA,aB]<;>omega|decide) only [rUz,↓reduceIte,reduceEqDiff,reduceAdd]
 repeat refine S.seq ?_
 refine S.region ?_
 simp (disch:=first|omega|simp only [aA,aB]<;>omega|decide) only [rUz,↓reduceIte,reduceEqDiff,reduceAdd,t5]
 refine S.ret ?_
 try simp only [aI,aF]
 subst hF
 simp only [finish,aJ]
 rw [show Tryz.f54.results.toList = [.tmp 4] from rfl]
 simp (disch:=first|omega|simp only [aA,aB]<;>omega|decide) only [bH,aY,aQ,aS,aT,aU,aO,upd_ne,aP,aX,result1]
 obtain ⟨cv,sv,F1,F2,e1,e2⟩:=hcr.ex
 have hs2:(dG O t0).2 = sl:=by rw [← hrun]
 exact hK _ _ (hcr.fr.toKp hkg0 (by omega)) ⟨Bc,cv,lf,sv,rfl,e1,hcr.ok.len,by rw [hs2]; exact e2.y.at,hcr.lt,by rw [hs2]; omega,by omega,fun b hb=>by have:=app_lo e2.y hb; have:=hkg0.1; omega⟩
theorem run_y (S:Ev.Steps Tryz.prog pr R) (hoff:Off pr) (h0:AHeap) (v tv:Value) (O:List Od) (t0:List Int) (hb:PoAt h0 v O) (ht:IAt h0 tv t0) (hv:Val O) (htr:Tru O t0) :
  bD Tryz.prog R 54 [.agg ⟨poV v⟩,tv] h0 fun u h=>RunAt O t0 v u h:=fun K hK=>run_y2 S hoff h0 v tv O t0 hb ht hv htr K fun u h k ⟨Bc,cv,lf,sv,e1,e2,e3,e4,e5,e6,_⟩=>hK u h k ⟨Bc,cv,lf,sv,e1,e2,e3,e4,e5,e6⟩
/-- The error of a post and a list. -/
def tH (O:List Od) (t:List Int):Int:=bif decide (dK O = 0) then (bif fJ O t then 0 else 2) else dK O
def PlayAt (O:List Od) (t:List Int) (u:Value) (h:AHeap):Prop:=
 (tH O t = 0 ∧ ∃ w,u = .tuple ⟨[w,iv 0]⟩ ∧ SlAt h 4 w ((dG O t).2.map cSa) ∧ (dG O t).2.length ≤ 120) ∨ (tH O t ≠ 0 ∧ u = .tuple ⟨[nl,iv (tH O t)]⟩)
set_option maxHeartbeats 16000000 in
theorem play_y (S:Ev.Steps Tryz.prog pr R) (hoff:Off pr) (h0:AHeap) (v tv:Value) (O:List Od) (t0:List Int) (hb:PoAt h0 v O) (ht:IAt h0 tv t0) (h9:O.length ≤ 9) :
  bD Tryz.prog R 30 [.agg ⟨poV v⟩,tv] h0 (PlayAt O t0):=by
 refine aW (fn:=Tryz.f30) (c:=(Tryz.f30.body).getD .skip) (by kernel_rfl) rfl (by kernel_rfl) rfl (fun K hK=>?_)
 generalize hF:finish Tryz.prog Tryz.f30 K = KF
 simp only [Tryz.f30,Option.getD_some,bI,aZ,bC,T.setK_eq,id]
 have hbad:∀ z,z = tH O t0 → z ≠ 0 → ∀ g,Kp h0 g → K (.tuple ⟨[nl,iv z]⟩) g = true:=fun z e hz g hk=>hK _ _ hk (.inr ⟨e ▸ hz,by rw [e]⟩)
 have hgood:tH O t0 = 0 → ∀ g w,Kp h0 g → SlAt g 4 w ((dG O t0).2.map cSa) → (dG O t0).2.length ≤ 120 → K (.tuple ⟨[w,iv 0]⟩) g = true:=fun hz g w hk hs hl=>hK _ _ hk (.inl ⟨hz,w,rfl,hs,hl⟩)
 clear hK
 unfold tH at hbad hgood
 repeat refine S.seq ?_
 refine S.region ?_
 simp (disch:=first|omega|simp only [aA,aB]<;>omega|decide) only [rUz,↓reduceIte,reduceEqDiff,reduceAdd]
 have hb1:(h0.add (poV v)).bl.get h0.nx = some (.cells (poV v) h0.nx false):=aP rfl
 have hn1:h0.nx < (h0.add (poV v)).nx:=Nat.lt_succ_self _
 have hk1:Kp h0 (h0.add (poV v)):=Kp.refl.add
 generalize h0.add (poV v) = H at hb1 hn1 hk1 ⊢
 generalize h0.nx = B2 at hb1 hn1 ⊢
 have hbH:=hb.mono hk1
 have htH:=ht.mono hk1
 repeat refine S.seq ?_
 refine S.region ?_
 simp (disch:=first|omega|simp only [aA,aB]<;>omega|decide) only [rUz,↓reduceIte,reduceEqDiff,reduceAdd,hb1,bP pB (dC v)]
 refine aV (fid:=45) (first:=#[]) (captured:=#[]) (Post:=fun u _=>u = iv (dK O)) rfl (hoff _ _ _ rfl) (by simp (disch:=first|omega|simp only [aA,aB]<;>omega|decide) only [rUz,↓reduceIte,reduceEqDiff,reduceAdd]; exact tC S hoff H v O hbH h9) ?_
 rintro u g hkg rfl
 have hb1g:=(hkg.get hn1).trans hb1
 have hn1g:=Nat.lt_of_lt_of_le hn1 hkg.1
 simp (disch:=first|omega|simp only [aA,aB]<;>omega|decide) only [rUz,↓reduceIte,reduceEqDiff,reduceAdd]
 cases h1:decide (dK O = 0) with
 | false =>
  rw [h1,cond_false] at hbad
  have hz:=of_decide_eq_false h1
  repeat refine S.seq ?_
  refine S.region ?_
  simp (disch:=first|omega|simp only [aA,aB]<;>omega|decide) only [rUz,↓reduceIte,reduceEqDiff,reduceAdd,h1,Bool.not_false]
  repeat refine S.seq ?_
  refine S.cond (v:=true) (by first|rfl|(simp (disch:=first|omega|simp only [aA,aB]<;>omega|decide) only [rUz,↓reduceIte,reduceEqDiff,reduceAdd]<;>rfl)) (fun _=>?_) (fun e=>by cases e)
  repeat refine S.seq ?_
  refine S.region ?_
  simp (disch:=first|omega|simp only [aA,aB]<;>omega|decide) only [rUz,↓reduceIte,reduceEqDiff,reduceAdd]
  refine S.ret ?_
  try simp only [aI,aF]
  subst hF
  simp only [finish,aJ]
  rw [show Tryz.f30.results.toList = [.tmp 4,.tmp 5] from rfl]
  simp (disch:=first|omega|simp only [aA,aB]<;>omega|decide) only [bH,aY,aQ,aS,aT,aU,aO,upd_ne,aP,aX,result1]
  exact hbad _ rfl hz _ (hk1.trans hkg)
 | true =>
 rw [h1,cond_true] at hbad hgood
 have hv:=kW.1 (of_decide_eq_true h1)
 repeat refine S.seq ?_
 refine S.region ?_
 simp (disch:=first|omega|simp only [aA,aB]<;>omega|decide) only [rUz,↓reduceIte,reduceEqDiff,reduceAdd,h1,Bool.not_true]
 repeat refine S.seq ?_
 refine S.cond (v:=false) (by first|rfl|(simp (disch:=first|omega|simp only [aA,aB]<;>omega|decide) only [rUz,↓reduceIte,reduceEqDiff,reduceAdd]<;>rfl)) (fun e=>by cases e) (fun _=>?_)
 repeat refine S.seq ?_
 refine S.skip ?_
 simp (disch:=first|omega|simp only [aA,aB]<;>omega|decide) only [rUz,↓reduceIte,reduceEqDiff,reduceAdd]
 repeat refine S.seq ?_
 refine S.region ?_
 simp (disch:=first|omega|simp only [aA,aB]<;>omega|decide) only [rUz,↓reduceIte,reduceEqDiff,reduceAdd,hb1g,bP pB (dC v)]
 refine aV (fid:=63) (first:=#[]) (captured:=#[]) (Post:=fun u _=>u = .bool (fJ O t0)) rfl (hoff _ _ _ rfl) (by simp (disch:=first|omega|simp only [aA,aB]<;>omega|decide) only [rUz,↓reduceIte,reduceEqDiff,reduceAdd]; exact allows_y S hoff g v tv O t0 (hbH.mono hkg) (htH.mono hkg) h9) ?_
 rintro u g2 hkg2 rfl
 have hb1h:=(hkg2.get hn1g).trans hb1g
 cases h2:fJ O t0 with
 | false =>
  rw [h2,cond_false] at hbad
  simp (disch:=first|omega|simp only [aA,aB]<;>omega|decide) only [rUz,↓reduceIte,reduceEqDiff,reduceAdd,dR,h2,Bool.not_false]
  repeat refine S.seq ?_
  refine S.cond (v:=true) (by first|rfl|(simp (disch:=first|omega|simp only [aA,aB]<;>omega|decide) only [rUz,↓reduceIte,reduceEqDiff,reduceAdd]<;>rfl)) (fun _=>?_) (fun e=>by cases e)
  repeat refine S.seq ?_
  refine S.region ?_
  simp (disch:=first|omega|simp only [aA,aB]<;>omega|decide) only [rUz,↓reduceIte,reduceEqDiff,reduceAdd]
  refine S.ret ?_
  try simp only [aI,aF]
  subst hF
  simp only [finish,aJ]
  rw [show Tryz.f30.results.toList = [.tmp 4,.tmp 5] from rfl]
  simp (disch:=first|omega|simp only [aA,aB]<;>omega|decide) only [bH,aY,aQ,aS,aT,aU,aO,upd_ne,aP,aX,result1]
  exact hbad _ rfl (by omega) _ (hk1.trans (hkg.trans hkg2))
 | true =>
 rw [h2,cond_true] at hgood
 have htr:=rD hv h2
 simp (disch:=first|omega|simp only [aA,aB]<;>omega|decide) only [rUz,↓reduceIte,reduceEqDiff,reduceAdd,dR,h2,Bool.not_true]
 repeat refine S.seq ?_
 refine S.cond (v:=false) (by first|rfl|(simp (disch:=first|omega|simp only [aA,aB]<;>omega|decide) only [rUz,↓reduceIte,reduceEqDiff,reduceAdd]<;>rfl)) (fun e=>by cases e) (fun _=>?_)
 repeat refine S.seq ?_
 refine S.skip ?_
 simp (disch:=first|omega|simp only [aA,aB]<;>omega|decide) only [rUz,↓reduceIte,reduceEqDiff,reduceAdd]
 have hk3:=hk1.trans (hkg.trans hkg2)
 repeat refine S.seq ?_
 refine S.region ?_
 simp (disch:=first|omega|simp only [aA,aB]<;>omega|decide) only [rUz,↓reduceIte,reduceEqDiff,reduceAdd,hb1h,bP pB (dC v)]
 refine aV (fid:=54) (first:=#[]) (captured:=#[]) (Post:=fun u h=>RunAt O t0 v u h) rfl (hoff _ _ _ rfl) (by simp (disch:=first|omega|simp only [aA,aB]<;>omega|decide) only [rUz,↓reduceIte,reduceEqDiff,reduceAdd]; exact run_y S hoff g2 v tv O t0 (hb.mono hk3) (ht.mono hk3) hv htr) ?_
 rintro u g3 hkg3 ⟨Bc,cv,lf,sv,rfl,e1,e2,e3,e4,e5⟩
 simp (disch:=first|omega|simp only [aA,aB]<;>omega|decide) only [rUz,↓reduceIte,reduceEqDiff,reduceAdd,aC fC3 lcS,e1,qcS,cr8 e2]
 refine S.ret ?_
 try simp only [aI,aF]
 subst hF
 simp only [finish,aJ]
 rw [show Tryz.f30.results.toList = [.tmp 4,.tmp 5] from rfl]
 simp (disch:=first|omega|simp only [aA,aB]<;>omega|decide) only [bH,aY,aQ,aS,aT,aU,aO,upd_ne,aP,aX,result1]
 exact hgood rfl _ _ (hk3.trans hkg3) e3 e5
end Go.Proofs.Po
