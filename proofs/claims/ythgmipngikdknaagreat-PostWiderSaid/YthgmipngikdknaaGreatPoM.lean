import Derived.Test.YthgmipngikdknaaGreatPoL
/- The course of a post in a truth; Play. -/
namespace Go.Proofs.Po
open Nat (reduceEqDiff reduceAdd reduceSub)
open Go Go.Ev Go.RowKit
set_option linter.unusedSimpArgs false
variable {pr:Prim} {R:ExT}
theorem ord_len {t:List Int} (h:∀ x,x ∈ t → 0 ≤ x ∧ x ≤ 30):(lW t).length = t.length:=by
 have:=(cm_ok h t.length (Nat.le_refl _)).len
 rw [List.take_of_length_le (Nat.le_refl _)] at this
 unfold lW; rw [List.length_map]; exact this
theorem cells_eq {h:AHeap} {B:Nat} {c1 c2:List Value} {f1 f2:Nat} {r1 r2:Bool} (e1:h.bl.get B = some (.cells c1 f1 r1)) (e2:h.bl.get B = some (.cells c2 f2 r2)):c1 = c2:=by
 rw [e1] at e2
 injection e2 with e
 injection e
theorem run_start (O:List Od) (t:List Int):runZ O ((lW t).drop 0) ((lW t).take 0) (iP O O.length,[]) = dI O t:=by
 rw [List.drop_zero,List.take_zero]; unfold dI; rfl
theorem cr_start {g:AHeap} {Bc:Nat} {v:Value} {lf:List Int} (t:List Int) (hB:Bc < g.nx) (hf:g.fams.get Bc = some [Bc]) (ok:LfOk lf) (bc:g.bl.get Bc = some (.cells (crV v nl lf nl) Bc false)):CrAt g Bc v ((lW t).take 0) lf [] g:=by
 rw [List.take_zero]
 exact ⟨Fr.refl,hB,hf,ok,nl,nl,0,0,bc,TwoS.start⟩
theorem ord_at {t:List Int} {k:Nat} {y:AR} (hy:(cmZ t)[k]? = some y):(lW t)[k]? = some y.2:=by
 unfold lW; rw [List.getElem?_map,hy]; rfl
theorem run_step {O:List Od} {l:List Nat} {k a:Nat} {came:List Nat} {st:ST} (h:l[k]? = some a):runZ O (l.drop k) came st = runZ O (l.drop (k + 1)) (came ++ [a]) (iO O came a 20 st):=by
 obtain ⟨hk,e⟩:=List.getElem?_eq_some_iff.1 h
 rw [List.drop_eq_getElem_cons hk,e,runZ]
theorem take_at {l:List Nat} {k a:Nat} (h:l[k]? = some a):l.take (k + 1) = l.take k ++ [a]:=by
 rw [List.take_add_one,h]; rfl
/-- The same, and that all of it is new. -/
def RunAt2 (lo:Nat) (O:List Od) (t:List Int) (v u:Value) (h:AHeap):Prop:=∃ Bc cv lf sv,u = bG Bc ∧ h.bl.get Bc = some (.cells (crV v cv lf sv) Bc false) ∧ lf.length = 6 ∧ SlAt h 4 sv ((dI O t).2.map cSa) ∧ Bc < h.nx ∧ (dI O t).2.length ≤ 120 ∧ lo ≤ Bc ∧ ∀ b,blk sv = some b → lo ≤ b
theorem app_lo {lo:Nat} {h:AHeap} {sz F b:Nat} {v:Value} {cs:List (List Value)} (k:App lo h sz v cs F) (hb:blk v = some b):lo ≤ b:=by
 rcases k with ⟨_,rfl⟩|⟨b',l,_,rfl,hlo,_⟩
 ·cases hb
 ·cases hb; exact hlo
set_option maxHeartbeats 32000000 in
theorem run_y2 (S:Ev.Steps Tryz.prog pr R) (hoff:Off pr) (h0:AHeap) (v tv:Value) (O:List Od) (t0:List Int) (hb:PoAt h0 v O) (ht:IAt h0 tv t0) (hv:Val O) (htr:Tru O t0) :
  bD Tryz.prog R 54 [.agg ⟨poV v⟩,tv] h0 fun u h=>RunAt2 h0.nx O t0 v u h:=by
 refine aV (fn:=Tryz.f54) (c:=(Tryz.f54.body).getD .skip) (by kernel_rfl) rfl (by kernel_rfl) rfl (fun K hK=>?_)
 generalize hF:finish Tryz.prog Tryz.f54 K = KF
 simp only [Tryz.f54,Option.getD_some,bJ,aX,aZ,T.setK_eq,id]
 have h6:=hv.l6
 have h1:=hv.l1
 have htl:=htr.len
 have lO:=fun t h1 o=>dQ hb iscO t h1 o
 obtain ⟨vp,vn,vc,hvs⟩:=row_sl hb
 repeat refine S.seq ?_
 refine S.region ?_
 simp (disch:=first|omega|simp only [aA,aB]<;>omega|decide) only [rUz,↓reduceIte,reduceEqDiff,reduceAdd]
 obtain ⟨B2,hB2⟩:∃ x,x = h0.nx:=⟨_,rfl⟩
 have hb2:(h0.add (poV v)).bl.get B2 = some (.cells (poV v) B2 false):=by subst hB2; exact aP rfl
 have hk1:Kp h0 (h0.add (poV v)):=Kp.refl.add
 have hn1:(h0.add (poV v)).nx = h0.nx + 1:=rfl
 rw [← hB2]
 generalize h0.add (poV v) = G at hb2 hk1 hn1 ⊢
 have hp0:=bT pB (dR v)
 have hbC:=bC0 vp vn vc
 rw [← hvs] at hbC
 have hbC':fG Tryz.prog 114 [(0,.agg ⟨poV v⟩)] = some (.agg ⟨crV v nl [0,0,0,0,0,0] nl⟩):=hbC
 repeat refine S.seq ?_
 refine S.region ?_
 simp (disch:=first|omega|simp only [aA,aB]<;>omega|decide) only [rUz,↓reduceIte,reduceEqDiff,reduceAdd,hb2,hp0,fF,List.map_cons,List.map_nil,hbC']
 obtain ⟨Bc,hBc⟩:∃ x,x = G.nx:=⟨_,rfl⟩
 have e0:iP O 0 = [0,0,0,0,0,0]:=rfl
 have hkG:Kp G (G.add (crV v nl (iP O 0) nl)):=Kp.refl.add
 have hbc:(G.add (crV v nl (iP O 0) nl)).bl.get Bc = some (.cells (crV v nl (iP O 0) nl) Bc false):=by subst hBc; exact aP rfl
 have hfc:(G.add (crV v nl (iP O 0) nl)).fams.get Bc = some [Bc]:=by subst hBc; exact dL rfl
 have hnc:Bc < (G.add (crV v nl (iP O 0) nl)).nx:=by subst hBc; exact Nat.lt_succ_self _
 rw [← e0,← hBc]
 generalize G.add (crV v nl (iP O 0) nl) = H at hkG hbc hfc hnc ⊢
 replace hb2:=(hkG.get (by omega:B2 < G.nx)).trans hb2
 replace hk1:=hk1.trans hkG
 have hB2c:B2 < Bc:=by omega
 have hcB:h0.nx < Bc:=by omega
 clear hkG hB2 hBc hn1 hbC hbC'
 clear G
 repeat refine S.seq ?_
 refine S.region ?_
 simp (disch:=first|omega|simp only [aA,aB]<;>omega|decide) only [rUz,↓reduceIte,reduceEqDiff,reduceAdd,hb2,aC fB0 lcO,qcO,po0,lO]
 repeat refine S.seq ?_
 refine S.block ?_
 refine S.loop (ι:=Nat) (IRa H Bc O v tv) (fun k=>O.length - k) ?_ 0 _ _ ?_
 rotate_left
 ·refine ⟨Nat.zero_le _,Fr.refl,hbc,?_,?_,?_,?_,?_⟩
  all_goals (first|rfl|(simp (disch:=first|omega|simp only [aA,aB]<;>omega|decide) only [rUz,↓reduceIte,reduceEqDiff,reduceAdd]<;>rfl))
 clear hbc
 intro k t h ⟨hk,fr,bc,t1,t5,t14,t15,t16⟩ K' hn he
 have hle:=fr.le
 have hfh:=(fr.fam Bc hnc).trans hfc
 have hpoh:PoAt h v O:=xO hb (Nat.le_refl _) (by have:=hk1.1; omega) fun j hj=>(fr.bl j (by have:=hk1.1; omega) (by omega)).trans (hk1.get hj)
 repeat refine S.seq ?_
 refine S.region ?_
 simp (disch:=first|omega|simp only [aA,aB]<;>omega|decide) only [rUz,↓reduceIte,reduceEqDiff,reduceAdd,t15,t16]
 repeat refine S.seq ?_
 refine S.cond (v:=decide ((k:Int) < (O.length:Int))) (by first|rfl|(simp (disch:=first|omega|simp only [aA,aB]<;>omega|decide) only [rUz,↓reduceIte,reduceEqDiff,reduceAdd]<;>rfl)) (fun e=>?_) (fun e=>?_)
 ·have hkn:k < O.length:=by have:=of_decide_eq_true e; omega
  clear e
  have hps:=jB hkn
  obtain ⟨b,f,ro,cells,q1,q2,q3,q4,q5,_⟩:=dM hpoh slcO scO hps
  have qp:=gQ pcO q4 q5
  have hl0:=qG O k
  have hstep:=left0_step (O:=O) (k:=k) (by omega)
  have cs:=cr_setL (v:=v) (cv:=nl) (sv:=nl) hl0 (j:=k) (by omega) (x:=(od O k).n)
  have c9:=cr_len (v:=v) (cv:=nl) (sv:=nl) hl0
  have ix:=ixN (B:=Bc) (j:=k) (by omega)
  rw [hstep] at cs
  generalize od O k = x at hps q4 qp cs
  repeat refine S.seq ?_
  refine S.skip ?_
  simp (disch:=first|omega|simp only [aA,aB]<;>omega|decide) only [rUz,↓reduceIte,reduceEqDiff,reduceAdd]
  repeat refine S.seq ?_
  refine S.block ?_
  repeat refine S.seq ?_
  refine S.region ?_
  simp (disch:=first|omega|simp only [aA,aB]<;>omega|decide) only [rUz,↓reduceIte,reduceEqDiff,reduceAdd,t14,t16,q1,q3,qp,cO zcO]
  refine dF (B:=h.nx) (c:=[.bool false,iv 0,iv 0,iv 0,iv 0]) (fam:=h.nx) (k:=h.nx) (l:=cOd x) (by simp (disch:=first|omega|simp only [aA,aB]<;>omega|decide) only [rUz,↓reduceIte,reduceEqDiff,reduceAdd]) (by simp (disch:=first|omega|simp only [aA,aB]<;>omega|decide) only [rUz,↓reduceIte,reduceEqDiff,reduceAdd]) scO (by omega) rfl (aP rfl) (dL rfl) rfl ?_
  have hk4:Kp h ((h.add [.bool false,iv 0,iv 0,iv 0,iv 0]).upd h.nx (cOd x) h.nx):=Kp.refl.add.upd (Nat.le_refl _)
  have hg4:((h.add [.bool false,iv 0,iv 0,iv 0,iv 0]).upd h.nx (cOd x) h.nx).bl.get h.nx = some (.cells (cOd x) h.nx false):=aO _ _ _
  simp (disch:=first|omega|simp only [aA,aB]<;>omega|decide) only [rUz,↓reduceIte,reduceEqDiff,reduceAdd]
  generalize (h.add [.bool false,iv 0,iv 0,iv 0,iv 0]).upd h.nx (cOd x) h.nx = g at hk4 hg4 ⊢
  have bcg:=(hk4.get (by omega:Bc < h.nx)).trans bc
  have fcg:=(hk4.fget (by omega:Bc < h.nx)).trans hfh
  generalize h.nx = B7 at hg4 ⊢
  clear q1 q2 q3 q4 q5 qp
  repeat refine S.seq ?_
  refine S.drawnL [(false,0),(false,0),(false,0),(false,4),(false,1),(false,17),(false,63),(true,127)] (by kernel_rfl) (by kernel_rfl) (by kernel_rfl) ?_
  simp (disch:=first|omega|simp only [aA,aB]<;>omega|decide) only [rUz,↓reduceIte,reduceEqDiff,reduceAdd,rDz,infoL,reduceSub,t5,hg4,aC fcO2 s3,aC fC2 SN,p3,cOd2,ix]
  refine fP (jK (B:=Bc) (off:=2 + k) (v:=iv x.n) (by simp (disch:=first|omega|simp only [aA,aB]<;>omega|decide) only [rUz,↓reduceIte,reduceEqDiff,reduceAdd,rDz,infoL,reduceSub]) (by simp (disch:=first|omega|simp only [aA,aB]<;>omega|decide) only [rUz,↓reduceIte,reduceEqDiff,reduceAdd,rDz,infoL,reduceSub]) s3' rfl rfl bcg fcg (by rw [c9]; omega)) ?_ ?_
  ·try simp (disch:=first|decide|rfl) only [aK,aG,aH]
  rw [cs]
  simp (disch:=first|omega|simp only [aA,aB]<;>omega|decide) only [rUz,↓reduceIte,reduceEqDiff,reduceAdd,rDz,infoL,reduceSub]
  repeat refine S.seq ?_
  refine S.region ?_
  simp (disch:=first|omega|simp only [aA,aB]<;>omega|decide) only [rUz,↓reduceIte,reduceEqDiff,reduceAdd,t16]
  refine hn (k + 1) _ _ (by omega) ⟨by omega,(fr.kp hk4).upd,aO _ _ _,?_,?_,?_,?_,?_⟩
  all_goals (first|rfl|(simp (disch:=first|omega|simp only [aA,aB]<;>omega|decide) only [rUz,↓reduceIte,reduceEqDiff,reduceAdd,t1,t5,t14,t15]<;>rfl))
 have hkn:k = O.length:=by have:=of_decide_eq_false e; omega
 subst hkn
 refine S.exit (he _ _ _ _ (fun e=>by cases e) ?_)
 simp (disch:=first|omega|simp only [aA,aB]<;>omega|decide) only [rUz,↓reduceIte,reduceEqDiff,reduceAdd]
 clear hn he K' e t16 t15 t14
 have hkh:Kp h0 h:=fr.toKp hk1 (by omega)
 have hBh:Bc < h.nx:=Nat.lt_of_lt_of_le hnc hle
 repeat refine S.seq ?_
 refine S.region ?_
 simp (disch:=first|omega|simp only [aA,aB]<;>omega|decide) only [rUz,↓reduceIte,reduceEqDiff,reduceAdd,t1]
 refine bC (fid:=75) (first:=#[]) (captured:=#[]) (Post:=fun u h=>∃ B,u = slB B t0.length ∧ RAt h B (cmZ t0) ∧ B < h.nx) rfl (hoff _ _ _ rfl) (by simp (disch:=first|omega|simp only [aA,aB]<;>omega|decide) only [rUz,↓reduceIte,reduceEqDiff,reduceAdd]; exact arrivals_y S hoff h tv t0 (ht.mono hkh) htr.rng (by omega) (by omega)) ?_
 rintro u g hkg ⟨Ba,rfl,hra,hBa⟩
 have bcg:=(hkg.get hBh).trans bc
 have fcg:=(hkg.fget hBh).trans hfh
 have hBg:=Nat.lt_of_lt_of_le hBh hkg.1
 have hkg0:=hkh.trans hkg
 have hac:Ba ≠ Bc:=by
  intro e
  subst e
  have h9:=congrArg List.length (cells_eq bcg hra)
  rw [cr_len (qG _ _),xN] at h9
  omega
 have hol:=ord_len htr.rng
 have hcmg:(lW t0).length ≤ 6:=by omega
 have hPoF:PoF g Bc v O:=fun h' fr'=>xO hb (Nat.le_refl _) (by have:=fr'.le; have:=hkg0.1; omega) fun j hj=>(fr'.bl j (by have:=hkg0.1; omega) (by omega)).trans (hkg0.get hj)
 have ls:∀ (t:T Value) (h1:AHeap) (o:Oper),qJ Tryz.prog t h1 o 131 (slB Ba t0.length) = some (iv (t0.length:Int)):=fun _ _ _=>lT isV
 simp (disch:=first|omega|simp only [aA,aB]<;>omega|decide) only [rUz,↓reduceIte,reduceEqDiff,reduceAdd,ls]
 clear t1 bc hfh fr hle hpoh
 repeat refine S.seq ?_
 refine S.block ?_
 refine S.loop (ι:=Nat) (IRb g Bc Ba O t0 v) (fun k=>t0.length - k) ?_ 0 _ _ ?_
 rotate_left
 ·refine ⟨Nat.zero_le _,⟨iP O O.length,[],cr_start t0 hBg fcg (left0_ok hv) bcg,run_start O t0,Nat.zero_le _⟩,?_,?_,?_,?_⟩
  all_goals (first|rfl|(simp (disch:=first|omega|simp only [aA,aB]<;>omega|decide) only [rUz,↓reduceIte,reduceEqDiff,reduceAdd,t5]<;>rfl))
 clear t5
 clear t
 intro k t h2 ⟨hk,⟨lf,sl,hcr,hrun,hsl⟩,t5,t30,t31,t32⟩ K' hn he
 have hle:=hcr.fr.le
 have hra2:RAt h2 Ba (cmZ t0):=by unfold RAt at hra ⊢; rw [hcr.fr.bl Ba hBa hac]; exact hra
 have hcl:(cmZ t0).length = t0.length:=by rw [← hol]; unfold lW; rw [List.length_map]
 repeat refine S.seq ?_
 refine S.region ?_
 simp (disch:=first|omega|simp only [aA,aB]<;>omega|decide) only [rUz,↓reduceIte,reduceEqDiff,reduceAdd,t31,t32]
 repeat refine S.seq ?_
 refine S.cond (v:=decide ((k:Int) < (t0.length:Int))) (by first|rfl|(simp (disch:=first|omega|simp only [aA,aB]<;>omega|decide) only [rUz,↓reduceIte,reduceEqDiff,reduceAdd]<;>rfl)) (fun e=>?_) (fun e=>?_)
 ·have hkn:k < t0.length:=by have:=of_decide_eq_true e; omega
  clear e
  have hko:k < (lW t0).length:=by omega
  have hkc:k < (cmZ t0).length:=by omega
  have hy:(cmZ t0)[k]? = some (cmZ t0)[k]:=List.getElem?_eq_getElem hkc
  have pr2:=part_row hy
  generalize (cmZ t0)[k] = y at hy pr2
  have hyo:=ord_at hy
  have htk:=take_at hyo
  rw [run_step hyo] at hrun
  have hao:y.2 < O.length:=by rw [← htl]; exact ord_lt (List.mem_of_getElem? hyo)
  have hcm:∀ r,r ∈ (lW t0).take k → r < O.length:=fun r hr=>by have:=ord_lt (List.mem_of_mem_take hr); omega
  have hl6:((lW t0).take k).length ≤ 6:=by rw [List.length_take]; omega
  have ia:bY Tryz.prog 131 (slB Ba t0.length) (iv (k:Int)) = some (.pointer (some ⟨Ba,k * 2,none⟩)):=by
   rw [eQ slV sV hkn,Nat.zero_add]
  unfold RAt at hra2
  repeat refine S.seq ?_
  refine S.skip ?_
  simp (disch:=first|omega|simp only [aA,aB]<;>omega|decide) only [rUz,↓reduceIte,reduceEqDiff,reduceAdd]
  repeat refine S.seq ?_
  refine S.block ?_
  repeat refine S.seq ?_
  refine S.region ?_
  simp (disch:=first|omega|simp only [aA,aB]<;>omega|decide) only [rUz,↓reduceIte,reduceEqDiff,reduceAdd,t30,t32,ia,hra2,pr2,cO zV]
  refine dF (B:=h2.nx) (c:=[iv 0,iv 0]) (fam:=h2.nx) (k:=h2.nx) (l:=cA y) (by simp (disch:=first|omega|simp only [aA,aB]<;>omega|decide) only [rUz,↓reduceIte,reduceEqDiff,reduceAdd]) (by simp (disch:=first|omega|simp only [aA,aB]<;>omega|decide) only [rUz,↓reduceIte,reduceEqDiff,reduceAdd]) sV (by omega) rfl (aP rfl) (dL rfl) rfl ?_
  have hk4:Kp h2 ((h2.add [iv 0,iv 0]).upd h2.nx (cA y) h2.nx):=Kp.refl.add.upd (Nat.le_refl _)
  have hg4:((h2.add [iv 0,iv 0]).upd h2.nx (cA y) h2.nx).bl.get h2.nx = some (.cells (cA y) h2.nx false):=aO _ _ _
  simp (disch:=first|omega|simp only [aA,aB]<;>omega|decide) only [rUz,↓reduceIte,reduceEqDiff,reduceAdd]
  generalize (h2.add [iv 0,iv 0]).upd h2.nx (cA y) h2.nx = g4 at hk4 hg4 ⊢
  generalize h2.nx = B9 at hg4 ⊢
  repeat refine S.seq ?_
  refine S.region ?_
  simp (disch:=first|omega|simp only [aA,aB]<;>omega|decide) only [rUz,↓reduceIte,reduceEqDiff,reduceAdd,t5,hg4,aC fV1 s3,p3,cA1]
  refine iT (fid:=76) (first:=#[]) (captured:=#[]) (Post:=fun _ h=>CrAt g Bc v ((lW t0).take k ++ [y.2]) (iO O ((lW t0).take k) y.2 20 (lf,sl)).1 (iO O ((lW t0).take k) y.2 20 (lf,sl)).2 h ∧ (iO O ((lW t0).take k) y.2 20 (lf,sl)).2.length ≤ sl.length + 20) rfl (hoff _ _ _ rfl) (by simp (disch:=first|omega|simp only [aA,aB]<;>omega|decide) only [rUz,↓reduceIte,reduceEqDiff,reduceAdd]; exact come_y S hoff g g4 Bc v O ((lW t0).take k) lf sl y.2 (hcr.mono hk4) hPoF h6 hao hcm hl6 (by omega)) ?_
  rintro u g5 ⟨hc5,hl5⟩
  rw [← htk] at hc5 hrun
  simp (disch:=first|omega|simp only [aA,aB]<;>omega|decide) only [rUz,↓reduceIte,reduceEqDiff,reduceAdd]
  repeat refine S.seq ?_
  refine S.region ?_
  simp (disch:=first|omega|simp only [aA,aB]<;>omega|decide) only [rUz,↓reduceIte,reduceEqDiff,reduceAdd,t32]
  refine hn (k + 1) _ _ (by omega) ⟨by omega,⟨_,_,hc5,hrun,by omega⟩,?_,?_,?_,?_⟩
  all_goals (first|rfl|(simp (disch:=first|omega|simp only [aA,aB]<;>omega|decide) only [rUz,↓reduceIte,reduceEqDiff,reduceAdd,t5,t30,t31]<;>rfl))
 have hkn:k = t0.length:=by have:=of_decide_eq_false e; omega
 subst hkn
 rw [List.drop_of_length_le (by omega),runZ] at hrun
 refine S.exit (he _ _ _ _ (fun e=>by cases e) ?_)
 simp (disch:=first|omega|simp only [aA,aB]<;>omega|decide) only [rUz,↓reduceIte,reduceEqDiff,reduceAdd]
 repeat refine S.seq ?_
 refine S.region ?_
 simp (disch:=first|omega|simp only [aA,aB]<;>omega|decide) only [rUz,↓reduceIte,reduceEqDiff,reduceAdd,t5]
 refine S.ret ?_
 try simp only [aJ,aF]
 subst hF
 simp only [finish,aI]
 rw [show Tryz.f54.results.toList = [.tmp 4] from rfl]
 simp (disch:=first|omega|simp only [aA,aB]<;>omega|decide) only [bK,aY,aS,aT,aQ,aU,aO,upd_ne,aP,aW,result1]
 obtain ⟨cv,sv,F1,F2,e1,e2⟩:=hcr.ex
 have hs2:(dI O t0).2 = sl:=by rw [← hrun]
 exact hK _ _ (hcr.fr.toKp hkg0 (by omega)) ⟨Bc,cv,lf,sv,rfl,e1,hcr.ok.len,by rw [hs2]; exact e2.y.at,hcr.lt,by rw [hs2]; omega,by omega,fun b hb=>by have:=app_lo e2.y hb; have:=hkg0.1; omega⟩
end Go.Proofs.Po
