import Derived.Test.YthgmipngikdknaaGreatPoD
/- The sale of two orders, and what it changes. -/
namespace Go.Proofs.Po
open Nat (reduceEqDiff reduceAdd reduceSub)
open Go Go.Ev Go.RowKit
set_option linter.unusedSimpArgs false
variable {pr:Prim} {R:ExT}
set_option maxHeartbeats 32000000 in
theorem sale_y (S:Ev.Steps Tryz.prog pr R) (hoff:Off pr) (H h0:AHeap) (Bc:Nat) (v:Value) (O:List Od) (came:List Nat) (lf:List Int) (sl:List Sa) (a r:Nat) (hc:CrAt H Bc v came lf sl h0) (hp:PoF H Bc v O) (h6:O.length ≤ 6) (ha:a < O.length) (hr:r < O.length) :
  bD Tryz.prog R 118 [bG Bc,iv (a:Int),iv (r:Int)] h0 fun u _=>u = .agg ⟨cSa (iM O lf a r)⟩:=by
 refine aV (fn:=Tryz.f118) (c:=(Tryz.f118.body).getD .skip) (by kernel_rfl) rfl (by kernel_rfl) rfl (fun K hK=>?_)
 generalize hF:finish Tryz.prog Tryz.f118 K = KF
 simp only [Tryz.f118,Option.getD_some,bJ,aX,aZ,T.setK_eq,id]
 have h6l:=hc.ok.len
 have ia:=ixN (B:=Bc) (j:=a) (by omega)
 have ir:=ixN (B:=Bc) (j:=r) (by omega)
 repeat refine S.seq ?_
 refine S.region ?_
 simp (disch:=first|omega|simp only [aA,aB]<;>omega|decide) only [rUz,↓reduceIte,reduceEqDiff,reduceAdd,cO zcS]
 obtain ⟨B6,hB6⟩:∃ x,x = h0.nx:=⟨_,rfl⟩
 have hb6:(h0.add [iv 0,iv 0,iv 0,iv 0]).bl.get B6 = some (.cells [iv 0,iv 0,iv 0,iv 0] B6 false):=by subst hB6; exact aP rfl
 have hf6:(h0.add [iv 0,iv 0,iv 0,iv 0]).fams.get B6 = some [B6]:=by subst hB6; exact dL rfl
 have hn6:B6 < (h0.add [iv 0,iv 0,iv 0,iv 0]).nx:=by subst hB6; exact Nat.lt_succ_self _
 have hk1:Kp h0 (h0.add [iv 0,iv 0,iv 0,iv 0]):=Kp.refl.add
 have ho6:h0.nx ≤ B6:=by omega
 rw [← hB6]
 clear hB6
 generalize h0.add [iv 0,iv 0,iv 0,iv 0] = G at hb6 hf6 hn6 hk1 ⊢
 have hcG:=hc.mono hk1
 have hltG:=hcG.lt
 obtain ⟨cv,sv,F1,F2,hb,_⟩:=hcG.ex
 have la:=crL (v:=v) (cv:=cv) (sv:=sv) h6l (j:=a) (by omega)
 have lr:=crL (v:=v) (cv:=cv) (sv:=sv) h6l (j:=r) (by omega)
 have hpo:=hp G hcG.fr
 obtain ⟨b2,f2,o2,c2',r1,r2,r3,r4,r5,r6⟩:=dM hpo slcO scO (jB hr)
 have c1:=r6 1 _ (cOd1 (od O r))
 have c0:=r6 0 _ (cOd0 (od O r))
 rw [Nat.add_zero] at c0
 obtain ⟨B7,hB7⟩:∃ x,x = G.nx:=⟨_,rfl⟩
 have hsz:iM O lf a r = bif (od O r).b then ⟨(r:Int),(a:Int),min2 (lg lf a) (lg lf r),(od O r).l⟩ else ⟨(a:Int),(r:Int),min2 (lg lf a) (lg lf r),(od O r).l⟩:=by
  unfold iM bsZ
  cases (od O r).b<;>rfl
 repeat refine S.seq ?_
 refine S.drawnM [(false,0),(false,0),(false,0),(false,0),(false,4),(false,20),(false,60),(false,124),(false,0),(false,0),(false,256),(false,1280),(false,3840),(false,7936),(true,16128),(true,32764),(false,0),(false,65536),(false,196608),(false,458752),(false,983040),(false,0),(false,4128768),(false,8323072),(false,16711680),(false,33554431),(true,0),(true,134217727)] 67108864 [26] (by kernel_rfl) (by kernel_rfl) (by kernel_rfl) (by kernel_rfl) (by kernel_rfl) ?_
 generalize hJJ:(fun (t:T Value) (h:AHeap)=>_) = KJ
 suffices hJ:∀ t h,Kp h0 h → tget t 0 = bG Bc → tget t 2 = iv (r:Int) → tget t 6 = bG B6 → tget t 7 = bG B7 → B7 < h.nx → h.bl.get B6 = some (.cells [iv 0,iv 0,iv 0,iv 0] B6 false) → h.fams.get B6 = some [B6] → h.bl.get B7 = some (.cells (cSa ⟨(a:Int),(r:Int),min2 (lg lf a) (lg lf r),(od O r).l⟩) B7 false) → h.fams.get B7 = some [B7] → KJ t h = true by
  clear hJJ hK
  simp (disch:=first|omega|simp only [aA,aB]<;>omega|decide) only [rUz,↓reduceIte,reduceEqDiff,reduceAdd,rMz,infoL,reduceSub,res_bl,hb,aC fC2 SN,ia,ir,p3,la,lr]
  refine jD rfl ?_
  simp (disch:=first|omega|simp only [aA,aB]<;>omega|decide) only [rUz,↓reduceIte,reduceEqDiff,reduceAdd,rMz,infoL,reduceSub,res_bl,hb,aC fC0 SB,aC fB0 lcO,aC fcO1 s3,qcO,cr0,r1,r3,p3,c1]
  refine jD rfl ?_
  simp (disch:=first|omega|simp only [aA,aB]<;>omega|decide) only [rUz,↓reduceIte,reduceEqDiff,reduceAdd,rMz,infoL,reduceSub,res_bl,hb,aC fC0 SB,aC fB0 lcO,aC fcO1 s3,qcO,cr0,r1,r3,p3,c1]
  refine jD rfl ?_
  simp (disch:=first|omega|simp only [aA,aB]<;>omega|decide) only [rUz,↓reduceIte,reduceEqDiff,reduceAdd,rMz,infoL,reduceSub,res_bl,hb,aC fC0 SB,aC fB0 lcO,aC fcO1 s3,qcO,cr0,r1,r3,p3,c1]
  refine jD rfl ?_
  simp (disch:=first|omega|simp only [aA,aB]<;>omega|decide) only [rUz,↓reduceIte,reduceEqDiff,reduceAdd,rMz,infoL,reduceSub,res_bl,hb,aC fC0 SB,aC fB0 lcO,aC fcO1 s3,qcO,cr0,r1,r3,p3,c1]
  refine jD rfl ?_
  simp (disch:=first|omega|simp only [aA,aB]<;>omega|decide) only [rUz,↓reduceIte,reduceEqDiff,reduceAdd,rMz,infoL,reduceSub,res_bl,hb,aC fC0 SB,aC fB0 lcO,aC fcO1 s3,qcO,cr0,r1,r3,p3,c1]
  refine jD rfl ?_
  simp (disch:=first|omega|simp only [aA,aB]<;>omega|decide) only [rUz,↓reduceIte,reduceEqDiff,reduceAdd,rMz,infoL,reduceSub,res_bl,hb,aC fC0 SB,aC fB0 lcO,aC fcO1 s3,qcO,cr0,r1,r3,p3,c1]
  refine jD rfl ?_
  simp (disch:=first|omega|simp only [aA,aB]<;>omega|decide) only [rUz,↓reduceIte,reduceEqDiff,reduceAdd,rMz,infoL,reduceSub,res_bl,hb,aC fC0 SB,aC fB0 lcO,aC fcO1 s3,qcO,cr0,r1,r3,p3,c1]
  refine jD rfl ?_
  simp (disch:=first|omega|simp only [aA,aB]<;>omega|decide) only [rUz,↓reduceIte,reduceEqDiff,reduceAdd,rMz,infoL,reduceSub,res_bl,hb,aC fC0 SB,aC fB0 lcO,aC fcO1 s3,qcO,cr0,r1,r3,p3,c1]
  refine jD rfl ?_
  simp (disch:=first|omega|simp only [aA,aB]<;>omega|decide) only [rUz,↓reduceIte,reduceEqDiff,reduceAdd,rMz,infoL,reduceSub,res_bl,hb,aC fC0 SB,aC fB0 lcO,aC fcO1 s3,qcO,cr0,r1,r3,p3,c1]
  refine mZ rfl rfl ?_
  have hbl:∀ (k:Nat) (c:List Value),k ≠ G.nx + 1 → ((G.res).add c).bl.get k = G.bl.get k:=fun k c hk=>by rw [aW hk,res_bl]
  refine dmW_some (v:=.slice (some ⟨G.nx + 1,0,none⟩) 1 1) (h':=(G.res).add [iv (lg lf r)]) rfl rfl (qZ slI s3' z3 rfl (by omega) (u:=iv (lg lf r)) (l:=[iv (lg lf r)]) (by simp (disch:=first|omega|simp only [aA,aB]<;>omega|decide) only [rUz,↓reduceIte,reduceEqDiff,reduceAdd,rMz,infoL,reduceSub]) rfl rfl) (Nat.le_of_ble_eq_true rfl) ?_ ?_
  ·have hbx:=(hbl Bc [iv (lg lf r)] (by omega)).trans hb
   have hbo:=(hbl b2 [iv (lg lf r)] (by omega)).trans r3
   try simp (disch:=first|decide|rfl) only [aK,aG,aH]
   rw [bF (v:=iv (od O r).l) (by simp (disch:=first|omega|simp only [aA,aB]<;>omega|decide) only [rUz,↓reduceIte,reduceEqDiff,reduceAdd,rDz,infoL,reduceSub,hbo,p3,c1]) fU]
   try simp (disch:=first|decide|rfl) only [aK,aG,aH]
   rw [bF (v:=v) (by simp (disch:=first|omega|simp only [aA,aB]<;>omega|decide) only [rUz,↓reduceIte,reduceEqDiff,reduceAdd,rDz,infoL,reduceSub,hbx,aC fB0 lcO,qcO,cr0]) (rF hpo)]
   try simp (disch:=first|decide|rfl) only [aK,aG,aH]
   rw [bF (v:=iv (lg lf a)) (by simp (disch:=first|omega|simp only [aA,aB]<;>omega|decide) only [rUz,↓reduceIte,reduceEqDiff,reduceAdd,rDz,infoL,reduceSub,hbx,p3,la]) fU]
   try simp (disch:=first|decide|rfl) only [aK,aG,aH]
  simp (disch:=first|omega|simp only [aA,aB]<;>omega|decide) only [rUz,↓reduceIte,reduceEqDiff,reduceAdd,rMz,infoL,reduceSub]
  refine mZ rfl rfl ?_
  refine qY (fid:=88) (first:=#[]) (captured:=#[]) (Post:=fun u h'=>u = iv ([lg lf r].foldl min2 (lg lf a)) ∧ h' = (G.res).add [iv (lg lf r)]) rfl rfl (by simp (disch:=first|omega|simp only [aA,aB]<;>omega|decide) only [rUz,↓reduceIte,reduceEqDiff,reduceAdd,rMz,infoL,reduceSub]) (hoff _ _ _ rfl) (by simp (disch:=first|omega|simp only [aA,aB]<;>omega|decide) only [rUz,↓reduceIte,reduceEqDiff,reduceAdd,rMz,infoL,reduceSub]; exact least_y S _ (lg lf a) _ [lg lf r] (.inr ⟨G.nx + 1,1,G.nx + 1,false,rfl,Nat.lt_succ_self _,aP rfl⟩) (by simp)) (Nat.le_of_ble_eq_true rfl) ?_
  rintro u g - ⟨rfl,rfl⟩
  refine ⟨?_,?_⟩
  ·have hbx:=(hbl Bc [iv (lg lf r)] (by omega)).trans hb
   have hbo:=(hbl b2 [iv (lg lf r)] (by omega)).trans r3
   try simp (disch:=first|decide|rfl) only [aK,aG,aH]
   rw [bF (v:=iv (od O r).l) (by simp (disch:=first|omega|simp only [aA,aB]<;>omega|decide) only [rUz,↓reduceIte,reduceEqDiff,reduceAdd,rDz,infoL,reduceSub,hbo,p3,c1]) fU]
   try simp (disch:=first|decide|rfl) only [aK,aG,aH]
   rw [bF (v:=v) (by simp (disch:=first|omega|simp only [aA,aB]<;>omega|decide) only [rUz,↓reduceIte,reduceEqDiff,reduceAdd,rDz,infoL,reduceSub,hbx,aC fB0 lcO,qcO,cr0]) (rF hpo)]
   try simp (disch:=first|decide|rfl) only [aK,aG,aH]
  have hres:((G.res).add [iv (lg lf r)]).fams.get G.nx = some []:=by rw [nD (by show G.nx ≠ G.nx + 1; omega)]; exact res_fe rfl
  have hkr:Kp h0 ((G.res).add [iv (lg lf r)]):=hk1.res.add
  simp (disch:=first|omega|simp only [aA,aB]<;>omega|decide) only [rUz,↓reduceIte,reduceEqDiff,reduceAdd,rMz,infoL,reduceSub,List.foldl_cons,List.foldl_nil,fF,List.map_cons,List.map_nil,bcS]
  refine mZ rfl rfl ?_
  refine dmW_alloc (r:=G.nx) (z:=.agg ⟨[iv 0,iv 0,iv 0,iv 0]⟩) rfl zcS hres (Nat.le_of_ble_eq_true rfl) ?_ ?_
  ·have hbx:(((G.res).add [iv (lg lf r)]).putAt G.nx [iv 0,iv 0,iv 0,iv 0]).bl.get Bc = some (.cells (crV v cv lf sv) Bc false):=by rw [iY (by omega)]; exact (hbl Bc [iv (lg lf r)] (by omega)).trans hb
   have hbo:(((G.res).add [iv (lg lf r)]).putAt G.nx [iv 0,iv 0,iv 0,iv 0]).bl.get b2 = some (.cells c2' f2 o2):=by rw [iY (by omega)]; exact (hbl b2 [iv (lg lf r)] (by omega)).trans r3
   try simp (disch:=first|decide|rfl) only [aK,aG,aH]
   rw [bF (v:=iv (od O r).l) (by simp (disch:=first|omega|simp only [aA,aB]<;>omega|decide) only [rUz,↓reduceIte,reduceEqDiff,reduceAdd,rDz,infoL,reduceSub,hbo,p3,c1]) fU]
   try simp (disch:=first|decide|rfl) only [aK,aG,aH]
   rw [bF (v:=v) (by simp (disch:=first|omega|simp only [aA,aB]<;>omega|decide) only [rUz,↓reduceIte,reduceEqDiff,reduceAdd,rDz,infoL,reduceSub,hbx,aC fB0 lcO,qcO,cr0]) (rF hpo)]
   try simp (disch:=first|decide|rfl) only [aK,aG,aH]
   rw [bF (v:=iv (lg lf r)) (by simp (disch:=first|omega|simp only [aA,aB]<;>omega|decide) only [rUz,↓reduceIte,reduceEqDiff,reduceAdd,rDz,infoL,reduceSub,hbx,p3,lr]) fU]
   try simp (disch:=first|decide|rfl) only [aK,aG,aH]
   rw [bF (v:=iv (lg lf a)) (by simp (disch:=first|omega|simp only [aA,aB]<;>omega|decide) only [rUz,↓reduceIte,reduceEqDiff,reduceAdd,rDz,infoL,reduceSub,hbx,p3,la]) fU]
   try simp (disch:=first|decide|rfl) only [aK,aG,aH]
  simp (disch:=first|omega|simp only [aA,aB]<;>omega|decide) only [rUz,↓reduceIte,reduceEqDiff,reduceAdd,rMz,infoL,reduceSub]
  refine mZ rfl rfl ?_
  refine dmW_none rfl rfl (aw_storeN (B:=G.nx) (ls:=cSa ⟨(a:Int),(r:Int),min2 (lg lf a) (lg lf r),(od O r).l⟩) (by simp (disch:=first|omega|simp only [aA,aB]<;>omega|decide) only [rUz,↓reduceIte,reduceEqDiff,reduceAdd,rMz,infoL,reduceSub]) (by simp (disch:=first|omega|simp only [aA,aB]<;>omega|decide) only [rUz,↓reduceIte,reduceEqDiff,reduceAdd,rMz,infoL,reduceSub]; rfl) scS (by omega) rfl (by simp (disch:=first|omega|simp only [aA,aB]<;>omega|decide) only [putAt_eq]; rfl) (by simp (disch:=first|omega|simp only [aA,aB]<;>omega|decide) only [tJ]; rfl) rfl) ?_ ?_
  ·try simp (disch:=first|decide|rfl) only [aK,aG,aH]
  simp (disch:=first|omega|simp only [aA,aB]<;>omega|decide) only [rUz,↓reduceIte,reduceEqDiff,reduceAdd,rMz,infoL,reduceSub]
  subst hB7
  have hnn:(((G.res).add [iv (lg lf r)]).putAt G.nx (Value.cells (.agg ⟨[iv 0,iv 0,iv 0,iv 0]⟩)).toList).nx = G.nx + 2:=rfl
  refine hJ _ _ ?_ ?_ ?_ ?_ ?_ ?_ ?_ ?_ ?_ ?_
  ·exact (hkr.putAt (by have:=hk1.1; omega)).upd (by have:=hk1.1; omega)
  ·simp (disch:=first|omega|simp only [aA,aB]<;>omega|decide) only [rUz,↓reduceIte,reduceEqDiff,reduceAdd]
  ·simp (disch:=first|omega|simp only [aA,aB]<;>omega|decide) only [rUz,↓reduceIte,reduceEqDiff,reduceAdd]
  ·simp (disch:=first|omega|simp only [aA,aB]<;>omega|decide) only [rUz,↓reduceIte,reduceEqDiff,reduceAdd]
  ·simp (disch:=first|omega|simp only [aA,aB]<;>omega|decide) only [rUz,↓reduceIte,reduceEqDiff,reduceAdd]
  ·show G.nx < G.nx + 2; omega
  ·rw [upd_ne _ _ _ (by omega),iY (by omega)]; exact (hbl B6 [iv (lg lf r)] (by omega)).trans hb6
  ·rw [bM,putAt_fn (by omega),nD (by show B6 ≠ G.nx + 1; omega),res_fn (by omega)]; exact hf6
  ·exact aO _ _ _
  ·rw [bM]; exact tJ rfl
 clear hb hb6 hf6 hcG r1 r2 r3 r4 r5 r6 c0 c1 hpo la lr
 intro t h hk t0 t2 t6 t7 hn7 hb6 hf6 hb7 hf7
 have hB67:B6 ≠ B7:=by omega
 subst hJJ
 simp only [fM]
 have hch:=hc.mono hk
 obtain ⟨cv,sv,F1,F2,hb,_⟩:=hch.ex
 have hpo:=hp h hch.fr
 obtain ⟨b2,f2,o2,c2',r1,r2,r3,r4,r5,r6⟩:=dM hpo slcO scO (jB hr)
 have c0:=r6 0 _ (cOd0 (od O r))
 rw [Nat.add_zero] at c0
 repeat refine S.seq ?_
 refine S.region ?_
 simp (disch:=first|omega|simp only [aA,aB]<;>omega|decide) only [rUz,↓reduceIte,reduceEqDiff,reduceAdd,t0,t2,hb,aC fC0 SB,aC fB0 lcO,aC fcO0 sb,qcO,cr0,r1,r3,pb,c0]
 cases hbr:(od O r).b with
 | true =>
  rw [hbr,cond_true] at hsz
  generalize min2 (lg lf a) (lg lf r) = m at hb7 hsz
  have hl1:(cSa ⟨(a:Int),(r:Int),m,(od O r).l⟩).length = 4:=rfl
  have hl2:((cSa ⟨(a:Int),(r:Int),m,(od O r).l⟩).set 0 (iv (r:Int))).length = 4:=rfl
  repeat refine S.seq ?_
  refine S.cond (v:=true) (by first|rfl|(simp (disch:=first|omega|simp only [aA,aB]<;>omega|decide) only [rUz,↓reduceIte,reduceEqDiff,reduceAdd,hbr]<;>rfl)) (fun _=>?_) (fun e=>by cases e)
  repeat refine S.seq ?_
  refine S.region ?_
  simp (disch:=first|omega|simp only [aA,aB]<;>omega|decide) only [rUz,↓reduceIte,reduceEqDiff,reduceAdd,t7,hb7,hf7,aC fcS0 s3,aC fcS1 s3,p3,cSa0,cSa1]
  refine mP s3' ?_
  simp (disch:=first|omega|simp only [aA,aB]<;>omega|decide) only [rUz,↓reduceIte,reduceEqDiff,reduceAdd,hb7,hf7,t7,aC fcS1 s3]
  refine mP s3' ?_
  simp (disch:=first|omega|simp only [aA,aB]<;>omega|decide) only [rUz,↓reduceIte,reduceEqDiff,reduceAdd,hf7]
  have hpt:dD Tryz.prog 73 (((cSa ⟨(a:Int),(r:Int),m,(od O r).l⟩).set 0 (iv (r:Int))).set 1 (iv (a:Int))) 0 = some (.agg ⟨cSa ⟨(r:Int),(a:Int),m,(od O r).l⟩⟩):=bT pcS rfl
  repeat refine S.seq ?_
  refine S.region ?_
  simp (disch:=first|omega|simp only [aA,aB]<;>omega|decide) only [rUz,↓reduceIte,reduceEqDiff,reduceAdd,t7,hpt]
  refine dF (B:=B6) (c:=[iv 0,iv 0,iv 0,iv 0]) (fam:=B6) (k:=B6) (l:=cSa ⟨(r:Int),(a:Int),m,(od O r).l⟩) (by simp (disch:=first|omega|simp only [aA,aB]<;>omega|decide) only [rUz,↓reduceIte,reduceEqDiff,reduceAdd,t6]) (by simp (disch:=first|omega|simp only [aA,aB]<;>omega|decide) only [rUz,↓reduceIte,reduceEqDiff,reduceAdd]) scS (by omega) rfl (by rw [upd_ne _ _ _ hB67,upd_ne _ _ _ hB67]; exact hb6) (by rw [bM,bM]; exact hf6) rfl ?_
  simp (disch:=first|omega|simp only [aA,aB]<;>omega|decide) only [rUz,↓reduceIte,reduceEqDiff,reduceAdd]
  refine S.ret ?_
  try simp only [aJ,aF]
  subst hF
  simp only [finish,aI]
  rw [show Tryz.f118.results.toList = [.cell 6 73] from rfl]
  simp (disch:=first|omega|simp only [aA,aB]<;>omega|decide) only [bK,aY,aS,aT,aQ,aU,aO,upd_ne,aP,aW,result1,t6,bT pcS (jL ⟨(r:Int),(a:Int),m,(od O r).l⟩)]
  exact hK _ _ (((hk.upd (by have:=hk1.1; omega)).upd (by have:=hk1.1; omega)).upd (by omega)) (by rw [hsz])
 | false =>
  rw [hbr,cond_false] at hsz
  generalize min2 (lg lf a) (lg lf r) = m at hb7 hsz
  repeat refine S.seq ?_
  refine S.cond (v:=false) (by first|rfl|(simp (disch:=first|omega|simp only [aA,aB]<;>omega|decide) only [rUz,↓reduceIte,reduceEqDiff,reduceAdd,hbr]<;>rfl)) (fun e=>by cases e) (fun _=>?_)
  repeat refine S.seq ?_
  refine S.skip ?_
  simp (disch:=first|omega|simp only [aA,aB]<;>omega|decide) only [rUz,↓reduceIte,reduceEqDiff,reduceAdd]
  repeat refine S.seq ?_
  refine S.region ?_
  simp (disch:=first|omega|simp only [aA,aB]<;>omega|decide) only [rUz,↓reduceIte,reduceEqDiff,reduceAdd,t7,hb7,bT pcS (jL ⟨(a:Int),(r:Int),m,(od O r).l⟩)]
  refine dF (B:=B6) (c:=[iv 0,iv 0,iv 0,iv 0]) (fam:=B6) (k:=B6) (l:=cSa ⟨(a:Int),(r:Int),m,(od O r).l⟩) (by simp (disch:=first|omega|simp only [aA,aB]<;>omega|decide) only [rUz,↓reduceIte,reduceEqDiff,reduceAdd,t6]) (by simp (disch:=first|omega|simp only [aA,aB]<;>omega|decide) only [rUz,↓reduceIte,reduceEqDiff,reduceAdd]) scS (by omega) rfl hb6 hf6 rfl ?_
  simp (disch:=first|omega|simp only [aA,aB]<;>omega|decide) only [rUz,↓reduceIte,reduceEqDiff,reduceAdd]
  refine S.ret ?_
  try simp only [aJ,aF]
  subst hF
  simp only [finish,aI]
  rw [show Tryz.f118.results.toList = [.cell 6 73] from rfl]
  simp (disch:=first|omega|simp only [aA,aB]<;>omega|decide) only [bK,aY,aS,aT,aQ,aU,aO,upd_ne,aP,aW,result1,t6,bT pcS (jL ⟨(a:Int),(r:Int),m,(od O r).l⟩)]
  exact hK _ _ (hk.upd (by omega)) (by rw [hsz])
end Go.Proofs.Po
