import Derived.Test.YthgmipngikdknaaGreatPsD
import Derived.Test.YthgmipngikdknaaGreatPfA
/- PostWider. -/
namespace Go.Proofs.Po
open Nat (reduceEqDiff reduceAdd reduceSub)
open Go Go.Ev Go.RowKit
set_option linter.unusedSimpArgs false
variable {pr:Prim} {R:ExT}
set_option maxRecDepth 100000 in
set_option maxHeartbeats 64000000 in
theorem wider_law (S:Ev.Steps Tryz.prog pr R) (hT:Tab pr) (h0:AHeap) (v:Value) (O:List Od) (hb:PoAt h0 v O) (w:Value) (L:List Sa) (hw:SlAt h0 4 w (L.map cSa)) (ma:Int) (hma:(Lit.int .u8 ma).wf = true) (mb:Int) (hmb:(Lit.int .u8 mb).wf = true) :
  bD Tryz.prog R 7 [.agg ⟨poV v⟩,w,u8v ma,u8v mb] h0 fun u _=>u = .bool true:=by
 have hoff:=hT.off
 have hma8:=wf_u8 hma
 have hmb8:=wf_u8 hmb
 clear hma hmb
 refine aV (fn:=Tryz.f7) (c:=(Tryz.f7.body).getD .skip) (by kernel_rfl) rfl (by kernel_rfl) rfl (fun K hK=>?_)
 generalize hF:finish Tryz.prog Tryz.f7 K = KF
 simp only [Tryz.f7,Option.getD_some,bJ,aX,aZ,T.setK_eq,id]
 have hKr:∀ g,Kp h0 g → K (.bool true) g = true:=fun g hk=>hK _ _ hk rfl
 clear hK
 have awake:∀ {ops:Array Oper} {n:Nat} {rest:List Oper} {t:T Value} {h:AHeap} {KR:T Value → AHeap → Bool} {dst:Option Tmp},jA Tryz.prog (bW pr (cZ Tryz.prog R)) ops n rest dst t (.bool true) h KR = true →
   wrR Tryz.prog (bW pr (cZ Tryz.prog R)) ops n rest (.call ⟨.value (.func 11),#[],#[]⟩) dst t h KR = true:=fun k=>wr_prim (fid:=11) (first:=#[]) (captured:=#[]) (v:=.bool true) rfl (hT.awake _) k
 have tq0:∀ a b:Value,(⟨[a,b]⟩:Array Value)[0]? = some a:=fun _ _=>rfl
 have tq1:∀ a b:Value,(⟨[a,b]⟩:Array Value)[1]? = some b:=fun _ _=>rfl
 have tr0:∀ a b c:Value,(⟨[a,b,c]⟩:Array Value)[0]? = some a:=fun _ _ _=>rfl
 have tr1:∀ a b c:Value,(⟨[a,b,c]⟩:Array Value)[1]? = some b:=fun _ _ _=>rfl
 have tr2':∀ a b c:Value,(⟨[a,b,c]⟩:Array Value)[2]? = some c:=fun _ _ _=>rfl
 have hdd:∀ z:Int,decide (z = z) = true:=fun z=>decide_eq_true rfl
 repeat refine S.seq ?_
 refine S.region ?_
 simp (disch:=first|omega|simp only [aA,aB]<;>omega|decide) only [rUz,↓reduceIte,reduceEqDiff,reduceAdd]
 have hb1:(h0.add (poV v)).bl.get h0.nx = some (.cells (poV v) h0.nx false):=aP rfl
 have hn1:h0.nx < (h0.add (poV v)).nx:=Nat.lt_succ_self _
 have hk1:Kp h0 (h0.add (poV v)):=Kp.refl.add
 generalize h0.add (poV v) = H at hb1 hn1 hk1 ⊢
 generalize h0.nx = B1 at hb1 hn1 ⊢
 repeat refine S.seq ?_
 refine S.region ?_
 simp (disch:=first|omega|simp only [aA,aB]<;>omega|decide) only [rUz,↓reduceIte,reduceEqDiff,reduceAdd,hb1,bT pA (dR v)]
 refine bC (fid:=28) (first:=#[]) (captured:=#[]) (Post:=fun u _=>u = .bool (readyB O)) rfl (hoff _ _ _ rfl) (by simp (disch:=first|omega|simp only [aA,aB]<;>omega|decide) only [rUz,↓reduceIte,reduceEqDiff,reduceAdd]; exact ready_y S hoff H v O (hb.mono hk1)) ?_
 rintro u g hkg rfl
 replace hb1:=(hkg.get hn1).trans hb1
 replace hn1:=Nat.lt_of_lt_of_le hn1 hkg.1
 replace hk1:=hk1.trans hkg
 clear hkg
 clear H
 have lS:=fun t h1 o=>dQ hw isrS t h1 o
 cases hre:readyB O with
 | false =>
  simp (disch:=first|omega|simp only [aA,aB]<;>omega|decide) only [rUz,↓reduceIte,reduceEqDiff,reduceAdd,dX,hre,Bool.not_false]
  repeat refine S.seq ?_
  refine S.cond (v:=true) (by first|rfl|(simp (disch:=first|omega|simp only [aA,aB]<;>omega|decide) only [rUz,↓reduceIte,reduceEqDiff,reduceAdd]<;>rfl)) (fun _=>?_) (fun e=>by cases e)
  repeat refine S.seq ?_
  refine S.region ?_
  simp (disch:=first|omega|simp only [aA,aB]<;>omega|decide) only [rUz,↓reduceIte,reduceEqDiff,reduceAdd]
  refine awake ?_
  simp (disch:=first|omega|simp only [aA,aB]<;>omega|decide) only [rUz,↓reduceIte,reduceEqDiff,reduceAdd]
  refine S.ret ?_
  try simp only [aJ,aF]
  subst hF
  simp only [finish,aI]
  rw [show Tryz.f7.results.toList = [.tmp 8] from rfl]
  simp (disch:=first|omega|simp only [aA,aB]<;>omega|decide) only [bK,aY,aS,aT,aQ,aU,aO,upd_ne,aP,aW,result1]
  exact hKr _ hk1
 | true =>
 have hv:Val O:=by
  unfold readyB at hre
  rw [Bool.and_eq_true] at hre
  exact nM.1 (of_decide_eq_true hre.2)
 have h6:=hv.l6
 have h1O:=hv.l1
 cases hL6:decide (6 < (L.length:Int)) with
 | true =>
  simp (disch:=first|omega|simp only [aA,aB]<;>omega|decide) only [rUz,↓reduceIte,reduceEqDiff,reduceAdd,dX,hre,Bool.not_true,lS,hL6]
  repeat refine S.seq ?_
  refine S.cond (v:=true) (by first|rfl|(simp (disch:=first|omega|simp only [aA,aB]<;>omega|decide) only [rUz,↓reduceIte,reduceEqDiff,reduceAdd]<;>rfl)) (fun _=>?_) (fun e=>by cases e)
  repeat refine S.seq ?_
  refine S.region ?_
  simp (disch:=first|omega|simp only [aA,aB]<;>omega|decide) only [rUz,↓reduceIte,reduceEqDiff,reduceAdd]
  refine awake ?_
  simp (disch:=first|omega|simp only [aA,aB]<;>omega|decide) only [rUz,↓reduceIte,reduceEqDiff,reduceAdd]
  refine S.ret ?_
  try simp only [aJ,aF]
  subst hF
  simp only [finish,aI]
  rw [show Tryz.f7.results.toList = [.tmp 8] from rfl]
  simp (disch:=first|omega|simp only [aA,aB]<;>omega|decide) only [bK,aY,aS,aT,aQ,aU,aO,upd_ne,aP,aW,result1]
  exact hKr _ hk1
 | false =>
 have hL6':L.length ≤ 6:=by have:=of_decide_eq_false hL6; omega
 simp (disch:=first|omega|simp only [aA,aB]<;>omega|decide) only [rUz,↓reduceIte,reduceEqDiff,reduceAdd,dX,hre,Bool.not_true,lS,hL6]
 repeat refine S.seq ?_
 refine S.cond (v:=false) (by first|rfl|(simp (disch:=first|omega|simp only [aA,aB]<;>omega|decide) only [rUz,↓reduceIte,reduceEqDiff,reduceAdd]<;>rfl)) (fun e=>by cases e) (fun _=>?_)
 repeat refine S.seq ?_
 refine S.skip ?_
 simp (disch:=first|omega|simp only [aA,aB]<;>omega|decide) only [rUz,↓reduceIte,reduceEqDiff,reduceAdd]
 clear lS hL6 hre
 obtain ⟨g1,hg1⟩:∃ x,x = g:=⟨_,rfl⟩
 rw [← hg1] at hb1 hn1 hk1 ⊢
 clear hg1
 clear g
 have hk0:Kp g1 (g1.add []):=Kp.refl.add
 have hb1a:=(hk0.get hn1).trans hb1
 repeat refine S.seq ?_
 refine S.region ?_
 simp (disch:=first|omega|simp only [aA,aB]<;>omega|decide) only [rUz,↓reduceIte,reduceEqDiff,reduceAdd,fH]
 refine wr_lit0 slrO srO zrO rfl ?_
 simp (disch:=first|omega|simp only [aA,aB]<;>omega|decide) only [rUz,↓reduceIte,reduceEqDiff,reduceAdd,hb1a,aC fA0 lrO,qrO,po0,kW]
 refine wr_copyE (b:=g1.nx) (v:=v) (cs:=O.map cOd) slrO urO (by simp (disch:=first|omega|simp only [aA,aB]<;>omega|decide) only [rUz,↓reduceIte,reduceEqDiff,reduceAdd]) (by simp (disch:=first|omega|simp only [aA,aB]<;>omega|decide) only [rUz,↓reduceIte,reduceEqDiff,reduceAdd]) srO (aP rfl) (dL rfl) (Nat.lt_succ_self _) (SlAt.mono hb (hk1.trans hk0)) nrO (by rw [List.length_map]; show _ < 1000000; omega) ?_
 intro v3 h3 hc3
 have hk3:Kp g1 h3:=hc3.kp hk0 (Nat.le_refl _)
 obtain ⟨b,hv3,own⟩:=copied_own hc3 (lo:=g1.nx) (Nat.le_refl _) (Nat.lt_succ_self _)
 rw [List.length_map] at hv3
 subst hv3
 simp (disch:=first|omega|simp only [aA,aB]<;>omega|decide) only [rUz,↓reduceIte,reduceEqDiff,reduceAdd,fF,List.map_cons,List.map_nil,bA1c,cO zA]
 refine dF (B:=h3.nx) (c:=[nl]) (fam:=h3.nx) (k:=h3.nx) (l:=poV (.slice (some ⟨b,0,none⟩) O.length O.length)) (by simp (disch:=first|omega|simp only [aA,aB]<;>omega|decide) only [rUz,↓reduceIte,reduceEqDiff,reduceAdd]) (by simp (disch:=first|omega|simp only [aA,aB]<;>omega|decide) only [rUz,↓reduceIte,reduceEqDiff,reduceAdd]) sA (by omega) rfl (aP rfl) (dL rfl) rfl ?_
 have hk4:Kp h3 ((h3.add [nl]).upd h3.nx (poV (.slice (some ⟨b,0,none⟩) O.length O.length)) h3.nx):=Kp.refl.add.upd (Nat.le_refl _)
 have hb6:((h3.add [nl]).upd h3.nx (poV (.slice (some ⟨b,0,none⟩) O.length O.length)) h3.nx).bl.get h3.nx = some (.cells (poV (.slice (some ⟨b,0,none⟩) O.length O.length)) h3.nx false):=aO _ _ _
 have hn6:((h3.add [nl]).upd h3.nx (poV (.slice (some ⟨b,0,none⟩) O.length O.length)) h3.nx).nx = h3.nx + 1:=rfl
 simp (disch:=first|omega|simp only [aA,aB]<;>omega|decide) only [rUz,↓reduceIte,reduceEqDiff,reduceAdd]
 generalize (h3.add [nl]).upd h3.nx (poV (.slice (some ⟨b,0,none⟩) O.length O.length)) h3.nx = h4 at hk4 hb6 hn6 ⊢
 replace own:=own.mono hk4
 have kp4:=(hk1.trans hk3).trans hk4
 have hlo:=hk1.1
 have hb14:=((hk3.trans hk4).get hn1).trans hb1
 have hn14:=Nat.lt_of_lt_of_le hn1 (hk3.trans hk4).1
 have hB1lo:B1 < g1.nx:=hn1
 obtain ⟨lo,hlo'⟩:∃ z,z = g1.nx:=⟨_,rfl⟩
 obtain ⟨B6,hB6⟩:∃ z,z = h3.nx:=⟨_,rfl⟩
 rw [← hlo',← hB6] at own
 rw [← hB6] at hb6 hn6 ⊢
 rw [← hlo'] at hlo hB1lo
 have hn6':B6 < h4.nx:=by omega
 clear hlo' hc3 hk3 hk4 hb1a hk0 hb1 hn1 hk1 hn6 hB6
 try clear h3
 try clear g1
 obtain ⟨k,hk⟩:∃ k:Nat,(k:Int) = ma.tmod (O.length:Int):=⟨(ma.tmod (O.length:Int)).toNat,by have:=Int.tmod_nonneg (O.length:Int) hma8.1; omega⟩
 have hkn:k < O.length:=by have:=Int.tmod_lt_of_pos ma (by omega:0 < (O.length:Int)); omega
 have hps:O[k]? = some O[k]:=List.getElem?_eq_getElem hkn
 generalize O[k] = x at hps
 have ia:bY Tryz.prog 22 (.slice (some ⟨b,0,none⟩) O.length O.length) (iv (k:Int)) = some (.pointer (some ⟨b,k * 5,none⟩)):=by rw [eQ slrO srO hkn,Nat.zero_add]
 have hcv:∀ (n:Int),0 ≤ n ∧ n ≤ 255 → ∀ (t:T Value) (h1:AHeap) (o:Oper),rConv Tryz.prog t h1 o 5 3 (u8v n) = some (iv n):=fun n hn t h1 o=>conv_int Tryz.underlying5 Tryz.underlying3 (by omega) (by omega)
 have hca:=hcv ma hma8
 have hcb:=hcv mb hmb8
 clear hcv
 have lQ:∀ (t:T Value) (h1:AHeap) (o:Oper),qJ Tryz.prog t h1 o 22 (.slice (some ⟨b,0,none⟩) O.length O.length) = some (iv (O.length:Int)):=fun _ _ _=>lT isrO
 repeat refine S.seq ?_
 refine S.drawnL [(false,0),(false,1),(false,0),(false,4),(false,0),(false,16),(false,48),(false,124),(false,255),(false,511)] (by kernel_rfl) (by kernel_rfl) (by kernel_rfl) ?_
 simp (disch:=first|omega|simp only [aA,aB]<;>omega|decide) only [rUz,↓reduceIte,reduceEqDiff,reduceAdd,rDz,infoL,reduceSub,hb6,aC fA0 lrO,qrO,po0,w_cv8,rd_conv,hca,lQ]
 refine rD (bin_rem (i:=ma) (j:=(O.length:Int)) (by simp (disch:=first|omega|simp only [aA,aB]<;>omega|decide) only [rUz,↓reduceIte,reduceEqDiff,reduceAdd,rDz,infoL,reduceSub]) (by simp (disch:=first|omega|simp only [aA,aB]<;>omega|decide) only [rUz,↓reduceIte,reduceEqDiff,reduceAdd,rDz,infoL,reduceSub]) (by omega)) ?_
 rw [← hk]
 simp (disch:=first|omega|simp only [aA,aB]<;>omega|decide) only [rUz,↓reduceIte,reduceEqDiff,reduceAdd,rDz,infoL,reduceSub,ia]
 have hmx:(O.map cOd)[k]? = some (cOd x):=by rw [List.getElem?_map,hps]; rfl
 have hsz:∀ c,c ∈ O.map cOd → c.length = 5:=fun c hc=>by obtain ⟨z,_,rfl⟩:=List.mem_map.1 hc; rfl
 have c3:=flat_get hsz (j:=3) hmx (cOd3 x)
 have c4:=flat_get hsz (j:=4) hmx (cOd4 x)
 have ob:=own.2.2.2.1
 have hox:=hv.ok x (List.mem_of_getElem? hps)
 have hx0:=hox.m0
 have hx1:=hox.m1
 have hx2:=hox.m2
 obtain ⟨da,hda⟩:∃ z,z = mb.tmod 4:=⟨_,rfl⟩
 obtain ⟨dq,hdq⟩:∃ z,z = mb.tdiv 4:=⟨_,rfl⟩
 obtain ⟨db,hdb⟩:∃ z,z = dq.tmod 4:=⟨_,rfl⟩
 have hdq0:0 ≤ dq ∧ dq ≤ 255:=by rw [hdq,Int.tdiv_eq_ediv_of_nonneg hmb8.1]; omega
 have hda0:0 ≤ da ∧ da ≤ 3:=by rw [hda,Int.tmod_eq_emod_of_nonneg hmb8.1]; omega
 have hdb0:0 ≤ db ∧ db ≤ 3:=by rw [hdb,Int.tmod_eq_emod_of_nonneg hdq0.1]; omega
 repeat refine S.seq ?_
 refine S.drawnL [(false,0),(false,0),(false,2),(false,6),(false,14),(false,30),(false,0),(false,64),(false,192),(false,510),(false,1022),(false,0),(false,2048),(false,6144),(false,14336),(false,30720),(false,0),(false,65536),(false,196608),(false,458752),(false,1046528),(false,2095104),(false,4194302),(false,8388607),(false,16777215),(true,33554431)] (by kernel_rfl) (by kernel_rfl) (by kernel_rfl) ?_
 simp (disch:=first|omega|simp only [aA,aB]<;>omega|decide) only [rUz,↓reduceIte,reduceEqDiff,reduceAdd,rDz,infoL,reduceSub,aC frO3 SrR,aC frR0 s3,aC frR1 s3,ob,p3,c3,c4,w_cv8,rd_conv,hcb,w_max,w_min,sW,sZ]
 refine rD (bin_rem (i:=mb) (j:=4) (by simp (disch:=first|omega|simp only [aA,aB]<;>omega|decide) only [rUz,↓reduceIte,reduceEqDiff,reduceAdd,rDz,infoL,reduceSub]) (by simp (disch:=first|omega|simp only [aA,aB]<;>omega|decide) only [rUz,↓reduceIte,reduceEqDiff,reduceAdd,rDz,infoL,reduceSub]) (by omega)) ?_
 rw [← hda]
 simp (disch:=first|omega|simp only [aA,aB]<;>omega|decide) only [rUz,↓reduceIte,reduceEqDiff,reduceAdd,rDz,infoL,reduceSub,aC frO3 SrR,aC frR0 s3,aC frR1 s3,ob,p3,c3,c4,w_cv8,rd_conv,hcb,w_max,w_min,sW,sZ]
 refine rD (v:=iv (max2 0 (x.lo - da))) (xZ (t':=T.set 59 .leaf 58 (iv (x.lo - da))) (v:=iv (x.lo - da)) (by simp (disch:=first|omega|simp only [aA,aB]<;>omega|decide) only [rUz,↓reduceIte,reduceEqDiff,reduceAdd,rDz,infoL,reduceSub]) (by kernel_rfl) (by kernel_rfl)) ?_
 simp (disch:=first|omega|simp only [aA,aB]<;>omega|decide) only [rUz,↓reduceIte,reduceEqDiff,reduceAdd,rDz,infoL,reduceSub,aC frO3 SrR,aC frR0 s3,aC frR1 s3,ob,p3,c3,c4,w_cv8,rd_conv,hcb,w_max,w_min,sW,sZ]
 refine rD (bin_quo (i:=mb) (j:=4) (by simp (disch:=first|omega|simp only [aA,aB]<;>omega|decide) only [rUz,↓reduceIte,reduceEqDiff,reduceAdd,rDz,infoL,reduceSub]) (by simp (disch:=first|omega|simp only [aA,aB]<;>omega|decide) only [rUz,↓reduceIte,reduceEqDiff,reduceAdd,rDz,infoL,reduceSub]) (by omega) (by omega) (by omega)) ?_
 rw [← hdq]
 simp (disch:=first|omega|simp only [aA,aB]<;>omega|decide) only [rUz,↓reduceIte,reduceEqDiff,reduceAdd,rDz,infoL,reduceSub,aC frO3 SrR,aC frR0 s3,aC frR1 s3,ob,p3,c3,c4,w_cv8,rd_conv,hcb,w_max,w_min,sW,sZ]
 refine rD (bin_rem (i:=dq) (j:=4) (by simp (disch:=first|omega|simp only [aA,aB]<;>omega|decide) only [rUz,↓reduceIte,reduceEqDiff,reduceAdd,rDz,infoL,reduceSub]) (by simp (disch:=first|omega|simp only [aA,aB]<;>omega|decide) only [rUz,↓reduceIte,reduceEqDiff,reduceAdd,rDz,infoL,reduceSub]) (by omega)) ?_
 rw [← hdb]
 simp (disch:=first|omega|simp only [aA,aB]<;>omega|decide) only [rUz,↓reduceIte,reduceEqDiff,reduceAdd,rDz,infoL,reduceSub,aC frO3 SrR,aC frR0 s3,aC frR1 s3,ob,p3,c3,c4,w_cv8,rd_conv,hcb,w_max,w_min,sW,sZ]
 refine rD (v:=iv (min2 30 (x.hi + db))) (xZ (t':=T.set 70 .leaf 69 (iv (x.hi + db))) (v:=iv (x.hi + db)) (by simp (disch:=first|omega|simp only [aA,aB]<;>omega|decide) only [rUz,↓reduceIte,reduceEqDiff,reduceAdd,rDz,infoL,reduceSub]) (by kernel_rfl) (by kernel_rfl)) ?_
 obtain ⟨nl',hnl⟩:∃ z,z = max2 0 (x.lo - da):=⟨_,rfl⟩
 obtain ⟨nh,hnh⟩:∃ z,z = min2 30 (x.hi + db):=⟨_,rfl⟩
 have hl0:0 ≤ nl' ∧ nl' ≤ x.lo:=by rw [hnl]; unfold max2; split<;>omega
 have hh0:x.hi ≤ nh ∧ nh ≤ 30:=by rw [hnh]; unfold min2; split<;>omega
 rw [← hnl,← hnh]
 obtain ⟨hvX,hwd⟩:=wd_wider hv hps hl0.1 hl0.2 hh0.1 hh0.2
 have hXl:(O.set k (wdO x nl' nh)).length = O.length:=List.length_set
 have hfl:(O.map cOd).flatten.length = O.length * 5:=by
  have:∀ l:List Od,(l.map cOd).flatten.length = l.length * 5:=fun l=>by
   induction l with
   | nil=>rfl
   | cons a l ih=>rw [List.map_cons,List.flatten_cons,List.length_append,ih,List.length_cons,xM]; omega
  exact this O
 obtain ⟨h5,hst,win,own5⟩:=own.store (off:=k * 5 + 3) (ls:=c2 (nl',nh)) (by simp [c2]) (by rw [hfl]; show k * 5 + 3 + 2 ≤ O.length * 5; omega)
 rw [rows_wd hps] at own5
 have kp5:=win.kp hlo kp4
 have hb65:=(win.2 B6 (.inr (Nat.le_refl _))).1.trans hb6
 have hb15:=(win.2 B1 (.inl hB1lo)).1.trans hb14
 have hn15:B1 < h5.nx:=by rw [win.1]; exact hn14
 have hn65:B6 < h5.nx:=by rw [win.1]; exact hn6'
 have bcr:fG Tryz.prog 45 [(0,iv nl'),(1,iv nh)] = some (.agg ⟨c2 (nl',nh)⟩):=brRc _ _
 simp (disch:=first|omega|simp only [aA,aB]<;>omega|decide) only [rUz,↓reduceIte,reduceEqDiff,reduceAdd,rDz,infoL,reduceSub,fF,List.map_cons,List.map_nil,bcr,aC frO3 SrR,aC frR0 s3,aC frR1 s3,ob,p3,c3,c4,w_cv8,rd_conv,hcb,w_max,w_min,sW,sZ]
 refine fP (aw_storeC (B:=b) (off:=k * 5 + 3) (l:=c2 (nl',nh)) (by simp (disch:=first|omega|simp only [aA,aB]<;>omega|decide) only [rUz,↓reduceIte,reduceEqDiff,reduceAdd,rDz,infoL,reduceSub]) (by simp (disch:=first|omega|simp only [aA,aB]<;>omega|decide) only [rUz,↓reduceIte,reduceEqDiff,reduceAdd,rDz,infoL,reduceSub]) srR rfl hst) ?_ ?_
 ·try simp (disch:=first|decide|rfl) only [aK,aG,aH]
 simp (disch:=first|omega|simp only [aA,aB]<;>omega|decide) only [rUz,↓reduceIte,reduceEqDiff,reduceAdd,rDz,infoL,reduceSub]
 have hslX:=own_at own5 (fun e=>by rw [e] at hXl; simp at hXl; omega)
 rw [hXl] at hslX
 clear hst win own5 own kp4 hb6 hb14 hn14 hn6' ob c3 c4 hmx hsz hca hcb ia lQ hnl hnh hl0 hh0 hda hdq hdb hda0 hdb0 hdq0 hx0 hx1 hx2 hox hfl hps hk
 clear h4
 generalize O.set k (wdO x nl' nh) = X at hvX hwd hXl hslX
 have hX6:X.length ≤ 6:=hvX.l6
 have hpX:PoAt h5 (.slice (some ⟨b,0,none⟩) O.length O.length) X:=hslX
 have hwl:=leave_wider hv hvX hwd L
 have hlk:=look_0 hv hL6'
 have hlkX:=look_0 hvX hL6'
 obtain ⟨xl,yl,hxl,hyl,hlen⟩:=hwl
 repeat refine S.seq ?_
 refine S.region ?_
 simp (disch:=first|omega|simp only [aA,aB]<;>omega|decide) only [rUz,↓reduceIte,reduceEqDiff,reduceAdd,hb15,bT pA (dR _)]
 refine bC (fid:=13) (first:=#[]) (captured:=#[]) (Post:=fun u h=>∃ v',u = .agg ⟨poV v'⟩ ∧ PoAt h v' O) rfl (hoff _ _ _ rfl) (by simp (disch:=first|omega|simp only [aA,aB]<;>omega|decide) only [rUz,↓reduceIte,reduceEqDiff,reduceAdd]; exact uY S hoff h5 v O (hb.mono kp5) (by omega)) ?_
 rintro u g1a hka ⟨va,rfl,hba⟩
 simp (disch:=first|omega|simp only [aA,aB]<;>omega|decide) only [rUz,↓reduceIte,reduceEqDiff,reduceAdd]
 refine bC (fid:=12) (first:=#[]) (captured:=#[]) (Post:=FillsAt O) rfl (hoff _ _ _ rfl) (by simp (disch:=first|omega|simp only [aA,aB]<;>omega|decide) only [rUz,↓reduceIte,reduceEqDiff,reduceAdd]; exact fills_y S hoff g1a va O hba (by omega)) ?_
 rintro u g1 hkb hf
 obtain ⟨fv,mv,rfl,hfv,hmv⟩:∃ f m,u = .tuple ⟨[f,m,iv 0]⟩ ∧ SlAt g1 2 f ((vT qN O).map c2) ∧ SlAt g1 2 m ((vT qM O).map c2):=by
  rcases hf with ⟨_,f,m,e,h1,h2⟩|⟨hz,_⟩
  ·exact ⟨f,m,e,h1,h2⟩
  ·exact absurd (nM.2 hv) hz
 clear hf
 have hkc:=hka.trans hkb
 simp (disch:=first|omega|simp only [aA,aB]<;>omega|decide) only [rUz,↓reduceIte,reduceEqDiff,reduceAdd,dP,tr0,tr1,tr2']
 have b1_1:=(hkc.get hn15).trans hb15
 have n1_1:=Nat.lt_of_lt_of_le hn15 hkc.1
 have b6_1:=(hkc.get hn65).trans hb65
 have n6_1:=Nat.lt_of_lt_of_le hn65 hkc.1
 have kp_1:=kp5.trans hkc
 replace hpX:=hpX.mono hkc
 clear hb15 hn15 hb65 hn65 kp5
 clear hka hkb hkc hba
 repeat refine S.seq ?_
 refine S.region ?_
 simp (disch:=first|omega|simp only [aA,aB]<;>omega|decide) only [rUz,↓reduceIte,reduceEqDiff,reduceAdd,b6_1,bT pA (dR _)]
 refine bC (fid:=13) (first:=#[]) (captured:=#[]) (Post:=fun u h=>∃ v',u = .agg ⟨poV v'⟩ ∧ PoAt h v' X) rfl (hoff _ _ _ rfl) (by simp (disch:=first|omega|simp only [aA,aB]<;>omega|decide) only [rUz,↓reduceIte,reduceEqDiff,reduceAdd]; exact uY S hoff g1 _ X hpX (by omega)) ?_
 rintro u g2a hka ⟨va,rfl,hba⟩
 simp (disch:=first|omega|simp only [aA,aB]<;>omega|decide) only [rUz,↓reduceIte,reduceEqDiff,reduceAdd]
 refine bC (fid:=12) (first:=#[]) (captured:=#[]) (Post:=FillsAt X) rfl (hoff _ _ _ rfl) (by simp (disch:=first|omega|simp only [aA,aB]<;>omega|decide) only [rUz,↓reduceIte,reduceEqDiff,reduceAdd]; exact fills_y S hoff g2a va X hba (by omega)) ?_
 rintro u g2 hkb hf
 obtain ⟨gv,nv,rfl,hgv,hnv⟩:∃ f m,u = .tuple ⟨[f,m,iv 0]⟩ ∧ SlAt g2 2 f ((vT qN X).map c2) ∧ SlAt g2 2 m ((vT qM X).map c2):=by
  rcases hf with ⟨_,f,m,e,h1,h2⟩|⟨hz,_⟩
  ·exact ⟨f,m,e,h1,h2⟩
  ·exact absurd (nM.2 hvX) hz
 clear hf
 have hkc:=hka.trans hkb
 simp (disch:=first|omega|simp only [aA,aB]<;>omega|decide) only [rUz,↓reduceIte,reduceEqDiff,reduceAdd,dP,tr0,tr1,tr2']
 have b1_2:=(hkc.get n1_1).trans b1_1
 have n1_2:=Nat.lt_of_lt_of_le n1_1 hkc.1
 have b6_2:=(hkc.get n6_1).trans b6_1
 have n6_2:=Nat.lt_of_lt_of_le n6_1 hkc.1
 have kp_2:=kp_1.trans hkc
 replace hpX:=hpX.mono hkc
 replace hfv:=SlAt.mono hfv hkc
 replace hmv:=SlAt.mono hmv hkc
 clear b1_1 n1_1 b6_1 n6_1 kp_1
 clear hka hkb hkc hba
 repeat refine S.seq ?_
 refine S.region ?_
 simp (disch:=first|omega|simp only [aA,aB]<;>omega|decide) only [rUz,↓reduceIte,reduceEqDiff,reduceAdd,b1_2,bT pA (dR _)]
 refine bC (fid:=13) (first:=#[]) (captured:=#[]) (Post:=fun u h=>∃ v',u = .agg ⟨poV v'⟩ ∧ PoAt h v' O) rfl (hoff _ _ _ rfl) (by simp (disch:=first|omega|simp only [aA,aB]<;>omega|decide) only [rUz,↓reduceIte,reduceEqDiff,reduceAdd]; exact uY S hoff g2 v O (hb.mono kp_2) (by omega)) ?_
 rintro u g3a hka ⟨va,rfl,hba⟩
 simp (disch:=first|omega|simp only [aA,aB]<;>omega|decide) only [rUz,↓reduceIte,reduceEqDiff,reduceAdd]
 refine bC (fid:=14) (first:=#[]) (captured:=#[]) (Post:=SureAt O) rfl (hoff _ _ _ rfl) (by simp (disch:=first|omega|simp only [aA,aB]<;>omega|decide) only [rUz,↓reduceIte,reduceEqDiff,reduceAdd]; exact surely_y S hoff g3a va O hba (by omega)) ?_
 rintro u g3 hkb hf
 obtain ⟨sv,rfl,hsv⟩:∃ f,u = .tuple ⟨[f,iv 0]⟩ ∧ IS g3 f (xY O):=by
  rcases hf with ⟨_,f,e,h1⟩|⟨hz,_⟩
  ·exact ⟨f,e,h1⟩
  ·exact absurd (nM.2 hv) hz
 clear hf
 have hkc:=hka.trans hkb
 simp (disch:=first|omega|simp only [aA,aB]<;>omega|decide) only [rUz,↓reduceIte,reduceEqDiff,reduceAdd,dP,tq0,tq1]
 have b1_3:=(hkc.get n1_2).trans b1_2
 have n1_3:=Nat.lt_of_lt_of_le n1_2 hkc.1
 have b6_3:=(hkc.get n6_2).trans b6_2
 have n6_3:=Nat.lt_of_lt_of_le n6_2 hkc.1
 have kp_3:=kp_2.trans hkc
 replace hpX:=hpX.mono hkc
 replace hfv:=SlAt.mono hfv hkc
 replace hmv:=SlAt.mono hmv hkc
 replace hgv:=SlAt.mono hgv hkc
 replace hnv:=SlAt.mono hnv hkc
 clear b1_2 n1_2 b6_2 n6_2 kp_2
 clear hka hkb hkc hba
 repeat refine S.seq ?_
 refine S.region ?_
 simp (disch:=first|omega|simp only [aA,aB]<;>omega|decide) only [rUz,↓reduceIte,reduceEqDiff,reduceAdd,b6_3,bT pA (dR _)]
 refine bC (fid:=13) (first:=#[]) (captured:=#[]) (Post:=fun u h=>∃ v',u = .agg ⟨poV v'⟩ ∧ PoAt h v' X) rfl (hoff _ _ _ rfl) (by simp (disch:=first|omega|simp only [aA,aB]<;>omega|decide) only [rUz,↓reduceIte,reduceEqDiff,reduceAdd]; exact uY S hoff g3 _ X hpX (by omega)) ?_
 rintro u g4a hka ⟨va,rfl,hba⟩
 simp (disch:=first|omega|simp only [aA,aB]<;>omega|decide) only [rUz,↓reduceIte,reduceEqDiff,reduceAdd]
 refine bC (fid:=14) (first:=#[]) (captured:=#[]) (Post:=SureAt X) rfl (hoff _ _ _ rfl) (by simp (disch:=first|omega|simp only [aA,aB]<;>omega|decide) only [rUz,↓reduceIte,reduceEqDiff,reduceAdd]; exact surely_y S hoff g4a va X hba (by omega)) ?_
 rintro u g4 hkb hf
 obtain ⟨tv,rfl,htv⟩:∃ f,u = .tuple ⟨[f,iv 0]⟩ ∧ IS g4 f (xY X):=by
  rcases hf with ⟨_,f,e,h1⟩|⟨hz,_⟩
  ·exact ⟨f,e,h1⟩
  ·exact absurd (nM.2 hvX) hz
 clear hf
 have hkc:=hka.trans hkb
 simp (disch:=first|omega|simp only [aA,aB]<;>omega|decide) only [rUz,↓reduceIte,reduceEqDiff,reduceAdd,dP,tq0,tq1]
 have b1_4:=(hkc.get n1_3).trans b1_3
 have n1_4:=Nat.lt_of_lt_of_le n1_3 hkc.1
 have b6_4:=(hkc.get n6_3).trans b6_3
 have n6_4:=Nat.lt_of_lt_of_le n6_3 hkc.1
 have kp_4:=kp_3.trans hkc
 replace hpX:=hpX.mono hkc
 replace hfv:=SlAt.mono hfv hkc
 replace hmv:=SlAt.mono hmv hkc
 replace hgv:=SlAt.mono hgv hkc
 replace hnv:=SlAt.mono hnv hkc
 replace hsv:=IS.mono hsv hkc
 clear b1_3 n1_3 b6_3 n6_3 kp_3
 clear hka hkb hkc hba
 repeat refine S.seq ?_
 refine S.region ?_
 simp (disch:=first|omega|simp only [aA,aB]<;>omega|decide) only [rUz,↓reduceIte,reduceEqDiff,reduceAdd,b1_4,bT pA (dR _)]
 refine bC (fid:=13) (first:=#[]) (captured:=#[]) (Post:=fun u h=>∃ v',u = .agg ⟨poV v'⟩ ∧ PoAt h v' O) rfl (hoff _ _ _ rfl) (by simp (disch:=first|omega|simp only [aA,aB]<;>omega|decide) only [rUz,↓reduceIte,reduceEqDiff,reduceAdd]; exact uY S hoff g4 v O (hb.mono kp_4) (by omega)) ?_
 rintro u g5a hka ⟨va,rfl,hba⟩
 simp (disch:=first|omega|simp only [aA,aB]<;>omega|decide) only [rUz,↓reduceIte,reduceEqDiff,reduceAdd]
 refine bC (fid:=20) (first:=#[]) (captured:=#[]) (Post:=fun u h=>SlAt h 4 u (L.map cSa)) rfl (hoff _ _ _ rfl) (by simp (disch:=first|omega|simp only [aA,aB]<;>omega|decide) only [rUz,↓reduceIte,reduceEqDiff,reduceAdd]; exact salesC_y S g5a w L (SlAt.mono hw (kp_4.trans hka)) (by omega)) ?_
 rintro wa g5b hkb hsa
 simp (disch:=first|omega|simp only [aA,aB]<;>omega|decide) only [rUz,↓reduceIte,reduceEqDiff,reduceAdd]
 refine bC (fid:=21) (first:=#[]) (captured:=#[]) (Post:=LvAt O L) rfl (hoff _ _ _ rfl) (by simp (disch:=first|omega|simp only [aA,aB]<;>omega|decide) only [rUz,↓reduceIte,reduceEqDiff,reduceAdd]; exact leave_y S hoff g5b va wa O L (hba.mono hkb) hsa (by omega) (by omega)) ?_
 rintro u g5 hkd hlv
 obtain ⟨lv,rfl,hlv⟩:∃ w,u = .tuple ⟨[w,iv 0]⟩ ∧ IAt g5 w xl:=by
  rcases hlv with ⟨hz,_⟩|⟨_,t,w,hf,e,hi⟩|⟨_,hf,_⟩
  ·exact absurd hlk hz
  ·rw [hxl] at hf; cases hf; exact ⟨w,e,hi⟩
  ·rw [hxl] at hf; cases hf
 clear hlv
 have hkc:=(hka.trans hkb).trans hkd
 simp (disch:=first|omega|simp only [aA,aB]<;>omega|decide) only [rUz,↓reduceIte,reduceEqDiff,reduceAdd,dP,tq0,tq1]
 have b1_5:=(hkc.get n1_4).trans b1_4
 have n1_5:=Nat.lt_of_lt_of_le n1_4 hkc.1
 have b6_5:=(hkc.get n6_4).trans b6_4
 have n6_5:=Nat.lt_of_lt_of_le n6_4 hkc.1
 have kp_5:=kp_4.trans hkc
 replace hpX:=hpX.mono hkc
 replace hfv:=SlAt.mono hfv hkc
 replace hmv:=SlAt.mono hmv hkc
 replace hgv:=SlAt.mono hgv hkc
 replace hnv:=SlAt.mono hnv hkc
 replace hsv:=IS.mono hsv hkc
 replace htv:=IS.mono htv hkc
 clear b1_4 n1_4 b6_4 n6_4 kp_4
 clear hka hkb hkc hkd hba hsa
 repeat refine S.seq ?_
 refine S.region ?_
 simp (disch:=first|omega|simp only [aA,aB]<;>omega|decide) only [rUz,↓reduceIte,reduceEqDiff,reduceAdd,b6_5,bT pA (dR _)]
 refine bC (fid:=13) (first:=#[]) (captured:=#[]) (Post:=fun u h=>∃ v',u = .agg ⟨poV v'⟩ ∧ PoAt h v' X) rfl (hoff _ _ _ rfl) (by simp (disch:=first|omega|simp only [aA,aB]<;>omega|decide) only [rUz,↓reduceIte,reduceEqDiff,reduceAdd]; exact uY S hoff g5 _ X hpX (by omega)) ?_
 rintro u g6a hka ⟨va,rfl,hba⟩
 simp (disch:=first|omega|simp only [aA,aB]<;>omega|decide) only [rUz,↓reduceIte,reduceEqDiff,reduceAdd]
 refine bC (fid:=20) (first:=#[]) (captured:=#[]) (Post:=fun u h=>SlAt h 4 u (L.map cSa)) rfl (hoff _ _ _ rfl) (by simp (disch:=first|omega|simp only [aA,aB]<;>omega|decide) only [rUz,↓reduceIte,reduceEqDiff,reduceAdd]; exact salesC_y S g6a w L (SlAt.mono hw (kp_5.trans hka)) (by omega)) ?_
 rintro wa g6b hkb hsa
 simp (disch:=first|omega|simp only [aA,aB]<;>omega|decide) only [rUz,↓reduceIte,reduceEqDiff,reduceAdd]
 refine bC (fid:=21) (first:=#[]) (captured:=#[]) (Post:=LvAt X L) rfl (hoff _ _ _ rfl) (by simp (disch:=first|omega|simp only [aA,aB]<;>omega|decide) only [rUz,↓reduceIte,reduceEqDiff,reduceAdd]; exact leave_y S hoff g6b va wa X L (hba.mono hkb) hsa (by omega) (by omega)) ?_
 rintro u g6 hkd hlv
 obtain ⟨kv,rfl,hkv⟩:∃ w,u = .tuple ⟨[w,iv 0]⟩ ∧ IAt g6 w yl:=by
  rcases hlv with ⟨hz,_⟩|⟨_,t,w,hf,e,hi⟩|⟨_,hf,_⟩
  ·exact absurd hlkX hz
  ·rw [hyl] at hf; cases hf; exact ⟨w,e,hi⟩
  ·rw [hyl] at hf; cases hf
 clear hlv
 have hkc:=(hka.trans hkb).trans hkd
 simp (disch:=first|omega|simp only [aA,aB]<;>omega|decide) only [rUz,↓reduceIte,reduceEqDiff,reduceAdd,dP,tq0,tq1]
 have b1_6:=(hkc.get n1_5).trans b1_5
 have n1_6:=Nat.lt_of_lt_of_le n1_5 hkc.1
 have b6_6:=(hkc.get n6_5).trans b6_5
 have n6_6:=Nat.lt_of_lt_of_le n6_5 hkc.1
 have kp_6:=kp_5.trans hkc
 replace hpX:=hpX.mono hkc
 replace hfv:=SlAt.mono hfv hkc
 replace hmv:=SlAt.mono hmv hkc
 replace hgv:=SlAt.mono hgv hkc
 replace hnv:=SlAt.mono hnv hkc
 replace hsv:=IS.mono hsv hkc
 replace htv:=IS.mono htv hkc
 replace hlv:=IAt.mono hlv hkc
 clear b1_5 n1_5 b6_5 n6_5 kp_5
 clear hka hkb hkc hkd hba hsa
 have lf:=fun t h1 o=>dQ hfv isRg t h1 o
 have lm:=fun t h1 o=>dQ hmv isRg t h1 o
 have lg':=fun t h1 o=>dQ hgv isRg t h1 o
 have ln:=fun t h1 o=>dQ hnv isRg t h1 o
 have ls:=fun t h1 o=>o5 hsv.at t h1 o
 have lt':=fun t h1 o=>o5 htv.at t h1 o
 have ll:=fun t h1 o=>o5 hlv t h1 o
 have lk:=fun t h1 o=>o5 hkv t h1 o
 rw [rowsQ_len] at lf lm lg' ln
 rw [hXl] at lg' ln
 have hsl:=sure_wider hv hvX hwd
 have dA:decide ((xl.length:Int) < (yl.length:Int)) = false:=decide_eq_false (by omega)
 have dB:decide (((xY O).length:Int) < ((xY X).length:Int)) = false:=decide_eq_false (by omega)
 repeat refine S.seq ?_
 refine S.region ?_
 simp (disch:=first|omega|simp only [aA,aB]<;>omega|decide) only [rUz,↓reduceIte,reduceEqDiff,reduceAdd,hdd,decide_true,Bool.not_true,lf,lm,lg',ln,ls,lt',ll,lk,dA,dB]
 repeat refine S.seq ?_
 refine S.cond (v:=false) (by first|rfl|(simp (disch:=first|omega|simp only [aA,aB]<;>omega|decide) only [rUz,↓reduceIte,reduceEqDiff,reduceAdd]<;>rfl)) (fun e=>by cases e) (fun _=>?_)
 repeat refine S.seq ?_
 refine S.skip ?_
 simp (disch:=first|omega|simp only [aA,aB]<;>omega|decide) only [rUz,↓reduceIte,reduceEqDiff,reduceAdd]
 clear lm lg' ln ls lt' ll lk dA dB hsl
 have hbdN:=fun j=>bd_wider hv hvX hwd qN j
 have hbdM:=fun j=>bd_wider hv hvX hwd qM j
 repeat refine S.seq ?_
 refine S.region ?_
 simp (disch:=first|omega|simp only [aA,aB]<;>omega|decide) only [rUz,↓reduceIte,reduceEqDiff,reduceAdd]
 repeat refine S.seq ?_
 refine S.block ?_
 refine S.loop (ι:=Nat) (ICw O.length g6 fv mv gv nv) (fun k=>O.length - k) ?_ 0 _ _ ?_
 rotate_left
 ·refine ⟨rfl,?_,?_,?_,?_,?_,Nat.zero_le _⟩
  all_goals (first|rfl|(simp (disch:=first|omega|simp only [aA,aB]<;>omega|decide) only [rUz,↓reduceIte,reduceEqDiff,reduceAdd]<;>rfl))
 intro i t h ⟨hh,t11,t12,t14,t15,t25,hi⟩ K' hn he
 subst hh
 repeat refine S.seq ?_
 refine S.region ?_
 simp (disch:=first|omega|simp only [aA,aB]<;>omega|decide) only [rUz,↓reduceIte,reduceEqDiff,reduceAdd,t11,t25,lf]
 repeat refine S.seq ?_
 refine S.cond (v:=decide ((i:Int) < (O.length:Int))) (by first|rfl|(simp (disch:=first|omega|simp only [aA,aB]<;>omega|decide) only [rUz,↓reduceIte,reduceEqDiff,reduceAdd]<;>rfl)) (fun e=>?_) (fun e=>?_)
 ·have hin:i < O.length:=by have:=of_decide_eq_true e; omega
  clear e
  have hrN:=qC (q:=qN) hin
  have hrM:=qC (q:=qM) hin
  have hsN:=qC (q:=qN) (O:=X) (j:=i) (by omega)
  have hsM:=qC (q:=qM) (O:=X) (j:=i) (by omega)
  have hiN:=hbdN i
  have hiM:=hbdM i
  generalize bdQ qN O i = rN at hrN hiN
  generalize bdQ qM O i = rM at hrM hiM
  generalize bdQ qN X i = sN at hsN hiN
  generalize bdQ qM X i = sM at hsM hiM
  obtain ⟨b1,f1,o1,e1,u1,u2,u3,u4,u5,u6⟩:=dM hfv slRg scR hrN
  obtain ⟨b2,f2,o2,e2,w1,w2,w3,w4,w5,w6⟩:=dM hmv slRg scR hrM
  obtain ⟨b3,f3,o3,e3,p1,p2,p3',p4,p5,p6⟩:=dM hgv slRg scR hsN
  obtain ⟨b4,f4,o4,e4,q1,q2,q3,q4,q5,q6⟩:=dM hnv slRg scR hsM
  have x0:=u6 0 _ (c20 rN)
  have x1:=u6 1 _ (c21 rN)
  have y0:=w6 0 _ (c20 rM)
  have y1:=w6 1 _ (c21 rM)
  have z0:=p6 0 _ (c20 sN)
  have z1:=p6 1 _ (c21 sN)
  have a0:=q6 0 _ (c20 sM)
  have a1:=q6 1 _ (c21 sM)
  rw [Nat.add_zero] at x0 y0 z0 a0
  have d1:decide (rN.1 < sN.1) = false:=decide_eq_false (by omega)
  have d2:decide (sN.2 < rN.2) = false:=decide_eq_false (by omega)
  have d3:decide (rM.1 < sM.1) = false:=decide_eq_false (by omega)
  have d4:decide (sM.2 < rM.2) = false:=decide_eq_false (by omega)
  repeat refine S.seq ?_
  refine S.skip ?_
  simp (disch:=first|omega|simp only [aA,aB]<;>omega|decide) only [rUz,↓reduceIte,reduceEqDiff,reduceAdd]
  repeat refine S.seq ?_
  refine S.block ?_
  repeat refine S.seq ?_
  refine S.drawnL [(false,0),(false,0),(false,3),(false,7),(false,15),(false,0),(false,0),(false,96),(false,224),(false,480),(false,1023),(false,2047),(false,4095),(false,4095),(false,16383),(false,32767),(false,65535),(false,4095),(false,4095),(false,397311),(false,921599),(false,1970175),(false,4194303),(false,8388607),(false,16777215),(false,33554431),(false,33554431),(false,134217727),(false,268435455),(false,536870911),(false,33554431),(false,33554431),(false,3254779903),(false,7549747199),(false,16139681791),(false,34359738367),(false,68719476735),(false,137438953471),(false,274877906943),(false,274877906943),(false,1099511627775),(false,2199023255551),(false,4398046511103),(false,274877906943),(false,274877906943),(false,26663156973567),(false,61847529062399),(false,132216273240063),(false,281474976710655),(false,562949953421311)] (by kernel_rfl) (by kernel_rfl) (by kernel_rfl) ?_
  simp (disch:=first|omega|simp only [aA,aB]<;>omega|decide) only [rUz,↓reduceIte,reduceEqDiff,reduceAdd,rDz,infoL,reduceSub,t11,t12,t14,t15,t25,u1,u3,w1,w3,p1,p3',q1,q3,aC fcR0 s3,aC fcR1 s3,p3,x0,x1,y0,y1,z0,z1,a0,a1,d1,d2,d3,d4]
  repeat refine S.seq ?_
  refine S.cond (v:=false) (by first|rfl|(simp (disch:=first|omega|simp only [aA,aB]<;>omega|decide) only [rUz,↓reduceIte,reduceEqDiff,reduceAdd]<;>rfl)) (fun e=>by cases e) (fun _=>?_)
  repeat refine S.seq ?_
  refine S.skip ?_
  simp (disch:=first|omega|simp only [aA,aB]<;>omega|decide) only [rUz,↓reduceIte,reduceEqDiff,reduceAdd]
  repeat refine S.seq ?_
  refine S.region ?_
  simp (disch:=first|omega|simp only [aA,aB]<;>omega|decide) only [rUz,↓reduceIte,reduceEqDiff,reduceAdd,t25]
  refine hn (i + 1) _ _ (by omega) ⟨rfl,?_,?_,?_,?_,?_,by omega⟩
  all_goals (first|rfl|(simp (disch:=first|omega|simp only [aA,aB]<;>omega|decide) only [rUz,↓reduceIte,reduceEqDiff,reduceAdd,t11,t12,t14,t15]<;>rfl))
 refine S.exit (he _ _ _ _ (fun e=>by cases e) ?_)
 simp (disch:=first|omega|simp only [aA,aB]<;>omega|decide) only [rUz,↓reduceIte,reduceEqDiff,reduceAdd]
 repeat refine S.seq ?_
 refine S.region ?_
 simp (disch:=first|omega|simp only [aA,aB]<;>omega|decide) only [rUz,↓reduceIte,reduceEqDiff,reduceAdd]
 refine awake ?_
 simp (disch:=first|omega|simp only [aA,aB]<;>omega|decide) only [rUz,↓reduceIte,reduceEqDiff,reduceAdd]
 refine S.ret ?_
 try simp only [aJ,aF]
 subst hF
 simp only [finish,aI]
 rw [show Tryz.f7.results.toList = [.tmp 8] from rfl]
 simp (disch:=first|omega|simp only [aA,aB]<;>omega|decide) only [bK,aY,aS,aT,aQ,aU,aO,upd_ne,aP,aW,result1]
 exact hKr _ kp_6
end Go.Proofs.Po
