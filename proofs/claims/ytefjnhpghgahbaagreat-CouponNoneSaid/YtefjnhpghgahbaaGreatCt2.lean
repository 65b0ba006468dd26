import Derived.Test.YtefjnhpghgahbaaGreatCt1
import Derived.Test.YtefjnhpghgahbaaGreatCs2
/- What a company at work says of a dividend: what is paid, and the rights. -/
namespace Go.Proofs.Cp
open Go Go.Ev
set_option linter.unusedSimpArgs false

theorem wk0 (hs:Int) (v:Vs) (r:Nat):(wkV hs v r)[0]? = some (iv hs):=rfl
theorem wk3 (hs:Int) (v:Vs) (r:Nat):(wkV hs v r)[3]? = some v.c:=rfl
theorem p71 (d:T3):partL Tryz.prog 89 (c3 d) 0 = some (.agg ⟨c3 d⟩):=part_0 pcD (c3_len d)
theorem veq_c3 (d:T3):veq (.agg ⟨c3 d⟩) (.agg ⟨c3 d⟩) = true:=by simp only [c3,veq,veqA,veqL,beqKind,beqI_eq,decide_true,Bool.and_self]
theorem veq_c2 (d:R2):veq (.agg ⟨c2 d⟩) (.agg ⟨c2 d⟩) = true:=by simp only [c2,veq,veqA,veqL,beqKind,beqI_eq,decide_true,Bool.and_self]
def payP (c:Co) (ds:List R2) (d:T3):List Int:=muls d.2.2 ((holdP c ds d.2.1 (byQ d.2.1)).take c.held.length)
def rgtP (c:Co) (ds:List R2) (d:T3):List Int:=muls d.2.2 ((holdP c ds d.2.1 (belQ d.1)).take c.held.length)

variable {pr:Prim} {R:ExT}
set_option maxHeartbeats 16000000 in
theorem paid_y (S:Ev.Steps Tryz.prog pr R) (hoff:Off pr) (h0:AHeap) (Bw r:Nat) (v:Vs) (c:Co) (hw:WAt h0 Bw r v c) (hv:Val c) (Bc:Nat) (ds:List R2) (hcr:Crs h0 Bc ds) (hdl:ds.length = c.tr.length) (d:T3) (hp0:0 ≤ d.2.2) (hp1:d.2.2 ≤ 50) :
  BringsX Tryz.prog R 40 [ptr0 Bw,crV Bc ds.length,.agg ⟨c3 d⟩] h0 fun u h=>IAt h u (payP c ds d) ∧ Fr h0 r h ∧ WAt h Bw r v c:=by
 refine bringsX_of (fn:=Tryz.f40) (c:=(Tryz.f40.body).getD .skip) (by kernel_rfl) rfl (by kernel_rfl) rfl (fun K hK=>?_)
 generalize hF:finish Tryz.prog Tryz.f40 K = KF
 simp only [Tryz.f40,Option.getD_some,argsT,setArgs,fV1_eq,T.setK_eq,id]
 have hwr:=hw.lr
 have hhs:=hv.held
 have hh4:=hv.h4
 repeat refine S.seq ?_
 refine S.region ?_
 simp (disch:=first|omega|decide) only [rUz]
 obtain ⟨B5,hB5⟩:∃ x,x = h0.nx:=⟨_,rfl⟩
 have hb5:(h0.add (c3 d)).bl.get B5 = some (.cells (c3 d) B5 false):=by subst hB5; exact ag_eq rfl
 have hk1:Kp h0 (h0.add (c3 d)):=Kp.refl.add
 have hn5:B5 < (h0.add (c3 d)).nx:=by show B5 < h0.nx + 1; omega
 rw [← hB5]
 generalize h0.add (c3 d) = H at hb5 hk1 hn5 ⊢
 have hwH:=hw.kp hk1
 have hbw:=hwH.bw
 rw [← hhs] at hbw
 repeat refine S.seq ?_
 refine S.drawnL [(false,0),(false,0),(false,0),(false,4),(true,15),(false,0),(false,32),(false,0),(false,128),(false,384),(false,896),(false,1920),(true,4095),(false,8191)] (by kernel_rfl) (by kernel_rfl) (by kernel_rfl) ?_
 simp (disch:=first|omega|decide) only [rUz,rDz,infoL,Nat.reduceSub,hb5,fieldAddr_ptr fcD1 s3,p3,c31]
 refine draw_pick' rfl ?_
 simp (disch:=first|omega|decide) only [rUz,rDz,infoL,Nat.reduceSub,hb5,fieldAddr_ptr fcD2 s3,p3,c32,hbw,fieldAddr_ptr fW0 SB,fieldAddr_ptr fB0 s3,wk0]
 refine draw_pick' rfl ?_
 simp (disch:=first|omega|decide) only [rUz,rDz,infoL,Nat.reduceSub,hb5,fieldAddr_ptr fcD2 s3,p3,c32,hbw,fieldAddr_ptr fW0 SB,fieldAddr_ptr fB0 s3,wk0]
 refine draw_pick' rfl ?_
 simp (disch:=first|omega|decide) only [rUz,rDz,infoL,Nat.reduceSub,hb5,fieldAddr_ptr fcD2 s3,p3,c32,hbw,fieldAddr_ptr fW0 SB,fieldAddr_ptr fB0 s3,wk0]
 refine draw_pick' rfl ?_
 simp (disch:=first|omega|decide) only [rUz,rDz,infoL,Nat.reduceSub,hb5,fieldAddr_ptr fcD2 s3,p3,c32,hbw,fieldAddr_ptr fW0 SB,fieldAddr_ptr fB0 s3,wk0]
 refine draw_pick' rfl ?_
 simp (disch:=first|omega|decide) only [rUz,rDz,infoL,Nat.reduceSub,hb5,fieldAddr_ptr fcD2 s3,p3,c32,hbw,fieldAddr_ptr fW0 SB,fieldAddr_ptr fB0 s3,wk0]
 refine draw_pick' rfl ?_
 simp (disch:=first|omega|decide) only [rUz,rDz,infoL,Nat.reduceSub,hb5,fieldAddr_ptr fcD2 s3,p3,c32,hbw,fieldAddr_ptr fW0 SB,fieldAddr_ptr fB0 s3,wk0]
 refine draw_pick' rfl ?_
 simp (disch:=first|omega|decide) only [rUz,rDz,infoL,Nat.reduceSub,hb5,fieldAddr_ptr fcD2 s3,p3,c32,hbw,fieldAddr_ptr fW0 SB,fieldAddr_ptr fB0 s3,wk0]
 refine drW_bringsX (fid:=39) (first:=#[]) (captured:=#[]) (Post:=fun u g=>u = .agg ⟨(holdP c ds d.2.1 (byQ d.2.1)).map iv⟩ ∧ Fr H r g ∧ WAt g Bw r v c) rfl (hoff _ _ _ rfl) (by simp (disch:=first|omega|decide) only [rUz]; exact registered_y S hoff H Bw r v c hwH hv Bc ds (hcr.kp hk1) hdl d.2.1) (Nat.le_of_ble_eq_true rfl) ?_
 rintro u g ⟨rfl,hfg,hwg⟩
 have hb5g:=(hfg.bl B5 hn5 (by omega)).trans hb5
 have hbwg:=hwg.bw
 rw [← hhs] at hbwg
 refine ⟨?_,?_⟩
 ·try simp (disch:=first|decide|rfl) only [again_nil,again_skip,again_free]
  rw [again_same (v:=iv (c.held.length:Int)) (by simp (disch:=first|omega|decide) only [rUz,rDz,infoL,Nat.reduceSub,hbwg,fieldAddr_ptr fW0 SB,fieldAddr_ptr fB0 s3,p3,wk0]) veq_int]
  try simp (disch:=first|decide|rfl) only [again_nil,again_skip,again_free]
  rw [again_same (v:=iv d.2.2) (by simp (disch:=first|omega|decide) only [rUz,rDz,infoL,Nat.reduceSub,hb5g,fieldAddr_ptr fcD2 s3,p3,c32]) veq_int]
  try simp (disch:=first|decide|rfl) only [again_nil,again_skip,again_free]
 simp (disch:=first|omega|decide) only [rUz,rDz,infoL,Nat.reduceSub]
 refine drW_brings (fid:=60) (first:=#[]) (captured:=#[]) (Post:=fun u h=>IAt h u (payP c ds d)) rfl (hoff _ _ _ rfl) (by simp (disch:=first|omega|decide) only [rUz]; exact money_y S g _ (holdP_len c ds d.2.1 (byQ d.2.1)) (holdP_bnd hv ds d.2.1 (byQ d.2.1)) d.2.2 hp0 hp1 c.held.length (by omega)) (Nat.le_of_ble_eq_true rfl) ?_
 rintro u g2 hkg hI
 refine ⟨?_,?_⟩
 ·try simp (disch:=first|decide|rfl) only [again_nil,again_skip,again_free]
 simp (disch:=first|omega|decide) only [rUz,rDz,infoL,Nat.reduceSub]
 refine S.ret ?_
 try simp only [seqK_ret,blockK_ret]
 subst hF
 simp only [finish,endMarks]
 rw [show Tryz.f40.results.toList = [.tmp 6] from rfl]
 simp (disch:=first|omega|decide) only [resA,ev_tmp,tget_ne,tget_eq,get_ne,get_eq,upd_eq,upd_ne,ag_eq,ag_ne,result1]
 exact hK _ _ ⟨hI,(hk1.fr.trans hfg).kp hkg,hwg.kp hkg⟩

set_option maxHeartbeats 16000000 in
theorem rights_y (S:Ev.Steps Tryz.prog pr R) (hoff:Off pr) (h0:AHeap) (Bw r:Nat) (v:Vs) (c:Co) (hw:WAt h0 Bw r v c) (hv:Val c) (Bc:Nat) (ds:List R2) (hcr:Crs h0 Bc ds) (hdl:ds.length = c.tr.length) (d:T3) (hp0:0 ≤ d.2.2) (hp1:d.2.2 ≤ 50) :
  BringsX Tryz.prog R 34 [ptr0 Bw,crV Bc ds.length,.agg ⟨c3 d⟩] h0 fun u h=>IAt h u (rgtP c ds d) ∧ Fr h0 r h ∧ WAt h Bw r v c:=by
 refine bringsX_of (fn:=Tryz.f34) (c:=(Tryz.f34.body).getD .skip) (by kernel_rfl) rfl (by kernel_rfl) rfl (fun K hK=>?_)
 generalize hF:finish Tryz.prog Tryz.f34 K = KF
 simp only [Tryz.f34,Option.getD_some,argsT,setArgs,fV1_eq,T.setK_eq,id]
 have hwr:=hw.lr
 have hhs:=hv.held
 have hh4:=hv.h4
 repeat refine S.seq ?_
 refine S.region ?_
 simp (disch:=first|omega|decide) only [rUz]
 obtain ⟨B5,hB5⟩:∃ x,x = h0.nx:=⟨_,rfl⟩
 have hb5:(h0.add (c3 d)).bl.get B5 = some (.cells (c3 d) B5 false):=by subst hB5; exact ag_eq rfl
 have hk1:Kp h0 (h0.add (c3 d)):=Kp.refl.add
 have hn5:B5 < (h0.add (c3 d)).nx:=by show B5 < h0.nx + 1; omega
 rw [← hB5]
 generalize h0.add (c3 d) = H at hb5 hk1 hn5 ⊢
 have hwH:=hw.kp hk1
 have hbw:=hwH.bw
 rw [← hhs] at hbw
 repeat refine S.seq ?_
 refine S.drawnL [(false,0),(false,0),(false,0),(false,4),(false,0),(false,16),(true,63),(false,0),(false,128),(false,0),(false,512),(false,1536),(false,3584),(false,7680),(true,16383),(false,32767)] (by kernel_rfl) (by kernel_rfl) (by kernel_rfl) ?_
 simp (disch:=first|omega|decide) only [rUz,rDz,infoL,Nat.reduceSub,hb5,fieldAddr_ptr fcD1 s3,p3,c31,p71 d]
 refine draw_pick' rfl ?_
 simp (disch:=first|omega|decide) only [rUz,rDz,infoL,Nat.reduceSub,hb5,fieldAddr_ptr fcD2 s3,p3,c32,hbw,fieldAddr_ptr fW0 SB,fieldAddr_ptr fB0 s3,wk0]
 refine draw_pick' rfl ?_
 simp (disch:=first|omega|decide) only [rUz,rDz,infoL,Nat.reduceSub,hb5,fieldAddr_ptr fcD2 s3,p3,c32,hbw,fieldAddr_ptr fW0 SB,fieldAddr_ptr fB0 s3,wk0]
 refine draw_pick' rfl ?_
 simp (disch:=first|omega|decide) only [rUz,rDz,infoL,Nat.reduceSub,hb5,fieldAddr_ptr fcD2 s3,p3,c32,hbw,fieldAddr_ptr fW0 SB,fieldAddr_ptr fB0 s3,wk0]
 refine draw_pick' rfl ?_
 simp (disch:=first|omega|decide) only [rUz,rDz,infoL,Nat.reduceSub,hb5,fieldAddr_ptr fcD2 s3,p3,c32,hbw,fieldAddr_ptr fW0 SB,fieldAddr_ptr fB0 s3,wk0]
 refine draw_pick' rfl ?_
 simp (disch:=first|omega|decide) only [rUz,rDz,infoL,Nat.reduceSub,hb5,fieldAddr_ptr fcD2 s3,p3,c32,hbw,fieldAddr_ptr fW0 SB,fieldAddr_ptr fB0 s3,wk0]
 refine draw_pick' rfl ?_
 simp (disch:=first|omega|decide) only [rUz,rDz,infoL,Nat.reduceSub,hb5,fieldAddr_ptr fcD2 s3,p3,c32,hbw,fieldAddr_ptr fW0 SB,fieldAddr_ptr fB0 s3,wk0]
 refine draw_pick' rfl ?_
 simp (disch:=first|omega|decide) only [rUz,rDz,infoL,Nat.reduceSub,hb5,fieldAddr_ptr fcD2 s3,p3,c32,hbw,fieldAddr_ptr fW0 SB,fieldAddr_ptr fB0 s3,wk0]
 refine drW_bringsX (fid:=58) (first:=#[]) (captured:=#[]) (Post:=fun u g=>u = .agg ⟨(holdP c ds d.2.1 (belQ d.1)).map iv⟩ ∧ Fr H r g ∧ WAt g Bw r v c) rfl (hoff _ _ _ rfl) (by simp (disch:=first|omega|decide) only [rUz]; exact holding_y S hoff H Bw r v c hwH hv Bc ds (hcr.kp hk1) hdl d.2.1 59 rfl #[.agg ⟨c3 d⟩] #[] (belQ d.1) (fun h' _ x=>belongs_y S h' d x)) (Nat.le_of_ble_eq_true rfl) ?_
 rintro u g ⟨rfl,hfg,hwg⟩
 have hb5g:=(hfg.bl B5 hn5 (by omega)).trans hb5
 have hbwg:=hwg.bw
 rw [← hhs] at hbwg
 refine ⟨?_,?_⟩
 ·try simp (disch:=first|decide|rfl) only [again_nil,again_skip,again_free]
  rw [again_same (v:=iv (c.held.length:Int)) (by simp (disch:=first|omega|decide) only [rUz,rDz,infoL,Nat.reduceSub,hbwg,fieldAddr_ptr fW0 SB,fieldAddr_ptr fB0 s3,p3,wk0]) veq_int]
  try simp (disch:=first|decide|rfl) only [again_nil,again_skip,again_free]
  rw [again_same (v:=iv d.2.2) (by simp (disch:=first|omega|decide) only [rUz,rDz,infoL,Nat.reduceSub,hb5g,fieldAddr_ptr fcD2 s3,p3,c32]) veq_int]
  try simp (disch:=first|decide|rfl) only [again_nil,again_skip,again_free]
 simp (disch:=first|omega|decide) only [rUz,rDz,infoL,Nat.reduceSub]
 refine drW_brings (fid:=60) (first:=#[]) (captured:=#[]) (Post:=fun u h=>IAt h u (rgtP c ds d)) rfl (hoff _ _ _ rfl) (by simp (disch:=first|omega|decide) only [rUz]; exact money_y S g _ (holdP_len c ds d.2.1 (belQ d.1)) (holdP_bnd hv ds d.2.1 (belQ d.1)) d.2.2 hp0 hp1 c.held.length (by omega)) (Nat.le_of_ble_eq_true rfl) ?_
 rintro u g2 hkg hI
 refine ⟨?_,?_⟩
 ·try simp (disch:=first|decide|rfl) only [again_nil,again_skip,again_free]
 simp (disch:=first|omega|decide) only [rUz,rDz,infoL,Nat.reduceSub]
 refine S.ret ?_
 try simp only [seqK_ret,blockK_ret]
 subst hF
 simp only [finish,endMarks]
 rw [show Tryz.f34.results.toList = [.tmp 6] from rfl]
 simp (disch:=first|omega|decide) only [resA,ev_tmp,tget_ne,tget_eq,get_ne,get_eq,upd_eq,upd_ne,ag_eq,ag_ne,result1]
 exact hK _ _ ⟨hI,(hk1.fr.trans hfg).kp hkg,hwg.kp hkg⟩
end Go.Proofs.Cp
