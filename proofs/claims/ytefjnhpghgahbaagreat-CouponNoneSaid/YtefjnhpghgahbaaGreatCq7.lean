import Derived.Test.YtefjnhpghgahbaaGreatCq6
/- Whether no house has fewer than nothing. -/
namespace Go.Proofs.Cp
open Go Go.Ev
set_option linter.unusedSimpArgs false

def byQ (day:Int) (d:R2):Bool:=!decide (d.2 = -1) && decide (d.2 ≤ day)
def okD (c:Co) (ds:List R2) (d:R2):Bool:=decide (d.2 = -1) || posL (holdP c ds d.2 (byQ d.2))
def truC (c:Co) (ds:List R2):Bool:=ds.all (okD c ds)
theorem p84 (c:List Value) (o:Nat):partL Tryz.prog 83 c o = c[o]?:=by kernel_rfl
theorem p86 (c:List Value) (o:Nat):partL Tryz.prog 92 c o = c[o]?:=by kernel_rfl
theorem pFd (c:List Value) (o:Nat):partL Tryz.prog 118 c o = c[o]?:=by kernel_rfl
theorem Crs.ne {h:AHeap} {Bw r B:Nat} {v:Vs} {c:Co} {ds:List R2} (k:Crs h B ds) (hw:WAt h Bw r v c):B ≠ r:=fun e=>by
 obtain ⟨L,m,_⟩:=hw.mp
 have:=k.bl
 rw [e,m] at this; cases this
theorem cell_ne {h:AHeap} {Bw r B f:Nat} {v:Vs} {c:Co} {cs:List Value} {ro:Bool} (hb:h.bl.get B = some (.cells cs f ro)) (hw:WAt h Bw r v c):B ≠ r:=fun e=>by
 obtain ⟨L,m,_⟩:=hw.mp
 rw [e,m] at hb; cases hb

section
variable {P:Program} {call:CallT} {ops:Array Oper} {n:Nat} {rest:List Oper} {dst:Option Tmp} {t:T Value} {h:AHeap} {KR:T Value → AHeap → Bool} {q:Option Addr} {m z:Nat}
theorem boxP:boxR (.pointer q) P call ops n rest dst t h KR = putR P call ops n rest dst t (.pointer (some ⟨h.nx,0,none⟩)) (h.add [.pointer q]) KR:=(rfl)
theorem boxS:boxR (.slice q m z) P call ops n rest dst t h KR = putR P call ops n rest dst t (.pointer (some ⟨h.nx,0,none⟩)) (h.add [.slice q m z]) KR:=(rfl)
end
variable {pr:Prim} {R:ExT}
set_option maxHeartbeats 16000000 in
theorem registered_y (S:Ev.Steps Tryz.prog pr R) (hoff:Off pr) (h0:AHeap) (Bw r:Nat) (v:Vs) (c:Co) (hw:WAt h0 Bw r v c) (hv:Val c) (Bc:Nat) (ds:List R2) (hcr:Crs h0 Bc ds) (hdl:ds.length = c.tr.length) (day:Int) :
  BringsX Tryz.prog R 39 [ptr0 Bw,crV Bc ds.length,iv day] h0 fun u h=>u = .agg ⟨(holdP c ds day (byQ day)).map iv⟩ ∧ Fr h0 r h ∧ WAt h Bw r v c:=by
 refine bringsX_of (fn:=Tryz.f39) (c:=(Tryz.f39.body).getD .skip) (by kernel_rfl) rfl (by kernel_rfl) rfl (fun K hK=>?_)
 generalize hF:finish Tryz.prog Tryz.f39 K = KF
 simp only [Tryz.f39,Option.getD_some,argsT,setArgs,fV1_eq,T.setK_eq,id]
 have hwr:=hw.lr
 repeat refine S.seq ?_
 refine S.region ?_
 simp (disch:=first|omega|decide) only [rUz,wr_alloc zH]
 obtain ⟨B5,hB5⟩:∃ x,x = h0.nx:=⟨_,rfl⟩
 obtain ⟨B6,hB6⟩:∃ x,x = h0.nx + 1:=⟨_,rfl⟩
 have h05:h0.nx ≤ B5:=by omega
 have h56:B5 < B6:=by omega
 have hb5:((h0.add [iv day]).add [iv 0,iv 0,iv 0,iv 0]).bl.get B5 = some (.cells [iv day] B5 false):=by simp (disch:=first|omega|(simp only [nZ] <;> omega)|decide) only [ag_ne]; subst hB5; exact ag_eq rfl
 have hb6:((h0.add [iv day]).add [iv 0,iv 0,iv 0,iv 0]).bl.get B6 = some (.cells [iv 0,iv 0,iv 0,iv 0] B6 false):=by subst hB6; exact ag_eq rfl
 have hf6:((h0.add [iv day]).add [iv 0,iv 0,iv 0,iv 0]).fams.get B6 = some [B6]:=by subst hB6; exact af_eq rfl
 have hk1:Kp h0 ((h0.add [iv day]).add [iv 0,iv 0,iv 0,iv 0]):=Kp.refl.add.add
 have hn6:B6 < ((h0.add [iv day]).add [iv 0,iv 0,iv 0,iv 0]).nx:=by show B6 < h0.nx + 2; omega
 rw [← hB6,← hB5]
 generalize (h0.add [iv day]).add [iv 0,iv 0,iv 0,iv 0] = H at hb5 hb6 hf6 hk1 hn6 ⊢
 clear hB5 hB6
 have hwH:=hw.kp hk1
 repeat refine S.seq ?_
 refine S.region ?_
 simp (disch:=first|omega|decide) only [rUz,hb5,p3]
 refine wr_bringsX (fid:=58) (first:=#[]) (captured:=#[]) (Post:=fun u h=>u = .agg ⟨(holdP c ds day (byQ day)).map iv⟩ ∧ Fr H r h ∧ WAt h Bw r v c) rfl (hoff _ _ _ rfl) (by simp (disch:=first|omega|decide) only [rUz]; exact holding_y S hoff H Bw r v c hwH hv Bc ds (hcr.kp hk1) hdl day 64 rfl #[] #[ptr0 B5] (byQ day) (fun h' f d=>regc_y S hoff h' B5 B5 false day d ((f.bl B5 (by omega) (by omega)).trans hb5) (Nat.lt_of_lt_of_le (by omega) f.le))) ?_
 rintro u g ⟨rfl,hfg,hwg⟩
 have hb6g:=(hfg.bl B6 hn6 (by omega)).trans hb6
 have hf6g:=(hfg.fam B6 hn6).trans hf6
 simp (disch:=first|omega|decide) only [rUz]
 refine wr_storeN (B:=B6) (c:=[iv 0,iv 0,iv 0,iv 0]) (fam:=B6) (k:=B6) (l:=(holdP c ds day (byQ day)).map iv) (by simp (disch:=first|omega|decide) only [rUz]) (by simp (disch:=first|omega|decide) only [rUz]) sH (by omega) (by rw [List.length_map]; exact holdP_len _ _ _ _) hb6g hf6g rfl ?_
 simp (disch:=first|omega|decide) only [rUz]
 refine S.ret ?_
 try simp only [seqK_ret,blockK_ret]
 subst hF
 simp only [finish,endMarks]
 rw [show Tryz.f39.results.toList = [.cell 6 97] from rfl]
 simp (disch:=first|omega|decide) only [resA,ev_tmp,tget_ne,tget_eq,get_ne,get_eq,upd_eq,upd_ne,ag_eq,ag_ne,result1,pH4 (holdP_len c ds day (byQ day))]
 have hfe:Fr h0 r (g.upd B6 ((holdP c ds day (byQ day)).map iv) B6):=frUpdO (hk1.fr.trans hfg) (by omega)
 obtain ⟨L,m1,m2⟩:=hwg.mp
 exact hK _ _ ⟨rfl,hfe,hw.of hfe ⟨L,by rw [upd_ne _ _ _ (by omega)]; exact m1,m2⟩⟩

set_option maxHeartbeats 16000000 in
theorem isTrue1_y (S:Ev.Steps Tryz.prog pr R) (hoff:Off pr) (h0:AHeap) (Bw r:Nat) (v:Vs) (c:Co) (hw:WAt h0 Bw r v c) (hv:Val c) (Bc:Nat) (ds:List R2) (hcr:Crs h0 Bc ds) (hdl:ds.length = c.tr.length) (B2 B3:Nat) (hb2:h0.bl.get B2 = some (.cells [ptr0 Bw] B2 false)) (hb3:h0.bl.get B3 = some (.cells [crV Bc ds.length] B3 false)) (hn2:B2 < h0.nx) (hn3:B3 < h0.nx) (d:R2) :
  BringsX Tryz.prog R 88 [.agg ⟨c2 d⟩,ptr0 B2,ptr0 B3] h0 fun u h=>u = .bool (okD c ds d) ∧ Fr h0 r h ∧ WAt h Bw r v c:=by
 refine bringsX_of (fn:=Tryz.f88) (c:=(Tryz.f88.body).getD .skip) (by kernel_rfl) rfl (by kernel_rfl) rfl (fun K hK=>?_)
 generalize hF:finish Tryz.prog Tryz.f88 K = KF
 simp only [Tryz.f88,Option.getD_some,argsT,setArgs,fV1_eq,T.setK_eq,id]
 repeat refine S.seq ?_
 refine S.region ?_
 simp (disch:=first|omega|decide) only [rUz]
 have hk1:Kp h0 (h0.add (c2 d)):=Kp.refl.add
 have hbx:(h0.add (c2 d)).bl.get h0.nx = some (.cells (c2 d) h0.nx false):=ag_eq rfl
 have hwH:=hw.kp hk1
 have hb2':=(hk1.get hn2).trans hb2
 have hb3':=(hk1.get hn3).trans hb3
 have hcr':=hcr.kp hk1
 generalize h0.add (c2 d) = H at hk1 hbx hwH hb2' hb3' hcr' ⊢
 generalize h0.nx = B at hbx ⊢
 unfold okD at hK
 cases h1:decide (d.2 = -1) with
 | true =>
  rw [h1,Bool.true_or] at hK
  repeat refine S.seq ?_
  refine S.region ?_
  simp (disch:=first|omega|decide) only [rUz,hbx,fieldAddr_ptr fDt1 s3,p3,c21,h1]
  refine S.ret ?_
  try simp only [seqK_ret,blockK_ret]
  subst hF
  simp only [finish,endMarks]
  rw [show Tryz.f88.results.toList = [.tmp 4] from rfl]
  simp (disch:=first|omega|decide) only [resA,ev_tmp,tget_ne,tget_eq,get_ne,get_eq,upd_eq,upd_ne,ag_eq,ag_ne,result1]
  exact hK _ _ ⟨rfl,hk1.fr,hwH⟩
 | false =>
  rw [h1,Bool.false_or] at hK
  repeat refine S.seq ?_
  refine S.region ?_
  simp (disch:=first|omega|decide) only [rUz,hbx,hb2',hb3',fieldAddr_ptr fDt1 s3,p3,p84,p86,c21,h1]
  refine wr_bringsX (fid:=39) (first:=#[]) (captured:=#[]) (Post:=fun u h=>u = .agg ⟨(holdP c ds d.2 (byQ d.2)).map iv⟩ ∧ Fr H r h ∧ WAt h Bw r v c) rfl (hoff _ _ _ rfl) (by simp (disch:=first|omega|decide) only [rUz]; exact registered_y S hoff H Bw r v c hwH hv Bc ds hcr' hdl d.2) ?_
  rintro u g ⟨rfl,hfg,hwg⟩
  simp (disch:=first|omega|decide) only [rUz]
  refine wr_brings (fid:=89) (first:=#[]) (captured:=#[]) (Post:=fun u _=>u = .bool (posL (holdP c ds d.2 (byQ d.2)))) rfl (hoff _ _ _ rfl) (by simp (disch:=first|omega|decide) only [rUz]; exact isThere_y S hoff _ _ (holdP_len c ds d.2 (byQ d.2))) ?_
  rintro u g2 hkg rfl
  simp (disch:=first|omega|decide) only [rUz]
  refine S.ret ?_
  try simp only [seqK_ret,blockK_ret]
  subst hF
  simp only [finish,endMarks]
  rw [show Tryz.f88.results.toList = [.tmp 4] from rfl]
  simp (disch:=first|omega|decide) only [resA,ev_tmp,tget_ne,tget_eq,get_ne,get_eq,upd_eq,upd_ne,ag_eq,ag_ne,result1]
  exact hK _ _ ⟨rfl,(hk1.fr.trans hfg).trans hkg.fr,hwg.kp hkg⟩

set_option maxHeartbeats 16000000 in
theorem closD_y (S:Ev.Steps Tryz.prog pr R) (hoff:Off pr) (h0:AHeap) (Bw r:Nat) (v:Vs) (c:Co) (hw:WAt h0 Bw r v c) (hv:Val c) (Bc:Nat) (ds:List R2) (hcr:Crs h0 Bc ds) (hdl:ds.length = c.tr.length) (B2 B3:Nat) (hb2:h0.bl.get B2 = some (.cells [ptr0 Bw] B2 false)) (hb3:h0.bl.get B3 = some (.cells [crV Bc ds.length] B3 false)) (hn2:B2 < h0.nx) (hn3:B3 < h0.nx) (Bf:Nat) (hbf:h0.bl.get Bf = some (.cells [.func (.func 88) #[] #[ptr0 B2,ptr0 B3]] Bf false)) (hnf:Bf < h0.nx) (d:R2) :
  BringsX Tryz.prog R 113 [.agg ⟨c2 d⟩,ptr0 Bf] h0 fun u h=>u = .bool (!okD c ds d) ∧ Fr h0 r h ∧ WAt h Bw r v c:=by
 refine bringsX_of (fn:=Tryz.f113) (c:=(Tryz.f113.body).getD .skip) (by kernel_rfl) rfl (by kernel_rfl) rfl (fun K hK=>?_)
 generalize hF:finish Tryz.prog Tryz.f113 K = KF
 simp only [Tryz.f113,Option.getD_some,argsT,setArgs,fV1_eq,T.setK_eq,id]
 repeat refine S.seq ?_
 refine S.region ?_
 simp (disch:=first|omega|decide) only [rUz]
 have hk1:Kp h0 (h0.add (c2 d)):=Kp.refl.add
 have hbf':=(hk1.get hnf).trans hbf
 have y:=isTrue1_y S hoff (h0.add (c2 d)) Bw r v c (hw.kp hk1) hv Bc ds (hcr.kp hk1) hdl B2 B3 ((hk1.get hn2).trans hb2) ((hk1.get hn3).trans hb3) (Nat.lt_of_lt_of_le hn2 hk1.1) (Nat.lt_of_lt_of_le hn3 hk1.1) d
 repeat refine S.seq ?_
 refine S.region ?_
 simp (disch:=first|omega|decide) only [rUz,hbf',pFd,part_0 pDt (c2_len d)]
 refine wr_bringsX (fid:=88) (first:=#[]) (captured:=#[ptr0 B2,ptr0 B3]) (Post:=fun u h=>u = .bool (okD c ds d) ∧ Fr (h0.add (c2 d)) r h ∧ WAt h Bw r v c) (by simp (disch:=first|omega|decide) only [rUz]) (hoff _ _ _ rfl) (by simp (disch:=first|omega|decide) only [rUz]; exact y) ?_
 rintro u g ⟨rfl,hfg,hwg⟩
 simp (disch:=first|omega|decide) only [rUz,un_not]
 refine S.ret ?_
 try simp only [seqK_ret,blockK_ret]
 subst hF
 simp only [finish,endMarks]
 rw [show Tryz.f113.results.toList = [.tmp 3] from rfl]
 simp (disch:=first|omega|decide) only [resA,ev_tmp,tget_ne,tget_eq,get_ne,get_eq,upd_eq,upd_ne,ag_eq,ag_ne,result1]
 exact hK _ _ ⟨rfl,hk1.fr.trans hfg,hwg⟩

structure IXd (c:Co) (ds:List R2) (h0:AHeap) (Bw r:Nat) (v:Vs) (Bc Bf:Nat) (k:Nat) (t:T Value) (h:AHeap):Prop where
 fr:Fr h0 r h
 w:WAt h Bw r v c
 hk:k ≤ ds.length
 fb:firstBad (okD c ds) ds 0 = firstBad (okD c ds) (ds.drop k) k
 t0:tget t 0 = crV Bc ds.length
 t1:tget t 1 = .func (.func 113) #[] #[ptr0 Bf]
 t7:tget t 7 = iv (ds.length:Int)
 t8:tget t 8 = iv (k:Int)
set_option maxHeartbeats 16000000 in
theorem idxD_y (S:Ev.Steps Tryz.prog pr R) (hoff:Off pr) (h0:AHeap) (Bw r:Nat) (v:Vs) (c:Co) (hw:WAt h0 Bw r v c) (hv:Val c) (Bc:Nat) (ds:List R2) (hcr:Crs h0 Bc ds) (hdl:ds.length = c.tr.length) (B2 B3:Nat) (hb2:h0.bl.get B2 = some (.cells [ptr0 Bw] B2 false)) (hb3:h0.bl.get B3 = some (.cells [crV Bc ds.length] B3 false)) (hn2:B2 < h0.nx) (hn3:B3 < h0.nx) (Bf:Nat) (hbf:h0.bl.get Bf = some (.cells [.func (.func 88) #[] #[ptr0 B2,ptr0 B3]] Bf false)) (hnf:Bf < h0.nx) :
  BringsX Tryz.prog R 127 [crV Bc ds.length,.func (.func 113) #[] #[ptr0 Bf]] h0 fun u h=>u = iv (firstBad (okD c ds) ds 0) ∧ Fr h0 r h ∧ WAt h Bw r v c:=by
 refine bringsX_of (fn:=Tryz.f127) (c:=(Tryz.f127.body).getD .skip) (by kernel_rfl) rfl (by kernel_rfl) rfl (fun K hK=>?_)
 generalize hF:finish Tryz.prog Tryz.f127 K = KF
 simp only [Tryz.f127,Option.getD_some,argsT,setArgs,fV1_eq,T.setK_eq,id]
 have htl:=hv.tl
 have n2r:=cell_ne hb2 hw
 have n3r:=cell_ne hb3 hw
 have nfr:=cell_ne hbf hw
 have ncr:=hcr.ne hw
 have lcr:∀ (t:T Value) (h1:AHeap) (o:Oper),rLen Tryz.prog t h1 o 91 (crV Bc ds.length) = some (iv (ds.length:Int)):=fun t h1 o=>len_sl isCd
 repeat refine S.seq ?_
 refine S.region ?_
 simp (disch:=first|omega|decide) only [rUz]
 repeat refine S.seq ?_
 refine S.region ?_
 simp (disch:=first|omega|decide) only [rUz,lcr]
 repeat refine S.seq ?_
 refine S.block ?_
 refine S.loop (ι:=Nat) (IXd c ds h0 Bw r v Bc Bf) (fun k=>ds.length - k) ?_ 0 _ _ ?_
 rotate_left
 ·refine ⟨Fr.refl,hw,Nat.zero_le _,rfl,?_,?_,?_,?_⟩
  all_goals (first|rfl|(simp (disch:=first|omega|decide) only [rUz]; done)|(simp (disch:=first|omega|decide) only [rUz]; rfl))
 intro k t h ⟨hfr,hwh,hk,hfb,t0,t1,t7,t8⟩ K' hn he
 repeat refine S.seq ?_
 refine S.region ?_
 simp (disch:=first|omega|decide) only [rUz,t7,t8]
 repeat refine S.seq ?_
 refine S.cond (v:=decide ((k:Int) < (ds.length:Int))) (by first|rfl|(simp (disch:=first|omega|decide) only [rUz,↓reduceIte,Nat.reduceEqDiff,Nat.reduceAdd] <;> rfl)) (fun e=>?_) (fun e=>?_)
 ·have hkn:k < ds.length:=by have:=of_decide_eq_true e; omega
  clear e
  rw [List.drop_eq_getElem_cons hkn] at hfb
  simp only [firstBad] at hfb
  obtain ⟨i1,i2,_,_⟩:=Crs.idx (B:=Bc) (ds:=ds) (a:=91) slCd (i:=k) (d:=ds[k]) (List.getElem?_eq_getElem hkn)
  generalize ds[k] = d at hfb i2
  have hcb:=(hcr.frm hfr ncr).bl
  have y:=closD_y S hoff h Bw r v c hwh hv Bc ds (hcr.frm hfr ncr) hdl B2 B3 ((hfr.bl B2 hn2 n2r).trans hb2) ((hfr.bl B3 hn3 n3r).trans hb3) (Nat.lt_of_lt_of_le hn2 hfr.le) (Nat.lt_of_lt_of_le hn3 hfr.le) Bf ((hfr.bl Bf hnf nfr).trans hbf) (Nat.lt_of_lt_of_le hnf hfr.le) d
  repeat refine S.seq ?_
  refine S.skip ?_
  simp (disch:=first|omega|decide) only [rUz]
  repeat refine S.seq ?_
  refine S.block ?_
  repeat refine S.seq ?_
  refine S.region ?_
  simp (disch:=first|omega|decide) only [rUz,t8]
  repeat refine S.seq ?_
  refine S.region ?_
  simp (disch:=first|omega|decide) only [rUz,t0,t1,t8,i1,hcb,i2]
  refine wr_bringsX (fid:=113) (first:=#[]) (captured:=#[ptr0 Bf]) (Post:=fun u h'=>u = .bool (!okD c ds d) ∧ Fr h r h' ∧ WAt h' Bw r v c) (by simp (disch:=first|omega|decide) only [rUz,t1]) (hoff _ _ _ rfl) (by simp (disch:=first|omega|decide) only [rUz]; exact y) ?_
  rintro u g ⟨rfl,hfg,hwg⟩
  simp (disch:=first|omega|decide) only [rUz]
  cases hqp:okD c ds d with
  | true =>
   rw [hqp,cond_true] at hfb
   repeat refine S.seq ?_
   refine S.cond (v:=false) (by first|rfl|(simp (disch:=first|omega|decide) only [rUz,↓reduceIte,Nat.reduceEqDiff,Nat.reduceAdd,hqp,Bool.not_true] <;> rfl)) (fun e=>by cases e) (fun _=>?_)
   repeat refine S.seq ?_
   refine S.skip ?_
   simp (disch:=first|omega|decide) only [rUz]
   repeat refine S.seq ?_
   refine S.region ?_
   simp (disch:=first|omega|decide) only [rUz,t8]
   refine hn (k + 1) _ _ (by omega) ⟨hfr.trans hfg,hwg,by omega,hfb,?_,?_,?_,?_⟩
   all_goals (first|rfl|(simp (disch:=first|omega|decide) only [rUz,t0,t1,t7,t8]; done)|(simp (disch:=first|omega|decide) only [rUz,t0,t1,t7,t8]; rfl))
  | false =>
   rw [hqp,cond_false] at hfb
   repeat refine S.seq ?_
   refine S.cond (v:=true) (by first|rfl|(simp (disch:=first|omega|decide) only [rUz,↓reduceIte,Nat.reduceEqDiff,Nat.reduceAdd,hqp,Bool.not_false] <;> rfl)) (fun _=>?_) (fun e=>by cases e)
   repeat refine S.seq ?_
   refine S.region ?_
   simp (disch:=first|omega|decide) only [rUz,t8]
   refine S.ret ?_
   simp only [seqK_ret,blockK_ret]
   refine he _ _ _ _ (fun e=>by cases e) ?_
   try simp only [seqK_ret,blockK_ret]
   subst hF
   simp only [finish,endMarks]
   rw [show Tryz.f127.results.toList = [.tmp 4] from rfl]
   simp (disch:=first|omega|decide) only [resA,ev_tmp,tget_ne,tget_eq,get_ne,get_eq,upd_eq,upd_ne,ag_eq,ag_ne,result1]
   exact hK _ _ ⟨by rw [hfb],hfr.trans hfg,hwg⟩
 have hkn:k = ds.length:=by have:=of_decide_eq_false e; omega
 subst hkn
 rw [List.drop_of_length_le (Nat.le_refl _)] at hfb
 refine S.exit (he _ _ _ _ (fun e=>by cases e) ?_)
 simp (disch:=first|omega|decide) only [rUz]
 repeat refine S.seq ?_
 refine S.region ?_
 simp (disch:=first|omega|decide) only [rUz]
 refine S.ret ?_
 try simp only [seqK_ret,blockK_ret]
 subst hF
 simp only [finish,endMarks]
 rw [show Tryz.f127.results.toList = [.tmp 4] from rfl]
 simp (disch:=first|omega|decide) only [resA,ev_tmp,tget_ne,tget_eq,get_ne,get_eq,upd_eq,upd_ne,ag_eq,ag_ne,result1]
 exact hK _ _ ⟨by rw [hfb]; rfl,hfr,hwh⟩

set_option maxHeartbeats 16000000 in
theorem allD_y (S:Ev.Steps Tryz.prog pr R) (hoff:Off pr) (h0:AHeap) (Bw r:Nat) (v:Vs) (c:Co) (hw:WAt h0 Bw r v c) (hv:Val c) (Bc:Nat) (ds:List R2) (hcr:Crs h0 Bc ds) (hdl:ds.length = c.tr.length) (B2 B3:Nat) (hb2:h0.bl.get B2 = some (.cells [ptr0 Bw] B2 false)) (hb3:h0.bl.get B3 = some (.cells [crV Bc ds.length] B3 false)) (hn2:B2 < h0.nx) (hn3:B3 < h0.nx) :
  BringsX Tryz.prog R 87 [crV Bc ds.length,.func (.func 88) #[] #[ptr0 B2,ptr0 B3]] h0 fun u h=>u = .bool (truC c ds) ∧ Fr h0 r h ∧ WAt h Bw r v c:=by
 refine bringsX_of (fn:=Tryz.f87) (c:=(Tryz.f87.body).getD .skip) (by kernel_rfl) rfl (by kernel_rfl) rfl (fun K hK=>?_)
 generalize hF:finish Tryz.prog Tryz.f87 K = KF
 simp only [Tryz.f87,Option.getD_some,argsT,setArgs,fV1_eq,T.setK_eq,id]
 repeat refine S.seq ?_
 refine S.region ?_
 simp (disch:=first|omega|decide) only [rUz]
 repeat refine S.seq ?_
 refine S.region ?_
 simp (disch:=first|omega|decide) only [rUz]
 obtain ⟨Bf,hBf⟩:∃ x,x = h0.nx:=⟨_,rfl⟩
 have hk1:Kp h0 (h0.add [.func (.func 88) #[] #[ptr0 B2,ptr0 B3]]):=Kp.refl.add
 have hbf:(h0.add [.func (.func 88) #[] #[ptr0 B2,ptr0 B3]]).bl.get Bf = some (.cells [.func (.func 88) #[] #[ptr0 B2,ptr0 B3]] Bf false):=by subst hBf; exact ag_eq rfl
 have hnf:Bf < (h0.add [.func (.func 88) #[] #[ptr0 B2,ptr0 B3]]).nx:=by show Bf < h0.nx + 1; omega
 rw [← hBf]
 generalize h0.add [.func (.func 88) #[] #[ptr0 B2,ptr0 B3]] = H at hk1 hbf hnf ⊢
 have hidx:=idxD_y S hoff H Bw r v c (hw.kp hk1) hv Bc ds (hcr.kp hk1) hdl B2 B3 ((hk1.get hn2).trans hb2) ((hk1.get hn3).trans hb3) (Nat.lt_of_lt_of_le hn2 hk1.1) (Nat.lt_of_lt_of_le hn3 hk1.1) Bf hbf hnf
 have hcf:BringsX Tryz.prog R 112 [crV Bc ds.length,.func (.func 113) #[] #[ptr0 Bf]] H fun u h=>u = .bool (!truC c ds) ∧ Fr H r h ∧ WAt h Bw r v c:=by
  clear hK hF K KF
  refine bringsX_of (fn:=Tryz.f112) (c:=(Tryz.f112.body).getD .skip) (by kernel_rfl) rfl (by kernel_rfl) rfl (fun K hK=>?_)
  generalize hF:finish Tryz.prog Tryz.f112 K = KF
  simp only [Tryz.f112,Option.getD_some,argsT,setArgs,fV1_eq,T.setK_eq,id]
  repeat refine S.seq ?_
  refine S.region ?_
  simp (disch:=first|omega|decide) only [rUz]
  repeat refine S.seq ?_
  refine S.region ?_
  simp (disch:=first|omega|decide) only [rUz]
  refine wr_bringsX (fid:=127) (first:=#[]) (captured:=#[]) (Post:=fun u h=>u = iv (firstBad (okD c ds) ds 0) ∧ Fr H r h ∧ WAt h Bw r v c) rfl (hoff _ _ _ rfl) (by simp (disch:=first|omega|decide) only [rUz]; exact hidx) ?_
  rintro u g ⟨rfl,hfg,hwg⟩
  simp (disch:=first|omega|decide) only [rUz,firstBad_ge (okD c ds) ds 0 (Int.le_refl _)]
  refine S.ret ?_
  try simp only [seqK_ret,blockK_ret]
  subst hF
  simp only [finish,endMarks]
  rw [show Tryz.f112.results.toList = [.tmp 4] from rfl]
  simp (disch:=first|omega|decide) only [resA,ev_tmp,tget_ne,tget_eq,get_ne,get_eq,upd_eq,upd_ne,ag_eq,ag_ne,result1]
  exact hK _ _ ⟨rfl,hfg,hwg⟩
 refine wr_bringsX (fid:=112) (first:=#[]) (captured:=#[]) (Post:=fun u h=>u = .bool (!truC c ds) ∧ Fr H r h ∧ WAt h Bw r v c) rfl (hoff _ _ _ rfl) (by simp (disch:=first|omega|decide) only [rUz]; exact hcf) ?_
 rintro u g ⟨rfl,hfg,hwg⟩
 simp (disch:=first|omega|decide) only [rUz,un_not,Bool.not_not]
 refine S.ret ?_
 try simp only [seqK_ret,blockK_ret]
 subst hF
 simp only [finish,endMarks]
 rw [show Tryz.f87.results.toList = [.tmp 4] from rfl]
 simp (disch:=first|omega|decide) only [resA,ev_tmp,tget_ne,tget_eq,get_ne,get_eq,upd_eq,upd_ne,ag_eq,ag_ne,result1]
 exact hK _ _ ⟨rfl,hk1.fr.trans hfg,hwg⟩

set_option maxHeartbeats 16000000 in
theorem isTrue_y (S:Ev.Steps Tryz.prog pr R) (hoff:Off pr) (h0:AHeap) (Bw r:Nat) (v:Vs) (c:Co) (hw:WAt h0 Bw r v c) (hv:Val c) (Bc:Nat) (ds:List R2) (hcr:Crs h0 Bc ds) (hdl:ds.length = c.tr.length) :
  BringsX Tryz.prog R 63 [ptr0 Bw,crV Bc ds.length] h0 fun u h=>u = .bool (truC c ds) ∧ Fr h0 r h ∧ WAt h Bw r v c:=by
 refine bringsX_of (fn:=Tryz.f63) (c:=(Tryz.f63.body).getD .skip) (by kernel_rfl) rfl (by kernel_rfl) rfl (fun K hK=>?_)
 generalize hF:finish Tryz.prog Tryz.f63 K = KF
 simp only [Tryz.f63,Option.getD_some,argsT,setArgs,fV1_eq,T.setK_eq,id]
 repeat refine S.seq ?_
 refine S.region ?_
 simp (disch:=first|omega|decide) only [rUz,boxP,boxS]
 obtain ⟨B2,hB2⟩:∃ x,x = h0.nx:=⟨_,rfl⟩
 obtain ⟨B3,hB3⟩:∃ x,x = h0.nx + 1:=⟨_,rfl⟩
 have hb2:((h0.add [ptr0 Bw]).add [crV Bc ds.length]).bl.get B2 = some (.cells [ptr0 Bw] B2 false):=by simp (disch:=first|omega|(simp only [nZ] <;> omega)|decide) only [ag_ne]; subst hB2; exact ag_eq rfl
 have hb3:((h0.add [ptr0 Bw]).add [crV Bc ds.length]).bl.get B3 = some (.cells [crV Bc ds.length] B3 false):=by subst hB3; exact ag_eq rfl
 have hk1:Kp h0 ((h0.add [ptr0 Bw]).add [crV Bc ds.length]):=Kp.refl.add.add
 have hn3:B3 < ((h0.add [ptr0 Bw]).add [crV Bc ds.length]).nx:=by show B3 < h0.nx + 2; omega
 have h23:B2 < B3:=by omega
 rw [← hB3,← hB2]
 generalize (h0.add [ptr0 Bw]).add [crV Bc ds.length] = H at hb2 hb3 hk1 hn3 ⊢
 clear hB2 hB3
 repeat refine S.seq ?_
 refine S.region ?_
 simp (disch:=first|omega|decide) only [rUz,hb3,p86]
 refine wr_bringsX (fid:=87) (first:=#[]) (captured:=#[]) (Post:=fun u h=>u = .bool (truC c ds) ∧ Fr H r h ∧ WAt h Bw r v c) rfl (hoff _ _ _ rfl) (by simp (disch:=first|omega|decide) only [rUz]; exact allD_y S hoff H Bw r v c (hw.kp hk1) hv Bc ds (hcr.kp hk1) hdl B2 B3 hb2 hb3 (by omega) hn3) ?_
 rintro u g ⟨rfl,hfg,hwg⟩
 simp (disch:=first|omega|decide) only [rUz]
 refine S.ret ?_
 try simp only [seqK_ret,blockK_ret]
 subst hF
 simp only [finish,endMarks]
 rw [show Tryz.f63.results.toList = [.tmp 4] from rfl]
 simp (disch:=first|omega|decide) only [resA,ev_tmp,tget_ne,tget_eq,get_ne,get_eq,upd_eq,upd_ne,ag_eq,ag_ne,result1]
 exact hK _ _ ⟨rfl,hk1.fr.trans hfg,hwg⟩
end Go.Proofs.Cp
