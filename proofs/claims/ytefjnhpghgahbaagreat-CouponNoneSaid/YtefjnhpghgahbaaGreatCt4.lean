import Derived.Test.YtefjnhpghgahbaaGreatCt3
/- What is asked of a dividend, in a truth. -/
namespace Go.Proofs.Cp
open Go Go.Ev
set_option linter.unusedSimpArgs false

theorem fQ0:fieldOf Tryz.prog 85 0 = some (0,81):=by kernel_rfl
theorem fQ1:fieldOf Tryz.prog 85 1 = some (1,3):=by kernel_rfl
theorem sFn:sizeB Tryz.prog 81 = some (0 + 1):=by kernel_rfl
theorem pFn (c:List Value) (o:Nat):partL Tryz.prog 81 c o = c[o]?:=by kernel_rfl
theorem pQ (c:List Value) (o:Nat):partL Tryz.prog 85 c o = bif Nat.ble (Nat.add o 2) c.length then some (.agg ⟨(c.drop o).take 2⟩) else none:=by kernel_rfl
theorem bQ (A:FuncId) (i:Int):rBuild Tryz.prog 85 [(0,.func (.func A) #[] #[]),(1,iv i)] = some (.agg ⟨[.func (.func A) #[] #[],iv i]⟩):=by kernel_rfl
abbrev qV (A:FuncId) (i:Int):List Value:=[.func (.func A) #[] #[],iv i]
theorem qV0 (A:FuncId) (i:Int):(qV A i)[0]? = some (.func (.func A) #[] #[]):=rfl
theorem qV1 (A:FuncId) (i:Int):(qV A i)[1]? = some (iv i):=rfl
theorem dv_ok {c:Co} (h:faultZ c = 0) {d:T3} (hd:d ∈ c.dv):0 ≤ d.1 ∧ d.1 ≤ d.2.1 ∧ d.2.1 ≤ 11 ∧ 0 ≤ d.2.2 ∧ d.2.2 ≤ 50:=by
 rw [fault_eq] at h
 cases h1:fewB c with
 | false=>rw [h1,cond_false] at h; omega
 | true =>
 rw [h1,cond_true] at h
 cases h2:validB c with
 | false=>rw [h2,cond_false] at h; omega
 | true =>
  unfold validB at h2
  simp only [Bool.and_eq_true] at h2
  have h3:=List.all_eq_true.1 h2.2.2.1 d hd
  unfold okDv at h3
  rw [Bool.and_eq_true,daysB_iff,inB_iff] at h3
  exact ⟨h3.1.1,h3.1.2.1,h3.1.2.2,h3.2.1,h3.2.2⟩
def tellZ (c:Co) (a b:List Int) (i:Int):Int:=if askedZ c a b = 0 then (bif inB i 0 ((c.dv.length:Int) - 1) then 0 else 2) else askedZ c a b

variable {pr:Prim} {R:ExT}
def Says (R:ExT) (A:FuncId) (v:Vs) (c:Co) (ds:List R2) (L:T3 → List Int):Prop:=
 ∀ (h:AHeap) (Bw r B:Nat) (d:T3),WAt h Bw r v c → Crs h B ds → 0 ≤ d.2.2 → d.2.2 ≤ 50 → BringsX Tryz.prog R A [ptr0 Bw,crV B ds.length,.agg ⟨c3 d⟩] h fun u g=>IAt g u (L d) ∧ Fr h r g ∧ WAt g Bw r v c
set_option maxHeartbeats 16000000 in
theorem ask_y (S:Ev.Steps Tryz.prog pr R) (hoff:Off pr) (h0:AHeap) (Bw r:Nat) (v:Vs) (c:Co) (hw:WAt h0 Bw r v c) (Bc:Nat) (ds:List R2) (hcr:Crs h0 Bc ds) (A:FuncId) (hA:offB A = true) (L:T3 → List Int) (hS:Says R A v c ds L) (i:Nat) (d:T3) (hd:c.dv[i]? = some d) (hp0:0 ≤ d.2.2) (hp1:d.2.2 ≤ 50) :
  BringsX Tryz.prog R 57 [ptr0 Bw,crV Bc ds.length,.agg ⟨qV A (i:Int)⟩] h0 fun u h=>IAt h u (L d) ∧ Fr h0 r h ∧ WAt h Bw r v c:=by
 refine bringsX_of (fn:=Tryz.f57) (c:=(Tryz.f57.body).getD .skip) (by kernel_rfl) rfl (by kernel_rfl) rfl (fun K hK=>?_)
 generalize hF:finish Tryz.prog Tryz.f57 K = KF
 simp only [Tryz.f57,Option.getD_some,argsT,setArgs,fV1_eq,T.setK_eq,id]
 repeat refine S.seq ?_
 refine S.region ?_
 simp (disch:=first|omega|decide) only [rUz]
 obtain ⟨B5,hB5⟩:∃ x,x = h0.nx:=⟨_,rfl⟩
 have hb5:(h0.add (qV A (i:Int))).bl.get B5 = some (.cells (qV A (i:Int)) B5 false):=by subst hB5; exact ag_eq rfl
 have hk1:Kp h0 (h0.add (qV A (i:Int))):=Kp.refl.add
 rw [← hB5]
 generalize h0.add (qV A (i:Int)) = H at hb5 hk1 ⊢
 have hwH:=hw.kp hk1
 have hbw:=hwH.bw
 obtain ⟨b',f',ro',cells',q1,q2,q3,q4,q5,q6⟩:=row_idx hwH.co.dv slcD scD hd
 have qp:=part_at pcD q4 q5
 repeat refine S.seq ?_
 refine S.drawnL [(false,0),(false,1),(false,0),(false,0),(false,0),(false,16),(false,48),(false,112),(false,240),(false,0),(false,512),(false,2032),(false,4080),(true,8191),(false,16383)] (by kernel_rfl) (by kernel_rfl) (by kernel_rfl) ?_
 simp (disch:=first|omega|decide) only [rUz,rDz,infoL,Nat.reduceSub,hb5,fieldAddr_ptr fQ0 sFn,fieldAddr_ptr fQ1 s3,pFn,p3,qV0,qV1,hbw,fieldAddr_ptr fW0 SB,fieldAddr_ptr fB3 lcD,qcD,wk3,q1,q3,qp]
 refine drW_bringsX (fid:=A) (first:=#[]) (captured:=#[]) (Post:=fun u g=>IAt g u (L d) ∧ Fr H r g ∧ WAt g Bw r v c) rfl (hoff _ _ _ hA) (by simp (disch:=first|omega|decide) only [rUz]; exact hS H Bw r Bc d hwH (hcr.kp hk1) hp0 hp1) (Nat.le_of_ble_eq_true rfl) ?_
 rintro u g ⟨hI,hfg,hwg⟩
 refine ⟨?_,?_⟩
 ·try simp (disch:=first|decide|rfl) only [again_nil,again_skip,again_free]
 simp (disch:=first|omega|decide) only [rUz,rDz,infoL,Nat.reduceSub]
 refine S.ret ?_
 try simp only [seqK_ret,blockK_ret]
 subst hF
 simp only [finish,endMarks]
 rw [show Tryz.f57.results.toList = [.tmp 6] from rfl]
 simp (disch:=first|omega|decide) only [resA,ev_tmp,tget_ne,tget_eq,get_ne,get_eq,upd_eq,upd_ne,ag_eq,ag_ne,result1]
 exact hK _ _ ⟨hI,hk1.fr.trans hfg,hwg⟩

set_option maxHeartbeats 32000000 in
theorem tell_y (S:Ev.Steps Tryz.prog pr R) (hoff:Off pr) (h0:AHeap) (v:Vs) (c:Co) (hc:CoAt h0 v c) (hth:thinB c [] [] = true) (ua ub:Value) (a b:List Int) (hua:IAt h0 ua a) (hub:IAt h0 ub b) (hla:(a.length:Int) ≤ 1000000) (A:FuncId) (hA:offB A = true) (L:T3 → List Int) (hS:Val c → (datesL c a b).length = c.tr.length → Says R A v c (datesL c a b) L) (i:Int) :
  Brings Tryz.prog R 33 [.agg ⟨coV c.hs v⟩,.agg ⟨[ua,ub]⟩,.agg ⟨qV A i⟩] h0 fun u h=>∃ lv,u = .tuple ⟨[lv,iv (tellZ c a b i)]⟩ ∧ (tellZ c a b i = 0 → ∃ d,c.dv[i.toNat]? = some d ∧ IAt h lv (L d)) ∧ (tellZ c a b i ≠ 0 → lv = .slice none 0 0):=by
 refine brings_of (fn:=Tryz.f33) (c:=(Tryz.f33.body).getD .skip) (by kernel_rfl) rfl (by kernel_rfl) rfl (fun K hK=>?_)
 generalize hF:finish Tryz.prog Tryz.f33 K = KF
 simp only [Tryz.f33,Option.getD_some,argsT,setArgs,fV1_eq,T.setK_eq,id]
 repeat refine S.seq ?_
 refine S.region ?_
 simp (disch:=first|omega|decide) only [rUz]
 obtain ⟨B3,hB3⟩:∃ x,x = h0.nx:=⟨_,rfl⟩
 obtain ⟨B4,hB4⟩:∃ x,x = h0.nx + 1:=⟨_,rfl⟩
 obtain ⟨B5,hB5⟩:∃ x,x = h0.nx + 1 + 1:=⟨_,rfl⟩
 have hb3:(((h0.add (coV c.hs v)).add [ua,ub]).add (qV A i)).bl.get B3 = some (.cells (coV c.hs v) B3 false):=by simp (disch:=first|omega|(simp only [nZ] <;> omega)|decide) only [ag_ne]; subst hB3; exact ag_eq rfl
 have hb4:(((h0.add (coV c.hs v)).add [ua,ub]).add (qV A i)).bl.get B4 = some (.cells [ua,ub] B4 false):=by simp (disch:=first|omega|(simp only [nZ] <;> omega)|decide) only [ag_ne]; subst hB4; exact ag_eq rfl
 have hb5:(((h0.add (coV c.hs v)).add [ua,ub]).add (qV A i)).bl.get B5 = some (.cells (qV A i) B5 false):=by subst hB5; exact ag_eq rfl
 have hk1:Kp h0 (((h0.add (coV c.hs v)).add [ua,ub]).add (qV A i)):=Kp.refl.add.add.add
 have hn5:B5 < (((h0.add (coV c.hs v)).add [ua,ub]).add (qV A i)).nx:=by show B5 < h0.nx + 3; omega
 have h35:B3 < B5:=by omega
 rw [← hB5,← hB4,← hB3]
 generalize ((h0.add (coV c.hs v)).add [ua,ub]).add (qV A i) = H at hb3 hb4 hb5 hk1 hn5 ⊢
 clear hB3 hB4 hB5
 have yF:=follow_y S hoff H v c (hc.mono hk1) hth ua ub a b (hua.mono hk1) (hub.mono hk1) hla
 rw [follow_eq] at yF
 repeat refine S.seq ?_
 refine S.region ?_
 simp (disch:=first|omega|decide) only [rUz,hb3,hb4,part_0 pB (coV_len c.hs v),pcU2]
 refine wr_brings (fid:=37) (first:=#[]) (captured:=#[]) (Post:=fun u h=>∃ w l,u = .tuple ⟨[w,l,iv (askedZ c a b)]⟩ ∧ (askedZ c a b = 0 → FolAt H.nx h v c a b w l)) rfl (hoff _ _ _ rfl) (by simp (disch:=first|omega|decide) only [rUz]; exact yF) ?_
 rintro u g hkg ⟨w,l,rfl,hfo⟩
 clear yF
 have hkG:=hk1.trans hkg
 simp (disch:=first|omega|decide) only [rUz,tr0,tr1,tr2]
 by_cases hz:askedZ c a b = 0
 rotate_left
 ·have hd:(!decide (askedZ c a b = 0)) = true:=by rw [decide_eq_false hz]; rfl
  have hf:tellZ c a b i = askedZ c a b:=if_neg hz
  rw [hf] at hK
  repeat refine S.seq ?_
  refine S.region ?_
  simp (disch:=first|omega|decide) only [rUz,hd]
  repeat refine S.seq ?_
  refine S.cond (v:=true) rfl (fun _=>?_) (fun e=>by cases e)
  repeat refine S.seq ?_
  refine S.region ?_
  simp (disch:=first|omega|decide) only [rUz]
  refine S.ret ?_
  try simp only [seqK_ret,blockK_ret]
  subst hF
  simp only [finish,endMarks]
  rw [show Tryz.f33.results.toList = [.tmp 6,.tmp 7] from rfl]
  simp (disch:=first|omega|decide) only [resA,ev_tmp,tget_ne,tget_eq,get_ne,get_eq,upd_eq,upd_ne,ag_eq,ag_ne,result1]
  exact hK _ _ hkG ⟨_,rfl,fun e=>absurd e hz,fun _=>rfl⟩
 have hd:(!decide (askedZ c a b = 0)) = false:=by rw [decide_eq_true hz]; rfl
 obtain ⟨Bw,r,B,rfl,rfl,hr,hBw,hB,hw,hcr⟩:=hfo hz
 obtain ⟨hz0,hdt⟩:=asked0 hz
 have hv:=Val.of_fault hz0
 repeat refine S.seq ?_
 refine S.region ?_
 simp (disch:=first|omega|decide) only [rUz,hd]
 repeat refine S.seq ?_
 refine S.cond (v:=false) rfl (fun e=>by cases e) (fun _=>?_)
 repeat refine S.seq ?_
 refine S.skip ?_
 simp (disch:=first|omega|decide) only [rUz]
 have hb3g:=(hkg.get (by omega:B3 < H.nx)).trans hb3
 have hb5g:=(hkg.get hn5).trans hb5
 repeat refine S.seq ?_
 refine S.region ?_
 simp (disch:=first|omega|decide) only [rUz,hb3g,hb5g,part_0 pB (coV_len c.hs v),fieldAddr_ptr fQ1 s3,p3,qV1]
 refine wr_brings (fid:=47) (first:=#[]) (captured:=#[]) (Post:=fun u _=>u = .bool (inB i 0 ((c.dv.length:Int) - 1))) rfl (hoff _ _ _ rfl) (by simp (disch:=first|omega|decide) only [rUz]; exact hasDv_y S g v c (hc.mono hkG) i) ?_
 rintro u g1 hkg1 rfl
 have hkG1:=hkG.trans hkg1
 simp (disch:=first|omega|decide) only [rUz,un_not]
 cases hin:inB i 0 ((c.dv.length:Int) - 1) with
 | false =>
  have hf:tellZ c a b i = 2:=by unfold tellZ; rw [if_pos hz,hin]; rfl
  rw [hf] at hK
  repeat refine S.seq ?_
  refine S.cond (v:=true) rfl (fun _=>?_) (fun e=>by cases e)
  repeat refine S.seq ?_
  refine S.region ?_
  simp (disch:=first|omega|decide) only [rUz]
  refine S.ret ?_
  try simp only [seqK_ret,blockK_ret]
  subst hF
  simp only [finish,endMarks]
  rw [show Tryz.f33.results.toList = [.tmp 6,.tmp 7] from rfl]
  simp (disch:=first|omega|decide) only [resA,ev_tmp,tget_ne,tget_eq,get_ne,get_eq,upd_eq,upd_ne,ag_eq,ag_ne,result1]
  exact hK _ _ hkG1 ⟨_,rfl,fun e=>absurd e (by decide),fun _=>rfl⟩
 | true =>
 have hf:tellZ c a b i = 0:=by unfold tellZ; rw [if_pos hz,hin]; rfl
 rw [hf] at hK
 repeat refine S.seq ?_
 refine S.cond (v:=false) rfl (fun e=>by cases e) (fun _=>?_)
 repeat refine S.seq ?_
 refine S.skip ?_
 simp (disch:=first|omega|decide) only [rUz]
 have hi:=inB_iff.1 hin
 obtain ⟨n,hn⟩:∃ n:Nat,i = (n:Int):=⟨i.toNat,by omega⟩
 subst hn
 have hlt:n < c.dv.length:=by omega
 have hdd:c.dv[n]? = some c.dv[n]:=List.getElem?_eq_getElem hlt
 have hdo:=dv_ok hz0 (List.getElem_mem hlt)
 generalize c.dv[n] = d at hdd hdo
 have hl:a.length = c.tr.length ∧ b.length = c.tr.length:=by
  have hx:=hdt
  rw [datedB,Bool.and_eq_true] at hx
  exact lens_iff.1 hx.1
 have hdl:=datesL_len (c:=c) hl.1 hl.2
 have yA:=ask_y S hoff g1 Bw r v c (hw.kp hkg1) B (datesL c a b) (hcr.kp hkg1) A hA L (hS hv hdl) n d hdd hdo.2.2.2.1 hdo.2.2.2.2
 rw [hdl] at yA
 have hb5h:=(hkg1.get (Nat.lt_of_lt_of_le hn5 hkg.1)).trans hb5g
 repeat refine S.seq ?_
 refine S.region ?_
 simp (disch:=first|omega|decide) only [rUz,hb5h,part_0 (l:=qV A (n:Int)) pQ rfl]
 refine wr_bringsX (fid:=57) (first:=#[]) (captured:=#[]) (Post:=fun u h=>IAt h u (L d) ∧ Fr g1 r h ∧ WAt h Bw r v c) rfl (hoff _ _ _ rfl) (by simp (disch:=first|omega|decide) only [rUz]; exact yA) ?_
 rintro u g2 ⟨hI,hfr,hw2⟩
 have hk2:Kp H g2:=((hkg.trans hkg1).fr.trans hfr).kpl hr
 simp (disch:=first|omega|decide) only [rUz]
 refine S.ret ?_
 try simp only [seqK_ret,blockK_ret]
 subst hF
 simp only [finish,endMarks]
 rw [show Tryz.f33.results.toList = [.tmp 6,.tmp 7] from rfl]
 simp (disch:=first|omega|decide) only [resA,ev_tmp,tget_ne,tget_eq,get_ne,get_eq,upd_eq,upd_ne,ag_eq,ag_ne,result1]
 exact hK _ _ (hk1.trans hk2) ⟨_,rfl,fun _=>⟨d,hdd,hI⟩,fun e=>absurd rfl e⟩
theorem says_paid (S:Ev.Steps Tryz.prog pr R) (hoff:Off pr) (v:Vs) (c:Co) (hv:Val c) (ds:List R2) (hdl:ds.length = c.tr.length):Says R 40 v c ds (payP c ds):=
 fun h Bw r B d hw hcr h0 h1=>paid_y S hoff h Bw r v c hw hv B ds hcr hdl d h0 h1
theorem says_rights (S:Ev.Steps Tryz.prog pr R) (hoff:Off pr) (v:Vs) (c:Co) (hv:Val c) (ds:List R2) (hdl:ds.length = c.tr.length):Says R 34 v c ds (rgtP c ds):=
 fun h Bw r B d hw hcr h0 h1=>rights_y S hoff h Bw r v c hw hv B ds hcr hdl d h0 h1
theorem says_claims (S:Ev.Steps Tryz.prog pr R) (hoff:Off pr) (v:Vs) (c:Co) (hv:Val c) (ds:List R2) (hdl:ds.length = c.tr.length):Says R 43 v c ds (clmP c ds):=
 fun h Bw r B d hw hcr h0 h1=>claims_y S hoff h Bw r v c hw hv B ds hcr hdl d h0 h1
def Tells (h:AHeap) (c:Co) (a b:List Int) (i:Int) (L:T3 → List Int) (u:Value):Prop:=
 ∃ lv,u = .tuple ⟨[lv,iv (tellZ c a b i)]⟩ ∧ (tellZ c a b i = 0 → ∃ d,c.dv[i.toNat]? = some d ∧ IAt h lv (L d)) ∧ (tellZ c a b i ≠ 0 → lv = .slice none 0 0)
set_option maxHeartbeats 8000000 in
theorem Paid_y (S:Ev.Steps Tryz.prog pr R) (hoff:Off pr) (h0:AHeap) (v:Vs) (c:Co) (hc:CoAt h0 v c) (hth:thinB c [] [] = true) (ua ub:Value) (a b:List Int) (hua:IAt h0 ua a) (hub:IAt h0 ub b) (hla:(a.length:Int) ≤ 1000000) (i:Int) :
  Brings Tryz.prog R 16 [.agg ⟨coV c.hs v⟩,.agg ⟨[ua,ub]⟩,iv i] h0 fun u h=>Tells h c a b i (payP c (datesL c a b)) u:=by
 refine brings_of (fn:=Tryz.f16) (c:=(Tryz.f16.body).getD .skip) (by kernel_rfl) rfl (by kernel_rfl) rfl (fun K hK=>?_)
 generalize hF:finish Tryz.prog Tryz.f16 K = KF
 simp only [Tryz.f16,Option.getD_some,argsT,setArgs,fV1_eq,T.setK_eq,id]
 repeat refine S.seq ?_
 refine S.region ?_
 simp (disch:=first|omega|decide) only [rUz]
 have hb3:((h0.add (coV c.hs v)).add [ua,ub]).bl.get h0.nx = some (.cells (coV c.hs v) h0.nx false):=by rw [ag_ne (by show h0.nx ≠ h0.nx + 1; omega)]; exact ag_eq rfl
 have hb4:((h0.add (coV c.hs v)).add [ua,ub]).bl.get (h0.nx + 1) = some (.cells [ua,ub] (h0.nx + 1) false):=ag_eq rfl
 have hk1:Kp h0 ((h0.add (coV c.hs v)).add [ua,ub]):=Kp.refl.add.add
 generalize (h0.add (coV c.hs v)).add [ua,ub] = H at hb3 hb4 hk1 ⊢
 repeat refine S.seq ?_
 refine S.region ?_
 simp (disch:=first|omega|decide) only [rUz,hb3,hb4,part_0 pB (coV_len c.hs v),pcU2,rd_build,List.map_cons,List.map_nil,bQ]
 refine wr_brings (fid:=33) (first:=#[]) (captured:=#[]) (Post:=fun u h=>Tells h c a b i (payP c (datesL c a b)) u) rfl (hoff _ _ _ rfl) (by simp (disch:=first|omega|decide) only [rUz]; exact tell_y S hoff H v c (hc.mono hk1) hth ua ub a b (hua.mono hk1) (hub.mono hk1) hla 40 rfl (payP c (datesL c a b)) (fun hv hd=>says_paid S hoff v c hv _ hd) i) ?_
 rintro u g hkg ⟨lv,rfl,h1,h2⟩
 simp (disch:=first|omega|decide) only [rUz,tup0,tup1]
 refine S.ret ?_
 try simp only [seqK_ret,blockK_ret]
 subst hF
 simp only [finish,endMarks]
 rw [show Tryz.f16.results.toList = [.tmp 6,.tmp 7] from rfl]
 simp (disch:=first|omega|decide) only [resA,ev_tmp,tget_ne,tget_eq,get_ne,get_eq,upd_eq,upd_ne,ag_eq,ag_ne,result1]
 exact hK _ _ (hk1.trans hkg) ⟨lv,rfl,h1,h2⟩
set_option maxHeartbeats 8000000 in
theorem Claims_y (S:Ev.Steps Tryz.prog pr R) (hoff:Off pr) (h0:AHeap) (v:Vs) (c:Co) (hc:CoAt h0 v c) (hth:thinB c [] [] = true) (ua ub:Value) (a b:List Int) (hua:IAt h0 ua a) (hub:IAt h0 ub b) (hla:(a.length:Int) ≤ 1000000) (i:Int) :
  Brings Tryz.prog R 21 [.agg ⟨coV c.hs v⟩,.agg ⟨[ua,ub]⟩,iv i] h0 fun u h=>Tells h c a b i (clmP c (datesL c a b)) u:=by
 refine brings_of (fn:=Tryz.f21) (c:=(Tryz.f21.body).getD .skip) (by kernel_rfl) rfl (by kernel_rfl) rfl (fun K hK=>?_)
 generalize hF:finish Tryz.prog Tryz.f21 K = KF
 simp only [Tryz.f21,Option.getD_some,argsT,setArgs,fV1_eq,T.setK_eq,id]
 repeat refine S.seq ?_
 refine S.region ?_
 simp (disch:=first|omega|decide) only [rUz]
 have hb3:((h0.add (coV c.hs v)).add [ua,ub]).bl.get h0.nx = some (.cells (coV c.hs v) h0.nx false):=by rw [ag_ne (by show h0.nx ≠ h0.nx + 1; omega)]; exact ag_eq rfl
 have hb4:((h0.add (coV c.hs v)).add [ua,ub]).bl.get (h0.nx + 1) = some (.cells [ua,ub] (h0.nx + 1) false):=ag_eq rfl
 have hk1:Kp h0 ((h0.add (coV c.hs v)).add [ua,ub]):=Kp.refl.add.add
 generalize (h0.add (coV c.hs v)).add [ua,ub] = H at hb3 hb4 hk1 ⊢
 repeat refine S.seq ?_
 refine S.region ?_
 simp (disch:=first|omega|decide) only [rUz,hb3,hb4,part_0 pB (coV_len c.hs v),pcU2,rd_build,List.map_cons,List.map_nil,bQ]
 refine wr_brings (fid:=33) (first:=#[]) (captured:=#[]) (Post:=fun u h=>Tells h c a b i (clmP c (datesL c a b)) u) rfl (hoff _ _ _ rfl) (by simp (disch:=first|omega|decide) only [rUz]; exact tell_y S hoff H v c (hc.mono hk1) hth ua ub a b (hua.mono hk1) (hub.mono hk1) hla 43 rfl (clmP c (datesL c a b)) (fun hv hd=>says_claims S hoff v c hv _ hd) i) ?_
 rintro u g hkg ⟨lv,rfl,h1,h2⟩
 simp (disch:=first|omega|decide) only [rUz,tup0,tup1]
 refine S.ret ?_
 try simp only [seqK_ret,blockK_ret]
 subst hF
 simp only [finish,endMarks]
 rw [show Tryz.f21.results.toList = [.tmp 6,.tmp 7] from rfl]
 simp (disch:=first|omega|decide) only [resA,ev_tmp,tget_ne,tget_eq,get_ne,get_eq,upd_eq,upd_ne,ag_eq,ag_ne,result1]
 exact hK _ _ (hk1.trans hkg) ⟨lv,rfl,h1,h2⟩
set_option maxHeartbeats 8000000 in
theorem Rights_y (S:Ev.Steps Tryz.prog pr R) (hoff:Off pr) (h0:AHeap) (v:Vs) (c:Co) (hc:CoAt h0 v c) (hth:thinB c [] [] = true) (ua ub:Value) (a b:List Int) (hua:IAt h0 ua a) (hub:IAt h0 ub b) (hla:(a.length:Int) ≤ 1000000) (i:Int) :
  Brings Tryz.prog R 11 [.agg ⟨coV c.hs v⟩,.agg ⟨[ua,ub]⟩,iv i] h0 fun u h=>Tells h c a b i (rgtP c (datesL c a b)) u:=by
 refine brings_of (fn:=Tryz.f11) (c:=(Tryz.f11.body).getD .skip) (by kernel_rfl) rfl (by kernel_rfl) rfl (fun K hK=>?_)
 generalize hF:finish Tryz.prog Tryz.f11 K = KF
 simp only [Tryz.f11,Option.getD_some,argsT,setArgs,fV1_eq,T.setK_eq,id]
 repeat refine S.seq ?_
 refine S.region ?_
 simp (disch:=first|omega|decide) only [rUz]
 have hb3:((h0.add (coV c.hs v)).add [ua,ub]).bl.get h0.nx = some (.cells (coV c.hs v) h0.nx false):=by rw [ag_ne (by show h0.nx ≠ h0.nx + 1; omega)]; exact ag_eq rfl
 have hb4:((h0.add (coV c.hs v)).add [ua,ub]).bl.get (h0.nx + 1) = some (.cells [ua,ub] (h0.nx + 1) false):=ag_eq rfl
 have hk1:Kp h0 ((h0.add (coV c.hs v)).add [ua,ub]):=Kp.refl.add.add
 generalize (h0.add (coV c.hs v)).add [ua,ub] = H at hb3 hb4 hk1 ⊢
 repeat refine S.seq ?_
 refine S.region ?_
 simp (disch:=first|omega|decide) only [rUz,hb3,hb4,part_0 pB (coV_len c.hs v),pcU2,rd_build,List.map_cons,List.map_nil,bQ]
 refine wr_brings (fid:=33) (first:=#[]) (captured:=#[]) (Post:=fun u h=>Tells h c a b i (rgtP c (datesL c a b)) u) rfl (hoff _ _ _ rfl) (by simp (disch:=first|omega|decide) only [rUz]; exact tell_y S hoff H v c (hc.mono hk1) hth ua ub a b (hua.mono hk1) (hub.mono hk1) hla 34 rfl (rgtP c (datesL c a b)) (fun hv hd=>says_rights S hoff v c hv _ hd) i) ?_
 rintro u g hkg ⟨lv,rfl,h1,h2⟩
 simp (disch:=first|omega|decide) only [rUz,tup0,tup1]
 refine S.ret ?_
 try simp only [seqK_ret,blockK_ret]
 subst hF
 simp only [finish,endMarks]
 rw [show Tryz.f11.results.toList = [.tmp 6,.tmp 7] from rfl]
 simp (disch:=first|omega|decide) only [resA,ev_tmp,tget_ne,tget_eq,get_ne,get_eq,upd_eq,upd_ne,ag_eq,ag_ne,result1]
 exact hK _ _ (hk1.trans hkg) ⟨lv,rfl,h1,h2⟩
end Go.Proofs.Cp
