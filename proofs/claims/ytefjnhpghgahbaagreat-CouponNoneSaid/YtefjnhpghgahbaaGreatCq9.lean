import Derived.Test.YtefjnhpghgahbaaGreatCq8
/- What follows from a truth: the company at work, its course; whether a truth is one. -/
namespace Go.Proofs.Cp
open Go Go.Ev
set_option linter.unusedSimpArgs false

def followZ (c:Co) (a b:List Int):Int:=if faultZ c = 0 then (bif datedB c a b then (bif truC c (datesL c a b) then 0 else 11) else 2) else faultZ c
theorem tr0 (a b c:Value):(⟨[a,b,c]⟩:Array Value)[0]? = some a:=rfl
theorem tr1 (a b c:Value):(⟨[a,b,c]⟩:Array Value)[1]? = some b:=rfl
theorem tr2 (a b c:Value):(⟨[a,b,c]⟩:Array Value)[2]? = some c:=rfl
def FolAt (n:Nat) (h:AHeap) (v:Vs) (c:Co) (a b:List Int) (w l:Value):Prop:=
 ∃ Bw r B,w = ptr0 Bw ∧ l = crV B c.tr.length ∧ n ≤ r ∧ n ≤ Bw ∧ n ≤ B ∧ WAt h Bw r v c ∧ Crs h B (datesL c a b)

variable {pr:Prim} {R:ExT}
set_option maxHeartbeats 16000000 in
theorem follow_y (S:Ev.Steps Tryz.prog pr R) (hoff:Off pr) (h0:AHeap) (v:Vs) (c:Co) (hc:CoAt h0 v c) (hth:thinB c [] [] = true) (ua ub:Value) (a b:List Int) (hua:IAt h0 ua a) (hub:IAt h0 ub b) (hla:(a.length:Int) ≤ 1000000) :
  Brings Tryz.prog R 37 [.agg ⟨coV c.hs v⟩,.agg ⟨[ua,ub]⟩] h0 fun u h=>∃ w l,u = .tuple ⟨[w,l,iv (followZ c a b)]⟩ ∧ (followZ c a b = 0 → FolAt h0.nx h v c a b w l):=by
 refine brings_of (fn:=Tryz.f37) (c:=(Tryz.f37.body).getD .skip) (by kernel_rfl) rfl (by kernel_rfl) rfl (fun K hK=>?_)
 generalize hF:finish Tryz.prog Tryz.f37 K = KF
 simp only [Tryz.f37,Option.getD_some,argsT,setArgs,fV1_eq,T.setK_eq,id]
 repeat refine S.seq ?_
 refine S.region ?_
 simp (disch:=first|omega|decide) only [rUz]
 obtain ⟨B2,hB2⟩:∃ x,x = h0.nx:=⟨_,rfl⟩
 obtain ⟨B3,hB3⟩:∃ x,x = h0.nx + 1:=⟨_,rfl⟩
 have hb2:((h0.add (coV c.hs v)).add [ua,ub]).bl.get B2 = some (.cells (coV c.hs v) B2 false):=by simp (disch:=first|omega|(simp only [nZ] <;> omega)|decide) only [ag_ne]; subst hB2; exact ag_eq rfl
 have hb3:((h0.add (coV c.hs v)).add [ua,ub]).bl.get B3 = some (.cells [ua,ub] B3 false):=by subst hB3; exact ag_eq rfl
 have hk1:Kp h0 ((h0.add (coV c.hs v)).add [ua,ub]):=Kp.refl.add.add
 have hn3:B3 < ((h0.add (coV c.hs v)).add [ua,ub]).nx:=by show B3 < h0.nx + 2; omega
 have h23:B2 < B3:=by omega
 rw [← hB3,← hB2]
 generalize (h0.add (coV c.hs v)).add [ua,ub] = H at hb2 hb3 hk1 hn3 ⊢
 clear hB2 hB3
 have hcH:=hc.mono hk1
 have huaH:=hua.mono hk1
 have hubH:=hub.mono hk1
 have veU:veq (.agg ⟨[ua,ub]⟩) (.agg ⟨[ua,ub]⟩) = true:=by simp only [veq,veqA,veqL,hua.veq,hub.veq,Bool.and_self]
 have veC:=veq_co hcH c.hs
 repeat refine S.seq ?_
 refine S.region ?_
 simp (disch:=first|omega|decide) only [rUz,hb2,part_0 pB (coV_len c.hs v)]
 refine wr_brings (fid:=52) (first:=#[]) (captured:=#[]) (Post:=fun u _=>u = iv (faultZ c)) rfl (hoff _ _ _ rfl) (by simp (disch:=first|omega|decide) only [rUz]; exact check_y S hoff _ v c hcH hth) ?_
 rintro u g hkg rfl
 have hkG:=hk1.trans hkg
 simp (disch:=first|omega|decide) only [rUz]
 by_cases hz:faultZ c = 0
 rotate_left
 ·have hd:(!decide (faultZ c = 0)) = true:=by rw [decide_eq_false hz]; rfl
  have hf:followZ c a b = faultZ c:=if_neg hz
  rw [hf] at hK
  repeat refine S.seq ?_
  refine S.region ?_
  simp (disch:=first|omega|decide) only [rUz,hd]
  repeat refine S.seq ?_
  refine S.cond (v:=true) rfl (fun _=>?_) (fun e=>by cases e)
  repeat refine S.seq ?_
  refine S.region ?_
  simp (disch:=first|omega|decide) only [rUz]
  refine S.ret ?_
  try simp only [seqK_ret,blockK_ret]
  subst hF
  simp only [finish,endMarks]
  rw [show Tryz.f37.results.toList = [.tmp 4,.tmp 5,.tmp 6] from rfl]
  simp (disch:=first|omega|decide) only [resA,ev_tmp,tget_ne,tget_eq,get_ne,get_eq,upd_eq,upd_ne,ag_eq,ag_ne,result1]
  exact hK _ _ hkG ⟨_,_,rfl,fun e=>absurd e hz⟩
 have hd:(!decide (faultZ c = 0)) = false:=by rw [decide_eq_true hz]; rfl
 repeat refine S.seq ?_
 refine S.region ?_
 simp (disch:=first|omega|decide) only [rUz,hd]
 repeat refine S.seq ?_
 refine S.cond (v:=false) rfl (fun e=>by cases e) (fun _=>?_)
 repeat refine S.seq ?_
 refine S.skip ?_
 simp (disch:=first|omega|decide) only [rUz]
 have hv:=Val.of_fault hz
 have hb2g:=(hkg.get (by omega:B2 < H.nx)).trans hb2
 have hb3g:=(hkg.get hn3).trans hb3
 repeat refine S.seq ?_
 refine S.region ?_
 simp (disch:=first|omega|decide) only [rUz,hb2g,hb3g,part_0 pB (coV_len c.hs v),pcU2]
 refine wr_brings (fid:=61) (first:=#[]) (captured:=#[]) (Post:=fun u _=>u = .bool (datedB c a b)) rfl (hoff _ _ _ rfl) (by simp (disch:=first|omega|decide) only [rUz]; exact allows_y S hoff _ v c (hcH.mono hkg) (by have:=hv.tl; omega) ua ub a b (huaH.mono hkg) (hubH.mono hkg) hla) ?_
 rintro u g2 hkg2 rfl
 have hkH2:=hkg.trans hkg2
 have hkG2:=hkG.trans hkg2
 simp (disch:=first|omega|decide) only [rUz,un_not]
 cases hdt:datedB c a b with
 | false =>
  have hf:followZ c a b = 2:=by unfold followZ; rw [if_pos hz,hdt]; rfl
  rw [hf] at hK
  repeat refine S.seq ?_
  refine S.cond (v:=true) rfl (fun _=>?_) (fun e=>by cases e)
  repeat refine S.seq ?_
  refine S.region ?_
  simp (disch:=first|omega|decide) only [rUz]
  refine S.ret ?_
  try simp only [seqK_ret,blockK_ret]
  subst hF
  simp only [finish,endMarks]
  rw [show Tryz.f37.results.toList = [.tmp 4,.tmp 5,.tmp 6] from rfl]
  simp (disch:=first|omega|decide) only [resA,ev_tmp,tget_ne,tget_eq,get_ne,get_eq,upd_eq,upd_ne,ag_eq,ag_ne,result1]
  exact hK _ _ hkG2 ⟨_,_,rfl,fun e=>absurd e (by decide)⟩
 | true =>
 repeat refine S.seq ?_
 refine S.cond (v:=false) rfl (fun e=>by cases e) (fun _=>?_)
 repeat refine S.seq ?_
 refine S.skip ?_
 simp (disch:=first|omega|decide) only [rUz]
 have hl:a.length = c.tr.length ∧ b.length = c.tr.length:=by
  have hx:=hdt
  rw [datedB,Bool.and_eq_true] at hx
  exact lens_iff.1 hx.1
 have hb2h:=(hkH2.get (by omega:B2 < H.nx)).trans hb2
 have hb3h:=(hkH2.get hn3).trans hb3
 repeat refine S.seq ?_
 refine S.drawnL [(false,0),(true,1),(false,0),(false,0),(true,15),(false,31),(false,63)] (by kernel_rfl) (by kernel_rfl) (by kernel_rfl) ?_
 simp (disch:=first|omega|decide) only [rUz,rDz,infoL,Nat.reduceSub,hb2h,hb3h,part_0 pB (coV_len c.hs v),pcU2]
 refine draw_pick' rfl ?_
 simp (disch:=first|omega|decide) only [rUz,rDz,infoL,Nat.reduceSub,hb2h,hb3h,part_0 pB (coV_len c.hs v),pcU2]
 refine draw_pick' rfl ?_
 simp (disch:=first|omega|decide) only [rUz,rDz,infoL,Nat.reduceSub,hb2h,hb3h,part_0 pB (coV_len c.hs v),pcU2]
 refine drW_brings (fid:=48) (first:=#[]) (captured:=#[]) (Post:=fun u h=>∃ Bw r,u = ptr0 Bw ∧ g2.nx ≤ r ∧ g2.nx ≤ Bw ∧ WAt h Bw r v c) rfl (hoff _ _ _ rfl) (by simp (disch:=first|omega|decide) only [rUz]; exact begin_y S _ v c (hcH.mono hkH2)) (Nat.le_of_ble_eq_true rfl) ?_
 rintro u g3 hkg3 ⟨Bw,r,rfl,hr,hBw,hw⟩
 have hkH3:=hkH2.trans hkg3
 have hb23:=(hkH3.get (by omega:B2 < H.nx)).trans hb2
 have hb33:=(hkH3.get hn3).trans hb3
 refine ⟨?_,?_⟩
 ·try simp (disch:=first|decide|rfl) only [again_nil,again_skip,again_free]
  rw [again_same (v:=.agg ⟨[ua,ub]⟩) (by simp (disch:=first|omega|decide) only [rUz,rDz,infoL,Nat.reduceSub,hb33,pcU2]) veU]
  try simp (disch:=first|decide|rfl) only [again_nil,again_skip,again_free]
  rw [again_same (v:=.agg ⟨coV c.hs v⟩) (by simp (disch:=first|omega|decide) only [rUz,rDz,infoL,Nat.reduceSub,hb23,part_0 pB (coV_len c.hs v)]) veC]
  try simp (disch:=first|decide|rfl) only [again_nil,again_skip,again_free]
 simp (disch:=first|omega|decide) only [rUz,rDz,infoL,Nat.reduceSub]
 refine drW_brings (fid:=62) (first:=#[]) (captured:=#[]) (Post:=fun u h=>∃ B,u = crV B c.tr.length ∧ g3.nx ≤ B ∧ Crs h B (datesL c a b)) rfl (hoff _ _ _ rfl) (by simp (disch:=first|omega|decide) only [rUz]; exact course_y S hoff _ v c (hcH.mono hkH3) (by have:=hv.cll; omega) (by have:=hv.tl; omega) ua ub a b (huaH.mono hkH3) (hubH.mono hkH3) hl.1 hl.2) (Nat.le_of_ble_eq_true rfl) ?_
 rintro u g4 hkg4 ⟨B,rfl,hB,hcr⟩
 refine ⟨?_,?_⟩
 ·try simp (disch:=first|decide|rfl) only [again_nil,again_skip,again_free]
 simp (disch:=first|omega|decide) only [rUz,rDz,infoL,Nat.reduceSub]
 have hw4:=hw.kp hkg4
 have hdl:=datesL_len (c:=c) hl.1 hl.2
 have yT:=isTrue_y S hoff g4 Bw r v c hw4 hv B (datesL c a b) hcr hdl
 rw [hdl] at yT
 have ncr:=hcr.ne hw4
 have hkA:=hkG2.trans (hkg3.trans hkg4)
 have hnr:h0.nx ≤ r:=Nat.le_trans hkG2.1 hr
 have hnB:h0.nx ≤ B:=Nat.le_trans (hkG2.trans hkg3).1 hB
 repeat refine S.seq ?_
 refine S.region ?_
 simp (disch:=first|omega|decide) only [rUz]
 refine wr_bringsX (fid:=63) (first:=#[]) (captured:=#[]) (Post:=fun u h=>u = .bool (truC c (datesL c a b)) ∧ Fr g4 r h ∧ WAt h Bw r v c) rfl (hoff _ _ _ rfl) (by simp (disch:=first|omega|decide) only [rUz]; exact yT) ?_
 rintro u g5 ⟨rfl,hfr,hw5⟩
 have hk5:Kp h0 g5:=(hkA.fr.trans hfr).kpl hnr
 simp (disch:=first|omega|decide) only [rUz,un_not]
 cases htr:truC c (datesL c a b) with
 | false =>
  have hf:followZ c a b = 11:=by unfold followZ; rw [if_pos hz,hdt,htr]; rfl
  rw [hf] at hK
  repeat refine S.seq ?_
  refine S.cond (v:=true) rfl (fun _=>?_) (fun e=>by cases e)
  repeat refine S.seq ?_
  refine S.region ?_
  simp (disch:=first|omega|decide) only [rUz]
  refine S.ret ?_
  try simp only [seqK_ret,blockK_ret]
  subst hF
  simp only [finish,endMarks]
  rw [show Tryz.f37.results.toList = [.tmp 4,.tmp 5,.tmp 6] from rfl]
  simp (disch:=first|omega|decide) only [resA,ev_tmp,tget_ne,tget_eq,get_ne,get_eq,upd_eq,upd_ne,ag_eq,ag_ne,result1]
  exact hK _ _ hk5 ⟨_,_,rfl,fun e=>absurd e (by decide)⟩
 | true =>
  have hf:followZ c a b = 0:=by unfold followZ; rw [if_pos hz,hdt,htr]; rfl
  rw [hf] at hK
  repeat refine S.seq ?_
  refine S.cond (v:=false) rfl (fun e=>by cases e) (fun _=>?_)
  repeat refine S.seq ?_
  refine S.skip ?_
  simp (disch:=first|omega|decide) only [rUz]
  repeat refine S.seq ?_
  refine S.region ?_
  simp (disch:=first|omega|decide) only [rUz]
  refine S.ret ?_
  try simp only [seqK_ret,blockK_ret]
  subst hF
  simp only [finish,endMarks]
  rw [show Tryz.f37.results.toList = [.tmp 4,.tmp 5,.tmp 6] from rfl]
  simp (disch:=first|omega|decide) only [resA,ev_tmp,tget_ne,tget_eq,get_ne,get_eq,upd_eq,upd_ne,ag_eq,ag_ne,result1]
  exact hK _ _ hk5 ⟨_,_,rfl,fun _=>⟨Bw,r,B,rfl,rfl,hnr,Nat.le_trans hkG2.1 hBw,hnB,hw5,hcr.frm hfr ncr⟩⟩

end Go.Proofs.Cp
