import Derived.Test.YtefjnhpghgahbaaGreatCm4
/- Whether a truth is one, by the reference; the truth for the program. -/
namespace Go.Proofs.Cp
open Go Go.Ev
set_option linter.unusedSimpArgs false

def posL (l:List Int):Bool:=l.all fun n=>!decide (n < 0)
def truG (c:Co) (a b:List Int):Nat → Int → Bool
 | 0,_=>true
 | n + 1,k=>posL (heldL c a b k) && truG c a b n (k + 1)
def truthB (c:Co) (a b:List Int):Bool:=datedB c a b && truG c a b 12 0
def askedZ (c:Co) (a b:List Int):Int:=if faultZ c = 0 then (bif datedB c a b then (bif truthB c a b then 0 else 11) else 2) else faultZ c

variable {pr:Prim} {R:ExT}
structure ITd (c:Co) (a b:List Int) (B2 B3:Nat) (H:AHeap) (k:Nat) (t:T Value) (h:AHeap):Prop where
 kp:Kp H h
 t2:tget t 2 = ptr0 B2
 t3:tget t 3 = ptr0 B3
 t5:tget t 5 = iv (k:Int)
 hk:k ≤ 12
 val:truG c a b 12 0 = truG c a b (12 - k) (k:Int)
structure ITh (l:List Int) (lv:Value) (d:Int) (B2 B3:Nat) (H:AHeap) (j:Nat) (t:T Value) (h:AHeap):Prop where
 kp:Kp H h
 t2:tget t 2 = ptr0 B2
 t3:tget t 3 = ptr0 B3
 t5:tget t 5 = iv d
 t6:tget t 6 = lv
 t7:tget t 7 = iv (j:Int)
 hj:j ≤ l.length
 val:posL l = posL (l.drop j)
set_option maxHeartbeats 16000000 in
theorem istruth_y (S:Ev.Steps Tryz.prog pr R) (hoff:Off pr) (h0:AHeap) (v:Vs) (c:Co) (hc:CoAt h0 v c) (hv:Val c) (ua ub:Value) (a b:List Int) (hua:IAt h0 ua a) (hub:IAt h0 ub b) :
  Brings Tryz.prog R 10 [.agg ⟨coV c.hs v⟩,.agg ⟨[ua,ub]⟩] h0 fun u _=>u = .bool (truthB c a b):=by
 refine brings_of (fn:=Tryz.f10) (c:=(Tryz.f10.body).getD .skip) (by kernel_rfl) rfl (by kernel_rfl) rfl (fun K hK=>?_)
 generalize hF:finish Tryz.prog Tryz.f10 K = KF
 simp only [Tryz.f10,Option.getD_some,argsT,setArgs,fV1_eq,T.setK_eq,id]
 have hK1:∀ h,Kp ((h0.add (coV c.hs v)).add [ua,ub]) h → K (.bool (truthB c a b)) h = true:=fun h hk=>hK _ _ (Kp.refl.add.add.trans hk) rfl
 clear hK
 have hhl:c.held.length ≤ 4:=by have:=hv.held; have:=hv.h4; omega
 repeat refine S.seq ?_
 refine S.region ?_
 simp (disch:=first|omega|decide) only [rUz]
 obtain ⟨B3,hB3⟩:∃ x,x = h0.nx + 1:=⟨_,rfl⟩
 obtain ⟨B2,hB2⟩:∃ x,x = h0.nx:=⟨_,rfl⟩
 have hb2:((h0.add (coV c.hs v)).add [ua,ub]).bl.get B2 = some (.cells (coV c.hs v) B2 false):=by rw [ag_ne (by show B2 ≠ h0.nx + 1; omega)]; subst hB2; exact ag_eq rfl
 have hb3:((h0.add (coV c.hs v)).add [ua,ub]).bl.get B3 = some (.cells [ua,ub] B3 false):=by subst hB3; exact ag_eq rfl
 have hk1:Kp h0 ((h0.add (coV c.hs v)).add [ua,ub]):=Kp.refl.add.add
 have hn3:B3 < ((h0.add (coV c.hs v)).add [ua,ub]).nx:=by show B3 < h0.nx + 2; omega
 rw [← hB3,← hB2]
 generalize (h0.add (coV c.hs v)).add [ua,ub] = H at hK1 hb2 hb3 hk1 hn3 ⊢
 have hn2:B2 < H.nx:=by omega
 clear hB2 hB3
 have hc1:=hc.mono hk1
 have ha1:=hua.mono hk1
 have hb1:=hub.mono hk1
 clear hk1
 have pU:partL Tryz.prog 36 [ua,ub] 0 = some (.agg ⟨[ua,ub]⟩):=part_0 prU rfl
 unfold truthB at hK1
 repeat refine S.seq ?_
 refine S.region ?_
 simp (disch:=first|omega|decide) only [rUz,hb2,hb3,part_0 pA (coV_len c.hs v),pU]
 refine wr_brings (fid:=31) (first:=#[]) (captured:=#[]) (Post:=fun u _=>u = .bool (datedB c a b)) rfl (hoff _ _ _ rfl) (by simp (disch:=first|omega|decide) only [rUz]; exact dated_y S hoff _ v c hc1 (by have:=hv.tl; omega) ua ub a b ha1 hb1) ?_
 rintro u g hkg rfl
 simp (disch:=first|omega|decide) only [rUz,un_not]
 cases hd:datedB c a b with
 | false =>
  rw [hd,Bool.false_and] at hK1
  repeat refine S.seq ?_
  refine S.cond (v:=true) rfl (fun _=>?_) (fun e=>by cases e)
  repeat refine S.seq ?_
  refine S.region ?_
  simp (disch:=first|omega|decide) only [rUz]
  refine S.ret ?_
  try simp only [seqK_ret,blockK_ret]
  subst hF
  simp only [finish,endMarks]
  rw [show Tryz.f10.results.toList = [.tmp 4] from rfl]
  simp (disch:=first|omega|decide) only [resA,ev_tmp,tget_ne,tget_eq,get_ne,get_eq,upd_eq,upd_ne,ag_eq,ag_ne,result1]
  exact hK1 _ hkg
 | true =>
 rw [hd,Bool.true_and] at hK1
 repeat refine S.seq ?_
 refine S.cond (v:=false) rfl (fun e=>by cases e) (fun _=>?_)
 repeat refine S.seq ?_
 refine S.skip ?_
 simp (disch:=first|omega|decide) only [rUz]
 repeat refine S.seq ?_
 refine S.region ?_
 simp (disch:=first|omega|decide) only [rUz]
 repeat refine S.seq ?_
 refine S.block ?_
 refine S.loop (ι:=Nat) (ITd c a b B2 B3 H) (fun k=>12 - k) ?_ 0 _ _ ?_
 rotate_left
 ·refine ⟨hkg,?_,?_,?_,Nat.zero_le _,rfl⟩
  all_goals (first|rfl|(simp (disch:=first|omega|decide) only [rUz]; done)|(simp (disch:=first|omega|decide) only [rUz]; rfl))
 clear hkg
 clear g
 intro k t h ⟨hkp,t2,t3,t5,hk,hval⟩ K' hn he
 repeat refine S.seq ?_
 refine S.region ?_
 simp (disch:=first|omega|decide) only [rUz,t5]
 repeat refine S.seq ?_
 refine S.cond (v:=decide ((k:Int) ≤ 11)) (by first|rfl|(simp (disch:=first|omega|decide) only [rUz,↓reduceIte,Nat.reduceEqDiff,Nat.reduceAdd] <;> rfl)) (fun e=>?_) (fun e=>?_)
 rotate_left
 ·have hkn:k = 12:=by have:=of_decide_eq_false e; omega
  subst hkn
  refine S.exit (he _ _ _ _ (fun e=>by cases e) ?_)
  simp (disch:=first|omega|decide) only [rUz]
  repeat refine S.seq ?_
  refine S.region ?_
  simp (disch:=first|omega|decide) only [rUz]
  refine S.ret ?_
  try simp only [seqK_ret,blockK_ret]
  subst hF
  simp only [finish,endMarks]
  rw [show Tryz.f10.results.toList = [.tmp 4] from rfl]
  simp (disch:=first|omega|decide) only [resA,ev_tmp,tget_ne,tget_eq,get_ne,get_eq,upd_eq,upd_ne,ag_eq,ag_ne,result1]
  rw [hval] at hK1
  exact hK1 _ hkp
 have hkn:(k:Int) ≤ 11:=of_decide_eq_true e
 clear e
 rw [show 12 - k = (12 - (k + 1)) + 1 from by omega,show truG c a b ((12 - (k + 1)) + 1) (k:Int) = (posL (heldL c a b (k:Int)) && truG c a b (12 - (k + 1)) ((k:Int) + 1)) from rfl] at hval
 have hb2h:=(hkp.get hn2).trans hb2
 have hb3h:=(hkp.get hn3).trans hb3
 repeat refine S.seq ?_
 refine S.skip ?_
 simp (disch:=first|omega|decide) only [rUz]
 repeat refine S.seq ?_
 refine S.block ?_
 repeat refine S.seq ?_
 refine S.region ?_
 simp (disch:=first|omega|decide) only [rUz,t2,t3,t5,hb2h,hb3h,part_0 pA (coV_len c.hs v),pU]
 refine wr_brings (fid:=32) (first:=#[]) (captured:=#[]) (Post:=fun u h=>IAt h u (heldL c a b (k:Int))) rfl (hoff _ _ _ rfl) (by simp (disch:=first|omega|decide) only [rUz]; exact rheld_y S hoff _ v c (hc1.mono hkp) hv ua ub a b (ha1.mono hkp) (hb1.mono hkp) hd (k:Int) (by omega) hkn) ?_
 intro lv g hkg hl
 simp (disch:=first|omega|decide) only [rUz]
 repeat refine S.seq ?_
 refine S.region ?_
 simp (disch:=first|omega|decide) only [rUz]
 repeat refine S.seq ?_
 refine S.block ?_
 have hll:(heldL c a b (k:Int)).length ≤ 4:=by unfold heldL; rw [heldFrom_len]; exact hhl
 obtain ⟨d,hde⟩:∃ d:Int,d = (k:Int):=⟨_,rfl⟩
 have hkpg:=hkp.trans hkg
 generalize heldL c a b (k:Int) = l at hl hval hll
 refine S.loop (ι:=Nat) (ITh l lv d B2 B3 g) (fun j=>l.length - j) ?_ 0 _ _ ?_
 rotate_left
 ·refine ⟨Kp.refl,?_,?_,?_,?_,?_,Nat.zero_le _,by rw [List.drop_zero]⟩
  ·simp (disch:=first|omega|decide) only [rUz,t2]
  ·simp (disch:=first|omega|decide) only [rUz,t3]
  ·rw [hde]; simp (disch:=first|omega|decide) only [rUz,t5]
  ·simp (disch:=first|omega|decide) only [rUz]
  ·simp (disch:=first|omega|decide) only [rUz,Int.natCast_zero]
 clear t2 t3 t5 hb2h hb3h hkp hkg
 clear t h
 intro j t h ⟨hkp,t2,t3,t5,t6,t7,hj,hv2⟩ K2 hn' he2
 have l6:=iv_len (hl.mono hkp)
 repeat refine S.seq ?_
 refine S.region ?_
 simp (disch:=first|omega|decide) only [rUz,t6,t7,l6]
 repeat refine S.seq ?_
 refine S.cond (v:=decide ((j:Int) < (l.length:Int))) (by first|rfl|(simp (disch:=first|omega|decide) only [rUz,↓reduceIte,Nat.reduceEqDiff,Nat.reduceAdd] <;> rfl)) (fun e=>?_) (fun e=>?_)
 rotate_left
 ·have hjn:j = l.length:=by have:=of_decide_eq_false e; omega
  subst hjn
  rw [List.drop_of_length_le (Nat.le_refl _)] at hv2
  have hv3:posL l = true:=hv2
  rw [hv3,Bool.true_and] at hval
  refine S.exit (he2 _ _ _ _ (fun e=>by cases e) ?_)
  simp (disch:=first|omega|decide) only [rUz]
  repeat refine S.seq ?_
  refine S.region ?_
  simp (disch:=first|omega|decide) only [rUz,t5]
  refine hn (k + 1) _ _ (by omega) ⟨hkpg.trans hkp,?_,?_,?_,by omega,by rw [hval,Int.natCast_add,Int.natCast_one]⟩
  ·simp (disch:=first|omega|decide) only [rUz,t2]
  ·simp (disch:=first|omega|decide) only [rUz,t3]
  ·subst hde; simp (disch:=first|omega|decide) only [rUz]
 have hjn:j < l.length:=by have:=of_decide_eq_true e; omega
 clear e
 obtain ⟨bl,fl,rl,q1,q2,q3,q4⟩:=(hl.mono hkp).idx slI s3' hjn
 rw [List.drop_eq_getElem_cons hjn] at hv2
 unfold posL at hv2
 rw [List.all_cons] at hv2
 generalize l[j] = x at q4 hv2
 repeat refine S.seq ?_
 refine S.skip ?_
 simp (disch:=first|omega|decide) only [rUz]
 repeat refine S.seq ?_
 refine S.block ?_
 repeat refine S.seq ?_
 refine S.region ?_
 simp (disch:=first|omega|decide) only [rUz,t6,t7,q1,q3,q4,p3]
 cases hx:decide (x < 0) with
 | true =>
  rw [hx,Bool.not_true,Bool.false_and] at hv2
  have hv3:posL l = false:=hv2
  rw [hv3,Bool.false_and] at hval
  repeat refine S.seq ?_
  refine S.cond (v:=true) (by first|rfl|(simp (disch:=first|omega|decide) only [rUz,↓reduceIte,Nat.reduceEqDiff,Nat.reduceAdd,hx] <;> rfl)) (fun _=>?_) (fun e=>by cases e)
  repeat refine S.seq ?_
  refine S.region ?_
  simp (disch:=first|omega|decide) only [rUz]
  refine S.ret ?_
  simp only [seqK_ret,blockK_ret]
  refine he2 _ _ _ _ (fun e=>by cases e) ?_
  simp only [seqK_ret,blockK_ret]
  refine he _ _ _ _ (fun e=>by cases e) ?_
  simp only [seqK_ret,blockK_ret]
  subst hF
  simp only [finish,endMarks]
  rw [show Tryz.f10.results.toList = [.tmp 4] from rfl]
  simp (disch:=omega) only [resA,ev_tmp,tget_ne,tget_eq,result1]
  rw [hval] at hK1
  exact hK1 _ (hkpg.trans hkp)
 | false =>
  rw [hx,Bool.not_false,Bool.true_and] at hv2
  repeat refine S.seq ?_
  refine S.cond (v:=false) (by first|rfl|(simp (disch:=first|omega|decide) only [rUz,↓reduceIte,Nat.reduceEqDiff,Nat.reduceAdd,hx] <;> rfl)) (fun e=>by cases e) (fun _=>?_)
  repeat refine S.seq ?_
  refine S.skip ?_
  simp (disch:=first|omega|decide) only [rUz]
  repeat refine S.seq ?_
  refine S.region ?_
  simp (disch:=first|omega|decide) only [rUz,t7]
  refine hn' (j + 1) _ _ (by omega) ⟨hkp,?_,?_,?_,?_,?_,by omega,hv2⟩
  all_goals (first|rfl|(simp (disch:=first|omega|decide) only [rUz,t2,t3,t5,t6,t7]; done)|(simp (disch:=first|omega|decide) only [rUz,t2,t3,t5,t6,t7]; rfl))

theorem bcU (q q':Option Addr) (n n' m m':Nat):rBuild Tryz.prog 50 [(0,.slice q n m),(1,.slice q' n' m')] = some (.agg ⟨[.slice q n m,.slice q' n' m']⟩):=by kernel_rfl
theorem pcU2 (x y:Value):partL Tryz.prog 50 [x,y] 0 = some (.agg ⟨[x,y]⟩):=part_0 (l:=[x,y]) pcU rfl
theorem veq_slice {h:AHeap} {v:Value} {l:List Int} (k:SlAt h 1 v (l.map fun n=>[iv n])):veq v v = true:=veq_row k
set_option maxHeartbeats 8000000 in
theorem truth_y (S:Ev.Steps Tryz.prog pr R) (hoff:Off pr) (h0:AHeap) (ua ub:Value) (a b:List Int) (hua:SlAt h0 1 ua (a.map fun n=>[iv n])) (hub:SlAt h0 1 ub (b.map fun n=>[iv n])) (hla:a.length ≤ 1000) (hlb:b.length ≤ 1000) :
  Brings Tryz.prog R 13 [.agg ⟨[ua,ub]⟩] h0 fun u h=>∃ ua' ub',u = .agg ⟨[ua',ub']⟩ ∧ IAt h ua' a ∧ IAt h ub' b:=by
 refine brings_of (fn:=Tryz.f13) (c:=(Tryz.f13.body).getD .skip) (by kernel_rfl) rfl (by kernel_rfl) rfl (fun K hK=>?_)
 generalize hF:finish Tryz.prog Tryz.f13 K = KF
 simp only [Tryz.f13,Option.getD_some,argsT,setArgs,fV1_eq,T.setK_eq,id]
 repeat refine S.seq ?_
 refine S.region ?_
 simp (disch:=first|omega|decide) only [rUz,wr_alloc zcU]
 obtain ⟨B2,hB2⟩:∃ x,x = h0.nx + 1:=⟨_,rfl⟩
 obtain ⟨B1,hB1⟩:∃ x,x = h0.nx:=⟨_,rfl⟩
 have hb1:((h0.add [ua,ub]).add [nl,nl]).bl.get B1 = some (.cells [ua,ub] B1 false):=by rw [ag_ne (by show B1 ≠ h0.nx + 1; omega)]; subst hB1; exact ag_eq rfl
 have hb2:((h0.add [ua,ub]).add [nl,nl]).bl.get B2 = some (.cells [nl,nl] B2 false):=by subst hB2; exact ag_eq rfl
 have hf2:((h0.add [ua,ub]).add [nl,nl]).fams.get B2 = some [B2]:=by subst hB2; exact af_eq rfl
 have hk1:Kp h0 ((h0.add [ua,ub]).add [nl,nl]):=Kp.refl.add.add
 have hn2:B2 < ((h0.add [ua,ub]).add [nl,nl]).nx:=by show B2 < h0.nx + 2; omega
 have hle:h0.nx ≤ B2:=by omega
 have hne:B1 < B2:=by omega
 rw [← hB2,← hB1]
 generalize (h0.add [ua,ub]).add [nl,nl] = H at hb1 hb2 hf2 hk1 hn2 ⊢
 clear hB1 hB2
 have hve:veq ub ub = true:=veq_slice hub
 repeat refine S.seq ?_
 refine S.drawnL [(false,0),(false,1),(true,3),(false,0),(false,8),(true,31),(false,63),(true,127)] (by kernel_rfl) (by kernel_rfl) (by kernel_rfl) ?_
 simp (disch:=first|omega|decide) only [rUz,rDz,infoL,Nat.reduceSub,hb1,fieldAddr_ptr frU0 lI,qI]
 refine draw_pick' rfl ?_
 simp (disch:=first|omega|decide) only [rUz,rDz,infoL,Nat.reduceSub,hb1,fieldAddr_ptr frU1 lI,qI]
 refine draw_pick' rfl ?_
 simp (disch:=first|omega|decide) only [rUz,rDz,infoL,Nat.reduceSub,hb1,fieldAddr_ptr frU1 lI,qI]
 refine drW_brings (fid:=29) (first:=#[]) (captured:=#[]) (Post:=fun u h=>INew H.nx h u a) rfl (hoff _ _ _ rfl) (by simp (disch:=first|omega|decide) only [rUz]; exact list_y S _ ua a (SlAt.mono hua hk1) hla) (Nat.le_of_ble_eq_true rfl) ?_
 rintro va g hkg hia
 have hb1g:=(hkg.get (by omega:B1 < H.nx)).trans hb1
 refine ⟨?_,?_⟩
 ·try simp (disch:=first|decide|rfl) only [again_nil,again_skip,again_free]
  rw [again_same (v:=ub) (by simp (disch:=first|omega|decide) only [rUz,rDz,infoL,Nat.reduceSub,hb1g,fieldAddr_ptr frU1 lI,qI]) (by first|assumption|exact veq_int|rfl)]
  try simp (disch:=first|decide|rfl) only [again_nil,again_skip,again_free]
 simp (disch:=first|omega|decide) only [rUz,rDz,infoL,Nat.reduceSub]
 refine drW_brings (fid:=29) (first:=#[]) (captured:=#[]) (Post:=fun u h=>INew g.nx h u b) rfl (hoff _ _ _ rfl) (by simp (disch:=first|omega|decide) only [rUz]; exact list_y S _ ub b (SlAt.mono hub (hk1.trans hkg)) hlb) (Nat.le_of_ble_eq_true rfl) ?_
 rintro vb g2 hkg2 hib
 refine ⟨?_,?_⟩
 ·try simp (disch:=first|decide|rfl) only [again_nil,again_skip,again_free]
 have hia2:=hia.kp hkg2
 have hk3:=hkg.trans hkg2
 have hb23:=(hk3.get hn2).trans hb2
 have hf23:=(hk3.fget hn2).trans hf2
 have hgn:=hkg.1
 obtain ⟨x1,f1,rfl,y1⟩:=hia2
 obtain ⟨x2,f2,rfl,y2⟩:=hib
 simp (disch:=first|omega|decide) only [rUz,rDz,infoL,Nat.reduceSub,rd_build,List.map_cons,List.map_nil,bcU]
 refine drW_giveN (aw_storeN (B:=B2) (ls:=[.slice (some ⟨x1,0,none⟩) a.length a.length,.slice (some ⟨x2,0,none⟩) b.length b.length]) (by simp (disch:=first|omega|decide) only [rUz,rDz,infoL,Nat.reduceSub]) (by simp (disch:=first|omega|decide) only [rUz,rDz,infoL,Nat.reduceSub]) scU (by omega) rfl hb23 hf23 rfl) ?_ ?_
 ·try simp (disch:=first|decide|rfl) only [again_nil,again_skip,again_free]
 simp (disch:=first|omega|decide) only [rUz,rDz,infoL,Nat.reduceSub]
 refine S.ret ?_
 try simp only [seqK_ret,blockK_ret]
 subst hF
 simp only [finish,endMarks]
 rw [show Tryz.f13.results.toList = [.cell 2 50] from rfl]
 simp (disch:=first|omega|decide) only [resA,ev_tmp,tget_ne,tget_eq,get_ne,get_eq,upd_eq,upd_ne,ag_eq,ag_ne,result1,pcU2]
 exact hK _ _ ((hk1.trans hk3).upd hle) ⟨_,_,rfl,(INew.upd (lo:=H.nx) ⟨x1,f1,rfl,y1⟩ hn2).at,(INew.upd (lo:=g.nx) ⟨x2,f2,rfl,y2⟩ (by omega)).at⟩
end Go.Proofs.Cp
