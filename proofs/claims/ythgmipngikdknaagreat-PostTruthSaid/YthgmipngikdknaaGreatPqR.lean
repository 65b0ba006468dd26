import Derived.Test.YthgmipngikdknaaGreatPqQ
import Derived.Test.YthgmipngikdknaaGreatPfA
/- PostTruth. -/
namespace Go.Proofs.Po
open Nat (reduceEqDiff reduceAdd reduceSub)
open Go Go.Ev Go.RowKit
set_option linter.unusedSimpArgs false
variable {pr:Prim} {R:ExT}
structure ICtr (O:List Od) (n:Nat) (G:AHeap) (B1:Nat) (v w fv mv sv tv:Value) (mk:Int) (i:Nat) (t:T Value) (h:AHeap):Prop where
 kp:Kp G h
 ex:∃ k:Nat,(tZ O).drop k = tY O (O.drop i) i ∧ k ≤ (tZ O).length ∧ tget t 15 = iv (k:Int)
 t2:tget t 2 = u8v mk
 t3:tget t 3 = bG B1
 t7:tget t 7 = tv
 t8:tget t 8 = w
 t10:tget t 10 = fv
 t11:tget t 11 = mv
 t13:tget t 13 = sv
 t16:tget t 16 = iv (i:Int)
 hi:i ≤ n
theorem sureG_len (O:List Od):∀ (l:List Od) (i:Nat),(tY O l i).length ≤ l.length
 | [],_=>Nat.le_refl _
 | x :: l,i=>by
  have ih:=sureG_len O l (i + 1)
  unfold tY
  cases decide ((bdQ qN O i).1 = x.n) with
  | true=>rw [cond_true,List.length_cons,List.length_cons]; omega
  | false=>rw [cond_false,List.length_cons]; omega
set_option maxRecDepth 100000 in
set_option maxHeartbeats 64000000 in
theorem truth_law (S:Ev.Steps Tryz.prog pr R) (hT:Tab pr) (h0:AHeap) (v:Value) (O:List Od) (hb:PoAt h0 v O) (wv:Value) (ws:List Int) (hw:WdAt h0 wv ws) (hwl:(ws.length:Int) < 9223372036854775808) (mk:Int) (hmk:(Lit.int .u8 mk).wf = true) :
  bD Tryz.prog R 5 [.agg ⟨poV v⟩,wv,u8v mk] h0 fun u _=>u = .bool true:=by
 have hoff:=hT.off
 have hmk8:=wf_u8 hmk
 clear hmk
 refine aW (fn:=Tryz.f5) (c:=(Tryz.f5.body).getD .skip) (by kernel_rfl) rfl (by kernel_rfl) rfl (fun K hK=>?_)
 generalize hF:finish Tryz.prog Tryz.f5 K = KF
 simp only [Tryz.f5,Option.getD_some,bI,aZ,bC,T.setK_eq,id]
 have hKr:∀ g,Kp h0 g → K (.bool true) g = true:=fun g hk=>hK _ _ hk rfl
 clear hK
 have awake:∀ {ops:Array Oper} {n:Nat} {rest:List Oper} {t:T Value} {h:AHeap} {KR:T Value → AHeap → Bool} {dst:Option Tmp},iQ Tryz.prog (bY pr (dB Tryz.prog R)) ops n rest dst t (.bool true) h KR = true →
   wrR Tryz.prog (bY pr (dB Tryz.prog R)) ops n rest (.call ⟨.value (.func 11),#[],#[]⟩) dst t h KR = true:=fun k=>wr_prim (fid:=11) (first:=#[]) (captured:=#[]) (v:=.bool true) rfl (hT.awake _) k
 have tq0:∀ a b:Value,(⟨[a,b]⟩:Array Value)[0]? = some a:=fun _ _=>rfl
 have tq1:∀ a b:Value,(⟨[a,b]⟩:Array Value)[1]? = some b:=fun _ _=>rfl
 have tr0:∀ a b c:Value,(⟨[a,b,c]⟩:Array Value)[0]? = some a:=fun _ _ _=>rfl
 have tr1:∀ a b c:Value,(⟨[a,b,c]⟩:Array Value)[1]? = some b:=fun _ _ _=>rfl
 have tr2':∀ a b c:Value,(⟨[a,b,c]⟩:Array Value)[2]? = some c:=fun _ _ _=>rfl
 have hdd:∀ z:Int,decide (z = z) = true:=fun z=>decide_eq_true rfl
 repeat refine S.seq ?_
 refine S.region ?_
 simp (disch:=first|omega|simp only [aA,aB]<;>omega|decide) only [rUz,↓reduceIte,reduceEqDiff,reduceAdd]
 have hb1:(h0.add (poV v)).bl.get h0.nx = some (.cells (poV v) h0.nx false):=aP rfl
 have hn1:h0.nx < (h0.add (poV v)).nx:=Nat.lt_succ_self _
 have hk1:Kp h0 (h0.add (poV v)):=Kp.refl.add
 generalize h0.add (poV v) = H at hb1 hn1 hk1 ⊢
 generalize h0.nx = B1 at hb1 hn1 ⊢
 repeat refine S.seq ?_
 refine S.region ?_
 simp (disch:=first|omega|simp only [aA,aB]<;>omega|decide) only [rUz,↓reduceIte,reduceEqDiff,reduceAdd,hb1,bP pA (dC v)]
 refine aV (fid:=28) (first:=#[]) (captured:=#[]) (Post:=fun u _=>u = .bool (readyB O)) rfl (hoff _ _ _ rfl) (by simp (disch:=first|omega|simp only [aA,aB]<;>omega|decide) only [rUz,↓reduceIte,reduceEqDiff,reduceAdd]; exact ready_y S hoff H v O (hb.mono hk1)) ?_
 rintro u g hkg rfl
 replace hb1:=(hkg.get hn1).trans hb1
 replace hn1:=Nat.lt_of_lt_of_le hn1 hkg.1
 replace hk1:=hk1.trans hkg
 clear hkg
 clear H
 cases hre:readyB O with
 | false =>
  simp (disch:=first|omega|simp only [aA,aB]<;>omega|decide) only [rUz,↓reduceIte,reduceEqDiff,reduceAdd,dR,hre,Bool.not_false]
  repeat refine S.seq ?_
  refine S.cond (v:=true) (by first|rfl|(simp (disch:=first|omega|simp only [aA,aB]<;>omega|decide) only [rUz,↓reduceIte,reduceEqDiff,reduceAdd]<;>rfl)) (fun _=>?_) (fun e=>by cases e)
  repeat refine S.seq ?_
  refine S.region ?_
  simp (disch:=first|omega|simp only [aA,aB]<;>omega|decide) only [rUz,↓reduceIte,reduceEqDiff,reduceAdd]
  refine awake ?_
  simp (disch:=first|omega|simp only [aA,aB]<;>omega|decide) only [rUz,↓reduceIte,reduceEqDiff,reduceAdd]
  refine S.ret ?_
  try simp only [aI,aF]
  subst hF
  simp only [finish,aJ]
  rw [show Tryz.f5.results.toList = [.tmp 6] from rfl]
  simp (disch:=first|omega|simp only [aA,aB]<;>omega|decide) only [bH,aY,aQ,aS,aT,aU,aO,upd_ne,aP,aX,result1]
  exact hKr _ hk1
 | true =>
 have hv:Val O:=by
  unfold readyB at hre
  rw [Bool.and_eq_true] at hre
  exact kW.1 (of_decide_eq_true hre.2)
 have h6:=hv.l6
 have h1O:=hv.l1
 simp (disch:=first|omega|simp only [aA,aB]<;>omega|decide) only [rUz,↓reduceIte,reduceEqDiff,reduceAdd,dR,hre,Bool.not_true]
 repeat refine S.seq ?_
 refine S.cond (v:=false) (by first|rfl|(simp (disch:=first|omega|simp only [aA,aB]<;>omega|decide) only [rUz,↓reduceIte,reduceEqDiff,reduceAdd]<;>rfl)) (fun e=>by cases e) (fun _=>?_)
 repeat refine S.seq ?_
 refine S.skip ?_
 simp (disch:=first|omega|simp only [aA,aB]<;>omega|decide) only [rUz,↓reduceIte,reduceEqDiff,reduceAdd]
 repeat refine S.seq ?_
 refine S.region ?_
 simp (disch:=first|omega|simp only [aA,aB]<;>omega|decide) only [rUz,↓reduceIte,reduceEqDiff,reduceAdd,hb1,bP pA (dC v)]
 refine aV (fid:=29) (first:=#[]) (captured:=#[]) (Post:=fun u h=>∃ t0,IS h u t0 ∧ fJ O t0 = true) rfl (hoff _ _ _ rfl) (by simp (disch:=first|omega|simp only [aA,aB]<;>omega|decide) only [rUz,↓reduceIte,reduceEqDiff,reduceAdd]; exact picked_y S hoff g v O (hb.mono hk1) hv wv ws (hw.mono hk1) hwl) ?_
 rintro tv g1 hkg1 ⟨ns,hns,htr⟩
 replace hb1:=(hkg1.get hn1).trans hb1
 replace hn1:=Nat.lt_of_lt_of_le hn1 hkg1.1
 replace hk1:=hk1.trans hkg1
 clear hkg1
 clear g
 have htru:=rD hv htr
 have hnl:ns.length = O.length:=htru.len
 simp (disch:=first|omega|simp only [aA,aB]<;>omega|decide) only [rUz,↓reduceIte,reduceEqDiff,reduceAdd]
 repeat refine S.seq ?_
 refine S.region ?_
 simp (disch:=first|omega|simp only [aA,aB]<;>omega|decide) only [rUz,↓reduceIte,reduceEqDiff,reduceAdd,hb1,bP pA (dC v)]
 refine aV (fid:=13) (first:=#[]) (captured:=#[]) (Post:=fun u h=>∃ v',u = .agg ⟨poV v'⟩ ∧ PoAt h v' O) rfl (hoff _ _ _ rfl) (by simp (disch:=first|omega|simp only [aA,aB]<;>omega|decide) only [rUz,↓reduceIte,reduceEqDiff,reduceAdd]; exact rC S hoff g1 v O (hb.mono hk1) (by omega)) ?_
 rintro u g2 hkg2 ⟨v2,rfl,hb2⟩
 simp (disch:=first|omega|simp only [aA,aB]<;>omega|decide) only [rUz,↓reduceIte,reduceEqDiff,reduceAdd]
 refine aV (fid:=31) (first:=#[]) (captured:=#[]) (Post:=fun u h=>IAt h u ns) rfl (hoff _ _ _ rfl) (by simp (disch:=first|omega|simp only [aA,aB]<;>omega|decide) only [rUz,↓reduceIte,reduceEqDiff,reduceAdd]; exact list_y S g2 tv ns (hns.mono hkg2) (by omega)) ?_
 rintro tv2 g3 hkg3 ht2
 simp (disch:=first|omega|simp only [aA,aB]<;>omega|decide) only [rUz,↓reduceIte,reduceEqDiff,reduceAdd]
 refine aV (fid:=30) (first:=#[]) (captured:=#[]) (Post:=fun u h=>PlayAt O ns u h) rfl (hoff _ _ _ rfl) (by simp (disch:=first|omega|simp only [aA,aB]<;>omega|decide) only [rUz,↓reduceIte,reduceEqDiff,reduceAdd]; exact play_y S hoff g3 v2 tv2 O ns (hb2.mono hkg3) ht2 (by omega)) ?_
 rintro u g4 hkg4 hpl
 have hkg24:=(hkg2.trans hkg3).trans hkg4
 have hfT:tH O ns = 0:=by rw [tH,decide_eq_true (kW.2 hv),htr]; rfl
 obtain ⟨w,rfl,hs⟩:∃ w,u = .tuple ⟨[w,iv 0]⟩ ∧ SlAt g4 4 w ((dG O ns).2.map cSa):=by
  rcases hpl with ⟨_,w,e,hs,_⟩|⟨hz,_⟩
  ·exact ⟨w,e,hs⟩
  ·exact absurd hfT hz
 clear hpl
 simp (disch:=first|omega|simp only [aA,aB]<;>omega|decide) only [rUz,↓reduceIte,reduceEqDiff,reduceAdd,dS,tq0,tq1]
 replace hb1:=(hkg24.get hn1).trans hb1
 replace hn1:=Nat.lt_of_lt_of_le hn1 hkg24.1
 replace hk1:=hk1.trans hkg24
 replace hns:=hns.mono hkg24
 have h6s:=sales_six hv htru
 have hso:=sales_saok hv htru
 clear hkg2 hkg3 hkg4 hkg24 hb2 ht2 hfT
 clear g1
 repeat refine S.seq ?_
 refine S.region ?_
 simp (disch:=first|omega|simp only [aA,aB]<;>omega|decide) only [rUz,↓reduceIte,reduceEqDiff,reduceAdd,hb1,bP pA (dC v)]
 refine aV (fid:=13) (first:=#[]) (captured:=#[]) (Post:=fun u h=>∃ v',u = .agg ⟨poV v'⟩ ∧ PoAt h v' O) rfl (hoff _ _ _ rfl) (by simp (disch:=first|omega|simp only [aA,aB]<;>omega|decide) only [rUz,↓reduceIte,reduceEqDiff,reduceAdd]; exact rC S hoff g4 v O (hb.mono hk1) (by omega)) ?_
 rintro u g5 hkg5 ⟨v5,rfl,hb5⟩
 simp (disch:=first|omega|simp only [aA,aB]<;>omega|decide) only [rUz,↓reduceIte,reduceEqDiff,reduceAdd]
 refine aV (fid:=12) (first:=#[]) (captured:=#[]) (Post:=FillsAt O) rfl (hoff _ _ _ rfl) (by simp (disch:=first|omega|simp only [aA,aB]<;>omega|decide) only [rUz,↓reduceIte,reduceEqDiff,reduceAdd]; exact fills_y S hoff g5 v5 O hb5 (by omega)) ?_
 rintro u g6 hkg6 hf
 obtain ⟨fv,mv,rfl,hff,hmm⟩:∃ f m,u = .tuple ⟨[f,m,iv 0]⟩ ∧ SlAt g6 2 f ((rowsQ qN O).map c2) ∧ SlAt g6 2 m ((rowsQ qM O).map c2):=by
  rcases hf with ⟨_,f,m,e,h1,h2⟩|⟨hz,_⟩
  ·exact ⟨f,m,e,h1,h2⟩
  ·exact absurd (kW.2 hv) hz
 clear hf
 have hk46:=hkg5.trans hkg6
 simp (disch:=first|omega|simp only [aA,aB]<;>omega|decide) only [rUz,↓reduceIte,reduceEqDiff,reduceAdd,dS,tr0,tr1,tr2']
 replace hb1:=(hk46.get hn1).trans hb1
 replace hn1:=Nat.lt_of_lt_of_le hn1 hk46.1
 replace hk1:=hk1.trans hk46
 replace hns:=hns.mono hk46
 replace hs:=SlAt.mono hs hk46
 clear hkg5 hkg6 hb5 hk46
 clear g4 g5
 repeat refine S.seq ?_
 refine S.region ?_
 simp (disch:=first|omega|simp only [aA,aB]<;>omega|decide) only [rUz,↓reduceIte,reduceEqDiff,reduceAdd,hb1,bP pA (dC v)]
 refine aV (fid:=13) (first:=#[]) (captured:=#[]) (Post:=fun u h=>∃ v',u = .agg ⟨poV v'⟩ ∧ PoAt h v' O) rfl (hoff _ _ _ rfl) (by simp (disch:=first|omega|simp only [aA,aB]<;>omega|decide) only [rUz,↓reduceIte,reduceEqDiff,reduceAdd]; exact rC S hoff g6 v O (hb.mono hk1) (by omega)) ?_
 rintro u g7 hkg7 ⟨v7,rfl,hb7⟩
 simp (disch:=first|omega|simp only [aA,aB]<;>omega|decide) only [rUz,↓reduceIte,reduceEqDiff,reduceAdd]
 refine aV (fid:=14) (first:=#[]) (captured:=#[]) (Post:=SureAt O) rfl (hoff _ _ _ rfl) (by simp (disch:=first|omega|simp only [aA,aB]<;>omega|decide) only [rUz,↓reduceIte,reduceEqDiff,reduceAdd]; exact surely_y S hoff g7 v7 O hb7 (by omega)) ?_
 rintro u g8 hkg8 hf
 obtain ⟨sv,rfl,hsu⟩:∃ f,u = .tuple ⟨[f,iv 0]⟩ ∧ IS g8 f (tZ O):=by
  rcases hf with ⟨_,f,e,h1⟩|⟨hz,_⟩
  ·exact ⟨f,e,h1⟩
  ·exact absurd (kW.2 hv) hz
 clear hf
 have hk68:=hkg7.trans hkg8
 simp (disch:=first|omega|simp only [aA,aB]<;>omega|decide) only [rUz,↓reduceIte,reduceEqDiff,reduceAdd,dS,tq0,tq1]
 replace hb1:=(hk68.get hn1).trans hb1
 replace hn1:=Nat.lt_of_lt_of_le hn1 hk68.1
 replace hk1:=hk1.trans hk68
 replace hns:=hns.mono hk68
 replace hs:=SlAt.mono hs hk68
 replace hff:=SlAt.mono hff hk68
 replace hmm:=SlAt.mono hmm hk68
 clear hkg7 hkg8 hb7 hk68
 clear g6 g7
 have hbn:=fun i=>bd_in hv qN i htr
 have hbm:=fun i=>bd_in hv qM i htr
 have hexp:=fun (L:List Sa) (hL:L.Sublist (dG O ns).2)=>exp_some hv htr hL
 have hprv:∀ L:List Sa,L.Sublist (dG O ns).2 → L.length ≤ 6 → proveZ O ns L = true:=fun L hL h6=>by
  refine prove_exp hv h6 htr ?_
  unfold expZ
  rw [List.all_eq_true]
  exact fun s _=>decide_eq_true (cnS_sub s hL)
 generalize hMq:(dG O ns).2 = M at hs h6s hso hbn hbm hexp hprv
 have lT:∀ (t:T Value) (h1:AHeap) (o:Oper),pK Tryz.prog t h1 o 35 tv = some (iv (O.length:Int)):=fun t h1 o=>by rw [o7 hns.at t h1 o,hnl]
 have ls:=fun t h1 o=>dI hs iscS t h1 o
 have lf:=fun t h1 o=>dI hff isRg t h1 o
 have lm:=fun t h1 o=>dI hmm isRg t h1 o
 have lSu:=fun t h1 o=>o7 hsu.at t h1 o
 have lO:=fun t h1 o=>dI (hb.mono hk1) isrO t h1 o
 rw [rowsQ_len] at lf lm
 have h40:decide (40 < (M.length:Int)) = false:=decide_eq_false (by omega)
 repeat refine S.seq ?_
 refine S.region ?_
 simp (disch:=first|omega|simp only [aA,aB]<;>omega|decide) only [rUz,↓reduceIte,reduceEqDiff,reduceAdd,hdd,decide_true,Bool.not_true,ls,lf,lm,lT,h40]
 repeat refine S.seq ?_
 refine S.cond (v:=false) (by first|rfl|(simp (disch:=first|omega|simp only [aA,aB]<;>omega|decide) only [rUz,↓reduceIte,reduceEqDiff,reduceAdd]<;>rfl)) (fun e=>by cases e) (fun _=>?_)
 repeat refine S.seq ?_
 refine S.skip ?_
 simp (disch:=first|omega|simp only [aA,aB]<;>omega|decide) only [rUz,↓reduceIte,reduceEqDiff,reduceAdd]
 repeat refine S.seq ?_
 refine S.region ?_
 simp (disch:=first|omega|simp only [aA,aB]<;>omega|decide) only [rUz,↓reduceIte,reduceEqDiff,reduceAdd]
 repeat refine S.seq ?_
 refine S.region ?_
 simp (disch:=first|omega|simp only [aA,aB]<;>omega|decide) only [rUz,↓reduceIte,reduceEqDiff,reduceAdd]
 repeat refine S.seq ?_
 refine S.block ?_
 refine S.loop (ι:=Nat) (ICtr O O.length g8 B1 v w fv mv sv tv mk) (fun k=>O.length - k) ?_ 0 _ _ ?_
 rotate_left
 ·refine ⟨Kp.refl,⟨0,rfl,Nat.zero_le _,?_⟩,?_,?_,?_,?_,?_,?_,?_,?_,Nat.zero_le _⟩
  all_goals (first|rfl|(simp (disch:=first|omega|simp only [aA,aB]<;>omega|decide) only [rUz,↓reduceIte,reduceEqDiff,reduceAdd]<;>rfl))
 intro i t h ⟨kpa,⟨k,hdr,hkl,t15⟩,t2,t3,t7,t8,t10,t11,t13,t16,hi⟩ K' hn he
 have hb1h:=(kpa.get hn1).trans hb1
 have hn1h:=Nat.lt_of_lt_of_le hn1 kpa.1
 repeat refine S.seq ?_
 refine S.region ?_
 simp (disch:=first|omega|simp only [aA,aB]<;>omega|decide) only [rUz,↓reduceIte,reduceEqDiff,reduceAdd,t7,t16,lT]
 repeat refine S.seq ?_
 refine S.cond (v:=decide ((i:Int) < (O.length:Int))) (by first|rfl|(simp (disch:=first|omega|simp only [aA,aB]<;>omega|decide) only [rUz,↓reduceIte,reduceEqDiff,reduceAdd]<;>rfl)) (fun e=>?_) (fun e=>?_)
 ·have hin:i < O.length:=by have:=of_decide_eq_true e; omega
  clear e
  have hps:O[i]? = some O[i]:=List.getElem?_eq_getElem hin
  rw [List.drop_eq_getElem_cons hin] at hdr
  simp only [tY] at hdr
  generalize O[i] = x at hps hdr
  repeat refine S.seq ?_
  refine S.skip ?_
  simp (disch:=first|omega|simp only [aA,aB]<;>omega|decide) only [rUz,↓reduceIte,reduceEqDiff,reduceAdd]
  repeat refine S.seq ?_
  refine S.block ?_
  repeat refine S.seq ?_
  refine S.region ?_
  simp (disch:=first|omega|simp only [aA,aB]<;>omega|decide) only [rUz,↓reduceIte,reduceEqDiff,reduceAdd,t8]
  refine aV (fid:=33) (first:=#[]) (captured:=#[]) (Post:=fun u h=>SlAt h 4 u (M.map cSa)) rfl (hoff _ _ _ rfl) (by simp (disch:=first|omega|simp only [aA,aB]<;>omega|decide) only [rUz,↓reduceIte,reduceEqDiff,reduceAdd]; exact back_y S h w M (SlAt.mono hs kpa) (by omega)) ?_
  rintro u8 g9 hkg9 hs8
  simp (disch:=first|omega|simp only [aA,aB]<;>omega|decide) only [rUz,↓reduceIte,reduceEqDiff,reduceAdd,t16]
  refine aV (fid:=32) (first:=#[]) (captured:=#[]) (Post:=fun u h=>u = .tuple ⟨[iv (fnZ (i:Int) M),iv (fmZ (i:Int) M)]⟩ ∧ g9 = h) rfl (hoff _ _ _ rfl) (by simp (disch:=first|omega|simp only [aA,aB]<;>omega|decide) only [rUz,↓reduceIte,reduceEqDiff,reduceAdd]; exact filled_y S g9 u8 M (i:Int) hs8 hso (by omega)) ?_
  rintro u9 g10 - ⟨rfl,rfl⟩
  simp (disch:=first|omega|simp only [aA,aB]<;>omega|decide) only [rUz,↓reduceIte,reduceEqDiff,reduceAdd,dS,tq0,tq1]
  have kpg:=kpa.trans hkg9
  have hrN:=rowsQ_get (q:=qN) hin
  have hrM:=rowsQ_get (q:=qM) hin
  have hiN:=hbn i
  have hiM:=hbm i
  rw [show fqZ qN (i:Int) M = fnZ (i:Int) M from fqZ_n _ _] at hiN
  rw [show fqZ qM (i:Int) M = fmZ (i:Int) M from fqZ_m _ _] at hiM
  generalize bdQ qN O i = rN at hrN hiN hdr
  generalize bdQ qM O i = rM at hrM hiM
  obtain ⟨b1,f1,o1,e1,u1,u2,u3,u4,u5,u6⟩:=dH (SlAt.mono hff kpg) slRg scR hrN
  obtain ⟨b2,f2,o2,e2,w1,w2,w3,w4,w5,w6⟩:=dH (SlAt.mono hmm kpg) slRg scR hrM
  have x0:=u6 0 _ (c20 rN)
  have x1:=u6 1 _ (c21 rN)
  have y0:=w6 0 _ (c20 rM)
  have y1:=w6 1 _ (c21 rM)
  rw [Nat.add_zero] at x0 y0
  have d1:decide (fnZ (i:Int) M < rN.1) = false:=decide_eq_false (by omega)
  have d2:decide (rN.2 < fnZ (i:Int) M) = false:=decide_eq_false (by omega)
  have d3:decide (fmZ (i:Int) M < rM.1) = false:=decide_eq_false (by omega)
  have d4:decide (rM.2 < fmZ (i:Int) M) = false:=decide_eq_false (by omega)
  clear hiN hiM
  repeat refine S.seq ?_
  refine S.region ?_
  simp (disch:=first|omega|simp only [aA,aB]<;>omega|decide) only [rUz,↓reduceIte,reduceEqDiff,reduceAdd,t10,t11,t16,u1,u3,w1,w3,aC fcR0 s3,aC fcR1 s3,p3,x0,x1,y0,y1,d1,d2,d3,d4]
  repeat refine S.seq ?_
  refine S.cond (v:=false) (by first|rfl|(simp (disch:=first|omega|simp only [aA,aB]<;>omega|decide) only [rUz,↓reduceIte,reduceEqDiff,reduceAdd]<;>rfl)) (fun e=>by cases e) (fun _=>?_)
  repeat refine S.seq ?_
  refine S.skip ?_
  simp (disch:=first|omega|simp only [aA,aB]<;>omega|decide) only [rUz,↓reduceIte,reduceEqDiff,reduceAdd]
  obtain ⟨b3,f3,o3,e3,v1,v2',v3,v4,v5',v6⟩:=dH (hb.mono (hk1.trans kpg)) slrO srO hps
  have z2:=v6 2 _ (cOd2 x)
  have hb1g:=(hkg9.get hn1h).trans hb1h
  repeat refine S.seq ?_
  refine S.drawnL [(false,0),(false,0),(false,3),(false,7),(false,15),(false,0),(false,32),(false,0),(false,224),(false,480),(false,992),(false,2047)] (by kernel_rfl) (by kernel_rfl) (by kernel_rfl) ?_
  simp (disch:=first|omega|simp only [aA,aB]<;>omega|decide) only [rUz,↓reduceIte,reduceEqDiff,reduceAdd,rDz,infoL,reduceSub,t3,t10,t16,u1,u3,aC fcR0 s3,p3,x0,hb1g,aC fA0 lrO,qrO,po0,v1,v3,aC frO2 s3,z2]
  cases hq:decide (rN.1 = x.n) with
  | true =>
   rw [hq,cond_true] at hdr
   obtain ⟨hk3,hk4⟩:=uZ hdr.symm
   have hklt:k < (tZ O).length:=(List.getElem?_eq_some_iff.1 hk3).1
   have hk6:(tZ O).length ≤ 6:=Nat.le_trans (sureG_len O O 0) h6
   obtain ⟨rb,rf,ro,r1,r2,r3,r4⟩:=(hsu.at.mono kpg).idx slI s3' (i:=k) hklt
   have hk5:(tZ O)[k] = (i:Int):=(List.getElem?_eq_some_iff.1 hk3).2
   rw [hk5] at r4
   have d5:decide (((tZ O).length:Int) ≤ (k:Int)) = false:=decide_eq_false (by omega)
   repeat refine S.seq ?_
   refine S.cond (v:=true) (by first|rfl|(simp (disch:=first|omega|simp only [aA,aB]<;>omega|decide) only [rUz,↓reduceIte,reduceEqDiff,reduceAdd,hq]<;>rfl)) (fun _=>?_) (fun e=>by cases e)
   repeat refine S.seq ?_
   refine S.region ?_
   simp (disch:=first|omega|simp only [aA,aB]<;>omega|decide) only [rUz,↓reduceIte,reduceEqDiff,reduceAdd,t13,t15,t16,lSu,d5,r1,r3,p3,r4,hdd,decide_true,Bool.not_true]
   repeat refine S.seq ?_
   refine S.cond (v:=false) (by first|rfl|(simp (disch:=first|omega|simp only [aA,aB]<;>omega|decide) only [rUz,↓reduceIte,reduceEqDiff,reduceAdd]<;>rfl)) (fun e=>by cases e) (fun _=>?_)
   repeat refine S.seq ?_
   refine S.skip ?_
   simp (disch:=first|omega|simp only [aA,aB]<;>omega|decide) only [rUz,↓reduceIte,reduceEqDiff,reduceAdd]
   repeat refine S.seq ?_
   refine S.region ?_
   simp (disch:=first|omega|simp only [aA,aB]<;>omega|decide) only [rUz,↓reduceIte,reduceEqDiff,reduceAdd,t15]
   repeat refine S.seq ?_
   refine S.region ?_
   simp (disch:=first|omega|simp only [aA,aB]<;>omega|decide) only [rUz,↓reduceIte,reduceEqDiff,reduceAdd,t16]
   refine hn (i + 1) _ _ (by omega) ⟨kpg,⟨k + 1,hk4.symm,by omega,?_⟩,?_,?_,?_,?_,?_,?_,?_,?_,by omega⟩
   all_goals (first|rfl|(simp (disch:=first|omega|simp only [aA,aB]<;>omega|decide) only [rUz,↓reduceIte,reduceEqDiff,reduceAdd,t2,t3,t7,t8,t10,t11,t13]<;>rfl))
  | false =>
   rw [hq,cond_false] at hdr
   repeat refine S.seq ?_
   refine S.cond (v:=false) (by first|rfl|(simp (disch:=first|omega|simp only [aA,aB]<;>omega|decide) only [rUz,↓reduceIte,reduceEqDiff,reduceAdd,hq]<;>rfl)) (fun e=>by cases e) (fun _=>?_)
   repeat refine S.seq ?_
   refine S.skip ?_
   simp (disch:=first|omega|simp only [aA,aB]<;>omega|decide) only [rUz,↓reduceIte,reduceEqDiff,reduceAdd]
   repeat refine S.seq ?_
   refine S.region ?_
   simp (disch:=first|omega|simp only [aA,aB]<;>omega|decide) only [rUz,↓reduceIte,reduceEqDiff,reduceAdd,t16]
   refine hn (i + 1) _ _ (by omega) ⟨kpg,⟨k,hdr,hkl,?_⟩,?_,?_,?_,?_,?_,?_,?_,?_,by omega⟩
   all_goals (first|rfl|(simp (disch:=first|omega|simp only [aA,aB]<;>omega|decide) only [rUz,↓reduceIte,reduceEqDiff,reduceAdd,t2,t3,t7,t8,t10,t11,t13,t15]<;>rfl))
 have hin:i = O.length:=by have:=of_decide_eq_false e; omega
 subst hin
 rw [List.drop_of_length_le (Nat.le_refl _)] at hdr
 have hke:k = (tZ O).length:=by
  have:=congrArg List.length hdr
  rw [List.length_drop] at this
  have e0:(tY O [] O.length).length = 0:=rfl
  omega
 subst hke
 refine S.exit (he _ _ _ _ (fun e=>by cases e) ?_)
 clear hn he K' e lT ls lf lm hdr hkl h40
 simp (disch:=first|omega|simp only [aA,aB]<;>omega|decide) only [rUz,↓reduceIte,reduceEqDiff,reduceAdd]
 have hk1h:=hk1.trans kpa
 repeat refine S.seq ?_
 refine S.region ?_
 simp (disch:=first|omega|simp only [aA,aB]<;>omega|decide) only [rUz,↓reduceIte,reduceEqDiff,reduceAdd,t8]
 refine aV (fid:=33) (first:=#[]) (captured:=#[]) (Post:=fun u h=>SlAt h 4 u (M.map cSa)) rfl (hoff _ _ _ rfl) (by simp (disch:=first|omega|simp only [aA,aB]<;>omega|decide) only [rUz,↓reduceIte,reduceEqDiff,reduceAdd]; exact back_y S h w M (SlAt.mono hs kpa) (by omega)) ?_
 rintro u8 g9 hkg9 hs8
 simp (disch:=first|omega|simp only [aA,aB]<;>omega|decide) only [rUz,↓reduceIte,reduceEqDiff,reduceAdd,t2]
 refine aV (fid:=34) (first:=#[]) (captured:=#[]) (Post:=fun u h=>∃ L:List Sa,SlAt h 4 u (L.map cSa) ∧ L.Sublist M ∧ L.length ≤ 6) rfl (hoff _ _ _ rfl) (by simp (disch:=first|omega|simp only [aA,aB]<;>omega|decide) only [rUz,↓reduceIte,reduceEqDiff,reduceAdd]; exact some_y S g9 u8 M hs8 (by omega) mk hmk8) ?_
 rintro rv g10 hkg10 ⟨L,hL,hsub,hL6⟩
 have hkA:=hkg9.trans hkg10
 have hbA:=(hkA.get hn1h).trans hb1h
 have hnA:=Nat.lt_of_lt_of_le hn1h hkA.1
 have hkA1:=hk1h.trans hkA
 simp (disch:=first|omega|simp only [aA,aB]<;>omega|decide) only [rUz,↓reduceIte,reduceEqDiff,reduceAdd]
 have hlk:=look_0 hv hL6
 have hex:=hexp L hsub
 obtain ⟨tx,hf1,hf2,hf3⟩:=find_some hex
 have htx:=(mV hv).1 tx hf2
 repeat refine S.seq ?_
 refine S.region ?_
 simp (disch:=first|omega|simp only [aA,aB]<;>omega|decide) only [rUz,↓reduceIte,reduceEqDiff,reduceAdd,t3,hbA,bP pA (dC v)]
 refine aV (fid:=13) (first:=#[]) (captured:=#[]) (Post:=fun u h=>∃ v',u = .agg ⟨poV v'⟩ ∧ PoAt h v' O) rfl (hoff _ _ _ rfl) (by simp (disch:=first|omega|simp only [aA,aB]<;>omega|decide) only [rUz,↓reduceIte,reduceEqDiff,reduceAdd]; exact rC S hoff g10 v O (hb.mono hkA1) (by omega)) ?_
 rintro u g11 hkg11 ⟨v11,rfl,hb11⟩
 simp (disch:=first|omega|simp only [aA,aB]<;>omega|decide) only [rUz,↓reduceIte,reduceEqDiff,reduceAdd]
 refine aV (fid:=20) (first:=#[]) (captured:=#[]) (Post:=fun u h=>SlAt h 4 u (L.map cSa)) rfl (hoff _ _ _ rfl) (by simp (disch:=first|omega|simp only [aA,aB]<;>omega|decide) only [rUz,↓reduceIte,reduceEqDiff,reduceAdd]; exact xW S g11 rv L (SlAt.mono hL hkg11) (by omega)) ?_
 rintro w12 g12 hkg12 hs12
 simp (disch:=first|omega|simp only [aA,aB]<;>omega|decide) only [rUz,↓reduceIte,reduceEqDiff,reduceAdd]
 refine aV (fid:=19) (first:=#[]) (captured:=#[]) (Post:=ExAt O L) rfl (hoff _ _ _ rfl) (by simp (disch:=first|omega|simp only [aA,aB]<;>omega|decide) only [rUz,↓reduceIte,reduceEqDiff,reduceAdd]; exact explain_y S hoff g12 v11 w12 O L (hb11.mono hkg12) hs12 (by omega) (by omega)) ?_
 rintro u g13 hkg13 hex13
 obtain ⟨xw,rfl,hxw⟩:∃ w,u = .tuple ⟨[w,iv 0]⟩ ∧ IS g13 w tx:=by
  rcases hex13 with ⟨hz,_⟩|⟨_,t,w,hf,e,hi⟩|⟨_,hf,_⟩
  ·exact absurd hlk hz
  ·rw [hf1] at hf; cases hf; exact ⟨w,e,hi⟩
  ·rw [hf1] at hf; cases hf
 clear hex13
 have hkB:=(hkg11.trans hkg12).trans hkg13
 have hbB:=(hkB.get hnA).trans hbA
 have hnB:=Nat.lt_of_lt_of_le hnA hkB.1
 have hkB1:=hkA1.trans hkB
 simp (disch:=first|omega|simp only [aA,aB]<;>omega|decide) only [rUz,↓reduceIte,reduceEqDiff,reduceAdd,dS,tq0,tq1]
 repeat refine S.seq ?_
 refine S.region ?_
 simp (disch:=first|omega|simp only [aA,aB]<;>omega|decide) only [rUz,↓reduceIte,reduceEqDiff,reduceAdd,t3,hbB,bP pA (dC v)]
 refine aV (fid:=13) (first:=#[]) (captured:=#[]) (Post:=fun u h=>∃ v',u = .agg ⟨poV v'⟩ ∧ PoAt h v' O) rfl (hoff _ _ _ rfl) (by simp (disch:=first|omega|simp only [aA,aB]<;>omega|decide) only [rUz,↓reduceIte,reduceEqDiff,reduceAdd]; exact rC S hoff g13 v O (hb.mono hkB1) (by omega)) ?_
 rintro u g14 hkg14 ⟨v14,rfl,hb14⟩
 simp (disch:=first|omega|simp only [aA,aB]<;>omega|decide) only [rUz,↓reduceIte,reduceEqDiff,reduceAdd]
 refine aV (fid:=20) (first:=#[]) (captured:=#[]) (Post:=fun u h=>SlAt h 4 u (L.map cSa)) rfl (hoff _ _ _ rfl) (by simp (disch:=first|omega|simp only [aA,aB]<;>omega|decide) only [rUz,↓reduceIte,reduceEqDiff,reduceAdd]; exact xW S g14 rv L (SlAt.mono hL (hkB.trans hkg14)) (by omega)) ?_
 rintro w15 g15 hkg15 hs15
 simp (disch:=first|omega|simp only [aA,aB]<;>omega|decide) only [rUz,↓reduceIte,reduceEqDiff,reduceAdd]
 refine aV (fid:=21) (first:=#[]) (captured:=#[]) (Post:=LvAt O L) rfl (hoff _ _ _ rfl) (by simp (disch:=first|omega|simp only [aA,aB]<;>omega|decide) only [rUz,↓reduceIte,reduceEqDiff,reduceAdd]; exact leave_y S hoff g15 v14 w15 O L (hb14.mono hkg15) hs15 (by omega) (by omega)) ?_
 rintro u g16 hkg16 hlv
 obtain ⟨xl,rfl,hxl⟩:∃ w,u = .tuple ⟨[w,iv 0]⟩ ∧ IAt g16 w []:=by
  have hf4:=leave_nil (can_some hex) L.length
  rcases hlv with ⟨hz,_⟩|⟨_,t,w,hf,e,hi⟩|⟨_,hf,_⟩
  ·exact absurd hlk hz
  ·rw [hf4] at hf; cases hf; exact ⟨w,e,hi⟩
  ·rw [hf4] at hf; cases hf
 clear hlv
 have hkC:=(hkg14.trans hkg15).trans hkg16
 have hbC:=(hkC.get hnB).trans hbB
 have hnC:=Nat.lt_of_lt_of_le hnB hkC.1
 have hkC1:=hkB1.trans hkC
 have hLC:=SlAt.mono hL (hkB.trans hkC)
 have hnsC:=hns.mono (((kpa.trans hkA).trans hkB).trans hkC)
 have hxwC:=hxw.mono hkC
 have lX:=fun t h1 o=>o7 hxl t h1 o
 rw [show (([]:List Int).length:Int) = 0 from rfl] at lX
 simp (disch:=first|omega|simp only [aA,aB]<;>omega|decide) only [rUz,↓reduceIte,reduceEqDiff,reduceAdd,dS,tq0,tq1]
 repeat refine S.seq ?_
 refine S.region ?_
 simp (disch:=first|omega|simp only [aA,aB]<;>omega|decide) only [rUz,↓reduceIte,reduceEqDiff,reduceAdd,t3,t7,t13,t15,lSu,hdd,decide_true,hbC,bP pA (dC v)]
 refine aV (fid:=13) (first:=#[]) (captured:=#[]) (Post:=fun u h=>∃ v',u = .agg ⟨poV v'⟩ ∧ PoAt h v' O) rfl (hoff _ _ _ rfl) (by simp (disch:=first|omega|simp only [aA,aB]<;>omega|decide) only [rUz,↓reduceIte,reduceEqDiff,reduceAdd]; exact rC S hoff g16 v O (hb.mono hkC1) (by omega)) ?_
 rintro u g17 hkg17 ⟨v17,rfl,hb17⟩
 simp (disch:=first|omega|simp only [aA,aB]<;>omega|decide) only [rUz,↓reduceIte,reduceEqDiff,reduceAdd,t7]
 refine aV (fid:=31) (first:=#[]) (captured:=#[]) (Post:=fun u h=>IAt h u ns) rfl (hoff _ _ _ rfl) (by simp (disch:=first|omega|simp only [aA,aB]<;>omega|decide) only [rUz,↓reduceIte,reduceEqDiff,reduceAdd]; exact list_y S g17 tv ns (hnsC.mono hkg17) (by omega)) ?_
 rintro tv18 g18 hkg18 ht18
 simp (disch:=first|omega|simp only [aA,aB]<;>omega|decide) only [rUz,↓reduceIte,reduceEqDiff,reduceAdd]
 refine aV (fid:=20) (first:=#[]) (captured:=#[]) (Post:=fun u h=>SlAt h 4 u (L.map cSa)) rfl (hoff _ _ _ rfl) (by simp (disch:=first|omega|simp only [aA,aB]<;>omega|decide) only [rUz,↓reduceIte,reduceEqDiff,reduceAdd]; exact xW S g18 rv L (SlAt.mono hLC (hkg17.trans hkg18)) (by omega)) ?_
 rintro w19 g19 hkg19 hs19
 simp (disch:=first|omega|simp only [aA,aB]<;>omega|decide) only [rUz,↓reduceIte,reduceEqDiff,reduceAdd]
 refine aV (fid:=35) (first:=#[]) (captured:=#[]) (Post:=fun u _=>u = .bool true) rfl (hoff _ _ _ rfl) (by simp (disch:=first|omega|simp only [aA,aB]<;>omega|decide) only [rUz,↓reduceIte,reduceEqDiff,reduceAdd]; exact hprv L hsub hL6 ▸ prove_y S hoff g19 v17 tv18 w19 O ns L (hb17.mono (hkg18.trans hkg19)) (ht18.mono hkg19) hs19 (by omega) (by omega)) ?_
 rintro u g20 hkg20 rfl
 have hkD:=((hkg17.trans hkg18).trans hkg19).trans hkg20
 have hbD:=(hkD.get hnC).trans hbC
 have hkD1:=hkC1.trans hkD
 simp (disch:=first|omega|simp only [aA,aB]<;>omega|decide) only [rUz,↓reduceIte,reduceEqDiff,reduceAdd,hdd,decide_true,t3,hbD,bP pA (dC v)]
 refine aV (fid:=13) (first:=#[]) (captured:=#[]) (Post:=fun u h=>∃ v',u = .agg ⟨poV v'⟩ ∧ PoAt h v' O) rfl (hoff _ _ _ rfl) (by simp (disch:=first|omega|simp only [aA,aB]<;>omega|decide) only [rUz,↓reduceIte,reduceEqDiff,reduceAdd]; exact rC S hoff g20 v O (hb.mono hkD1) (by omega)) ?_
 rintro u g21 hkg21 ⟨v21,rfl,hb21⟩
 simp (disch:=first|omega|simp only [aA,aB]<;>omega|decide) only [rUz,↓reduceIte,reduceEqDiff,reduceAdd]
 refine aV (fid:=20) (first:=#[]) (captured:=#[]) (Post:=fun u h=>SlAt h 4 u (L.map cSa)) rfl (hoff _ _ _ rfl) (by simp (disch:=first|omega|simp only [aA,aB]<;>omega|decide) only [rUz,↓reduceIte,reduceEqDiff,reduceAdd]; exact xW S g21 rv L (SlAt.mono hLC (hkD.trans hkg21)) (by omega)) ?_
 rintro w22 g22 hkg22 hs22
 simp (disch:=first|omega|simp only [aA,aB]<;>omega|decide) only [rUz,↓reduceIte,reduceEqDiff,reduceAdd]
 refine aV (fid:=35) (first:=#[]) (captured:=#[]) (Post:=fun u _=>u = .bool true) rfl (hoff _ _ _ rfl) (by simp (disch:=first|omega|simp only [aA,aB]<;>omega|decide) only [rUz,↓reduceIte,reduceEqDiff,reduceAdd]; exact prove_exp hv hL6 htx hf3 ▸ prove_y S hoff g22 v21 xw w22 O tx L (hb21.mono hkg22) (hxwC.mono ((hkD.trans hkg21).trans hkg22)).at hs22 (by omega) (by omega)) ?_
 rintro u g23 hkg23 rfl
 simp (disch:=first|omega|simp only [aA,aB]<;>omega|decide) only [rUz,↓reduceIte,reduceEqDiff,reduceAdd,hdd,decide_true,lX]
 refine awake ?_
 simp (disch:=first|omega|simp only [aA,aB]<;>omega|decide) only [rUz,↓reduceIte,reduceEqDiff,reduceAdd]
 refine S.ret ?_
 try simp only [aI,aF]
 subst hF
 simp only [finish,aJ]
 rw [show Tryz.f5.results.toList = [.tmp 6] from rfl]
 simp (disch:=first|omega|simp only [aA,aB]<;>omega|decide) only [bH,aY,aQ,aS,aT,aU,aO,upd_ne,aP,aX,result1]
 exact hKr _ (((hkD1.trans hkg21).trans hkg22).trans hkg23)
end Go.Proofs.Po
