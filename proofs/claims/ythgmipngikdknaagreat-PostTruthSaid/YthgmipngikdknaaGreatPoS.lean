import Derived.Test.YthgmipngikdknaaGreatPoR
/- A truth of valid orders, by words. -/
namespace Go.Proofs.Po
open Nat (reduceEqDiff reduceAdd reduceSub)
open Go Go.Ev Go.RowKit
set_option linter.unusedSimpArgs false
variable {pr:Prim} {R:ExT}
theorem ord_part {cells:List Value} {a:Nat} {x:Od} (h4:(cells.drop a).take 5 = cOd x) (h5:Nat.ble (Nat.add a 5) cells.length = true):dA Tryz.prog 45 cells (a + 3) = some (.agg ⟨c2 (c2o x)⟩):=by
 refine fF prR ?_ ?_
 ·have e:(cells.drop (a + 3)).take 2 = ((cells.drop a).take 5).drop 3:=by rw [List.drop_take,List.drop_drop]
  rw [e,h4]; rfl
 ·have:=Nat.le_of_ble_eq_true h5
  exact Nat.ble_eq_true_of_le (by show a + 3 + 2 ≤ _; have h:a + 5 ≤ cells.length:=this; omega)
abbrev i1 (l:List Int):List (List Value):=l.map fun n=>[iv n]
structure IPq (O:List Od) (wv:Value) (H:AHeap) (B2:Nat) (k:Nat) (t:T Value) (h:AHeap):Prop where
 kp:Kp H h
 ex:∃ (ps:List Int) (vp:Value) (F:Nat),App H.nx h 1 vp (i1 ps) F ∧ ps.length = k ∧ (∀ (i:Nat) (h1:i < O.length) (h2:i < ps.length),O[i].lo ≤ ps[i] ∧ ps[i] ≤ O[i].hi) ∧ tget t 5 = vp
 t1:tget t 1 = wv
 t2:tget t 2 = bG B2
 t6:tget t 6 = iv (k:Int)
 hk:k ≤ O.length
set_option maxRecDepth 100000 in
set_option maxHeartbeats 32000000 in
theorem picked_y (S:Ev.Steps Tryz.prog pr R) (hoff:Off pr) (h0:AHeap) (v:Value) (O:List Od) (hb:PoAt h0 v O) (hv:Val O) (wv:Value) (ws:List Int) (hw:WdAt h0 wv ws) (hwl:(ws.length:Int) < 9223372036854775808) :
  bD Tryz.prog R 29 [.agg ⟨poV v⟩,wv] h0 fun u h=>∃ t0,IS h u t0 ∧ fJ O t0 = true:=by
 refine aW (fn:=Tryz.f29) (c:=(Tryz.f29.body).getD .skip) (by kernel_rfl) rfl (by kernel_rfl) rfl (fun K hK=>?_)
 generalize hF:finish Tryz.prog Tryz.f29 K = KF
 simp only [Tryz.f29,Option.getD_some,bI,aZ,bC,T.setK_eq,id]
 have lO:=fun t h1 o=>dI hb isrO t h1 o
 have h6:=hv.l6
 repeat refine S.seq ?_
 refine S.region ?_
 simp (disch:=first|omega|simp only [aA,aB]<;>omega|decide) only [rUz,↓reduceIte,reduceEqDiff,reduceAdd]
 obtain ⟨B2,hB2⟩:∃ x,x = h0.nx:=⟨_,rfl⟩
 have hb2:(h0.add (poV v)).bl.get B2 = some (.cells (poV v) B2 false):=by subst hB2; exact aP rfl
 have hn2:B2 < (h0.add (poV v)).nx:=by subst hB2; exact Nat.lt_succ_self _
 have hk1:Kp h0 (h0.add (poV v)):=Kp.refl.add
 rw [← hB2]
 clear hB2
 generalize h0.add (poV v) = H at hb2 hn2 hk1 ⊢
 repeat refine S.seq ?_
 refine S.region ?_
 simp (disch:=first|omega|simp only [aA,aB]<;>omega|decide) only [rUz,↓reduceIte,reduceEqDiff,reduceAdd]
 repeat refine S.seq ?_
 refine S.region ?_
 simp (disch:=first|omega|simp only [aA,aB]<;>omega|decide) only [rUz,↓reduceIte,reduceEqDiff,reduceAdd]
 repeat refine S.seq ?_
 refine S.block ?_
 refine S.loop (ι:=Nat) (IPq O wv H B2) (fun k=>O.length - k) ?_ 0 _ _ ?_
 rotate_left
 ·refine ⟨Kp.refl,⟨[],nl,0,.inl ⟨rfl,rfl⟩,rfl,(fun i _ h2=>absurd h2 (Nat.not_lt_zero _)),?_⟩,?_,?_,?_,Nat.zero_le _⟩
  all_goals (first|rfl|(simp (disch:=first|omega|simp only [aA,aB]<;>omega|decide) only [rUz,↓reduceIte,reduceEqDiff,reduceAdd]<;>rfl))
 intro k t h ⟨kp,⟨ps,vp,F,app,hpl,hok,t5⟩,t1,t2,t6,hk⟩ K' hn he
 have hnx:=kp.1
 have kph:Kp h0 h:=hk1.trans kp
 have hb2h:h.bl.get B2 = some (.cells (poV v) B2 false):=(kp.get hn2).trans hb2
 repeat refine S.seq ?_
 refine S.region ?_
 simp (disch:=first|omega|simp only [aA,aB]<;>omega|decide) only [rUz,↓reduceIte,reduceEqDiff,reduceAdd,t2,t6,aC fA0 lrO,qrO,po0,hb2h,lO]
 repeat refine S.seq ?_
 refine S.cond (v:=decide ((k:Int) < (O.length:Int))) (by first|rfl|(simp (disch:=first|omega|simp only [aA,aB]<;>omega|decide) only [rUz,↓reduceIte,reduceEqDiff,reduceAdd]<;>rfl)) (fun e=>?_) (fun e=>?_)
 ·have hkn:k < O.length:=by have:=of_decide_eq_true e; omega
  clear e
  have hps:O[k]? = some O[k]:=List.getElem?_eq_getElem hkn
  have hox:=hv.ok _ (List.getElem_mem hkn)
  obtain ⟨x,hx⟩:∃ x,x = O[k]:=⟨_,rfl⟩
  rw [← hx] at hps hox
  obtain ⟨m0,m1,m2⟩:0 ≤ x.lo ∧ x.lo ≤ x.hi ∧ x.hi ≤ 30:=⟨hox.m0,hox.m1,hox.m2⟩
  obtain ⟨b2,f2,o2,ce2,v1,v2,v3,v4,v5,v6⟩:=dH (hb.mono kph) slrO srO hps
  have hpt:=ord_part v4 v5
  have hwh:=hw.mono kph
  repeat refine S.seq ?_
  refine S.skip ?_
  simp (disch:=first|omega|simp only [aA,aB]<;>omega|decide) only [rUz,↓reduceIte,reduceEqDiff,reduceAdd]
  repeat refine S.seq ?_
  refine S.block ?_
  repeat refine S.seq ?_
  refine S.region ?_
  simp (disch:=first|omega|simp only [aA,aB]<;>omega|decide) only [rUz,↓reduceIte,reduceEqDiff,reduceAdd,t2,t6,aC fA0 lrO,qrO,po0,hb2h,v1,v3,aC frO3 SrR,hpt,bU zrR]
  refine dE (B:=h.nx) (c:=[iv 0,iv 0]) (fam:=h.nx) (k:=h.nx) (l:=c2 (c2o x)) (by simp (disch:=first|omega|simp only [aA,aB]<;>omega|decide) only [rUz,↓reduceIte,reduceEqDiff,reduceAdd]) (by simp (disch:=first|omega|simp only [aA,aB]<;>omega|decide) only [rUz,↓reduceIte,reduceEqDiff,reduceAdd]) srR (by omega) rfl (aP rfl) (dL rfl) rfl ?_
  have hk4:Kp h ((h.add [iv 0,iv 0]).upd h.nx (c2 (c2o x)) h.nx):=Kp.refl.add.upd (Nat.le_refl _)
  have hg4:((h.add [iv 0,iv 0]).upd h.nx (c2 (c2o x)) h.nx).bl.get h.nx = some (.cells (c2 (c2o x)) h.nx false):=aO _ _ _
  simp (disch:=first|omega|simp only [aA,aB]<;>omega|decide) only [rUz,↓reduceIte,reduceEqDiff,reduceAdd]
  generalize (h.add [iv 0,iv 0]).upd h.nx (c2 (c2o x)) h.nx = g at hk4 hg4 ⊢
  generalize h.nx = B7 at hg4 ⊢
  clear v1 v2 v3 v4 v5 v6 hpt
  have hwg:=hwh.mono hk4
  have app4:=app.mono hk4
  have kp4:=kp.trans hk4
  have hgn:=kp4.1
  have c0:(c2 (c2o x))[0]? = some (iv x.lo):=rfl
  have c1:(c2 (c2o x))[1]? = some (iv x.hi):=rfl
  repeat refine S.seq ?_
  refine S.drawnL [(false,0),(false,0),(false,2),(false,0),(false,0),(true,24),(false,0),(false,64),(false,0),(false,256),(false,960),(false,1984),(false,4088),(false,8190),(true,16382),(true,32767),(false,65535)] (by kernel_rfl) (by kernel_rfl) (by kernel_rfl) ?_
  simp (disch:=first|omega|simp only [aA,aB]<;>omega|decide) only [rUz,↓reduceIte,reduceEqDiff,reduceAdd,rDz,infoL,reduceSub,draw_rdB,t1,t5,t6,hg4,aC frR0 s3,aC frR1 s3,p3,c0,c1]
  refine cZ (fid:=62) (first:=#[]) (captured:=#[]) (Post:=fun u h'=>(∃ n,u = iv n ∧ 0 ≤ n ∧ n ≤ 255) ∧ g = h') rfl (hoff _ _ _ rfl) (by simp (disch:=first|omega|simp only [aA,aB]<;>omega|decide) only [rUz,↓reduceIte,reduceEqDiff,reduceAdd]; exact word_y S g wv ws hwg hwl (k:Int) (by omega)) (Nat.le_of_ble_eq_true rfl) ?_
  rintro u g' - ⟨⟨n,rfl,hn0,hn1⟩,rfl⟩
  refine ⟨?_,?_⟩
  ·try simp (disch:=first|decide|rfl) only [aK,aG,aH]
   rw [bF (v:=iv x.lo) (by simp (disch:=first|omega|simp only [aA,aB]<;>omega|decide) only [rUz,↓reduceIte,reduceEqDiff,reduceAdd,rDz,infoL,reduceSub,hg4,aC frR0 s3,p3,c0]) (by first|assumption|exact eX|rfl)]
   try simp (disch:=first|decide|rfl) only [aK,aG,aH]
   rw [bF (v:=iv x.hi) (by simp (disch:=first|omega|simp only [aA,aB]<;>omega|decide) only [rUz,↓reduceIte,reduceEqDiff,reduceAdd,rDz,infoL,reduceSub,hg4,aC frR1 s3,p3,c1]) (by first|assumption|exact eX|rfl)]
   try simp (disch:=first|decide|rfl) only [aK,aG,aH]
   rw [bF (v:=iv x.lo) (by simp (disch:=first|omega|simp only [aA,aB]<;>omega|decide) only [rUz,↓reduceIte,reduceEqDiff,reduceAdd,rDz,infoL,reduceSub,hg4,aC frR0 s3,p3,c0]) (by first|assumption|exact eX|rfl)]
   try simp (disch:=first|decide|rfl) only [aK,aG,aH]
  simp (disch:=first|omega|simp only [aA,aB]<;>omega|decide) only [rUz,↓reduceIte,reduceEqDiff,reduceAdd,rDz,infoL,reduceSub]
  refine drR_of' (bin_rem (i:=n) (j:=x.hi - x.lo + 1) (by simp (disch:=first|omega|simp only [aA,aB]<;>omega|decide) only [rUz,↓reduceIte,reduceEqDiff,reduceAdd,rDz,infoL,reduceSub]) (by simp (disch:=first|omega|simp only [aA,aB]<;>omega|decide) only [rUz,↓reduceIte,reduceEqDiff,reduceAdd,rDz,infoL,reduceSub]) (by omega)) ?_
  have z0:=Int.tmod_nonneg (x.hi - x.lo + 1) hn0
  have z1:=Int.tmod_lt_of_pos n (by omega:0 < x.hi - x.lo + 1)
  generalize n.tmod (x.hi - x.lo + 1) = z at z0 z1
  simp (disch:=first|omega|simp only [aA,aB]<;>omega|decide) only [rUz,↓reduceIte,reduceEqDiff,reduceAdd,rDz,infoL,reduceSub]
  refine iT (nP slI s3' z3 rfl (by omega) (u:=iv (x.lo + z)) (l:=[iv (x.lo + z)]) (by simp (disch:=first|omega|simp only [aA,aB]<;>omega|decide) only [rUz,↓reduceIte,reduceEqDiff,reduceAdd,rDz,infoL,reduceSub]) rfl rfl) (Nat.le_of_ble_eq_true rfl) ?_ ?_
  ·try simp (disch:=first|decide|rfl) only [aK,aG,aH]
  simp (disch:=first|omega|simp only [aA,aB]<;>omega|decide) only [rUz,↓reduceIte,reduceEqDiff,reduceAdd,rDz,infoL,reduceSub]
  refine xJ slI uI (v:=vp) (bx:=g.nx) (cx:=1) (by simp (disch:=first|omega|simp only [aA,aB]<;>omega|decide) only [rUz,↓reduceIte,reduceEqDiff,reduceAdd,rDz,infoL,reduceSub]) (by simp (disch:=first|omega|simp only [aA,aB]<;>omega|decide) only [rUz,↓reduceIte,reduceEqDiff,reduceAdd,rDz,infoL,reduceSub]) (app4.mono Kp.refl.add) (by show H.nx ≤ g.nx + 1; omega) s3' rfl (by omega) (aP rfl) nI (by rw [List.length_map]; show _ < 1000000; omega) (Nat.le_of_ble_eq_true rfl) ?_
  intro v7 h3 F3 gr
  have kp3:Kp H h3:=gr.sm.kp (Nat.le_refl _) (kp4.trans Kp.refl.add)
  refine ⟨?_,?_⟩
  ·try simp (disch:=first|decide|rfl) only [aK,aG,aH]
  simp (disch:=first|omega|simp only [aA,aB]<;>omega|decide) only [rUz,↓reduceIte,reduceEqDiff,reduceAdd,rDz,infoL,reduceSub]
  repeat refine S.seq ?_
  refine S.region ?_
  simp (disch:=first|omega|simp only [aA,aB]<;>omega|decide) only [rUz,↓reduceIte,reduceEqDiff,reduceAdd,t6]
  refine hn (k + 1) _ _ (by omega) ⟨kp3,⟨ps ++ [x.lo + z],v7,F3,by rw [show i1 (ps ++ [x.lo + z]) = i1 ps ++ [[iv (x.lo + z)]] from List.map_append]; exact gr.app,?_,?_,?_⟩,?_,?_,?_,by omega⟩
  ·rw [List.length_append,hpl]; rfl
  ·intro i h1 h2
   rw [List.length_append] at h2
   have h2':i < ps.length + 1:=h2
   by_cases hi:i < ps.length
   ·rw [List.getElem_append_left hi]; exact hok i h1 hi
   ·obtain rfl:i = ps.length:=by omega
    subst hpl
    rw [← hx,List.getElem_append_right (Nat.le_refl _)]
    simp only [Nat.sub_self,List.getElem_cons_zero]
    omega
  all_goals (first|rfl|(simp (disch:=first|omega|simp only [aA,aB]<;>omega|decide) only [rUz,↓reduceIte,reduceEqDiff,reduceAdd,t1,t2]<;>rfl))
 have hkn:k = O.length:=by have:=of_decide_eq_false e; omega
 refine S.exit (he _ _ _ _ (fun e=>by cases e) ?_)
 simp (disch:=first|omega|simp only [aA,aB]<;>omega|decide) only [rUz,↓reduceIte,reduceEqDiff,reduceAdd]
 repeat refine S.seq ?_
 refine S.region ?_
 simp (disch:=first|omega|simp only [aA,aB]<;>omega|decide) only [rUz,↓reduceIte,reduceEqDiff,reduceAdd,t5]
 refine S.ret ?_
 try simp only [aI,aF]
 subst hF
 simp only [finish,aJ]
 rw [show Tryz.f29.results.toList = [.tmp 4] from rfl]
 simp (disch:=first|omega|simp only [aA,aB]<;>omega|decide) only [bH,aY,aQ,aS,aT,aU,aO,upd_ne,aP,aX,result1]
 exact hK _ _ kph ⟨ps,app.at,qC.2 ⟨by omega,hok⟩⟩
end Go.Proofs.Po
