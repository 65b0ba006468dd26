import Derived.Test.YthgmipngikdknaaGreatPo2
/- A post of the reference as one of the program; its error by the words of the document. -/
namespace Go.Proofs.Po
open Nat (reduceEqDiff reduceAdd reduceSub)
open Go Go.Ev Go.RowKit
set_option linter.unusedSimpArgs false
variable {pr:Prim} {R:ExT}
theorem gtB (x y:Int):decide (y < x) = !decide (x ≤ y):=by
 by_cases h:x ≤ y
 ·rw [decide_eq_true h,decide_eq_false (by omega)]; rfl
 ·rw [decide_eq_false h,decide_eq_true (by omega)]; rfl
def c2o (x:Od):I2:=(x.lo,x.hi)
theorem r3O (x:Od):dD Tryz.prog 45 (cOd x) 3 = some (.agg ⟨c2 (c2o x)⟩):=gQ (n:=2) prR rfl rfl
theorem k3O (x:Od):dD Tryz.prog 43 (cOd x) 3 = some (.agg ⟨c2 (c2o x)⟩):=gQ (n:=2) pcR rfl rfl
theorem bcOx (x:Od):fG Tryz.prog 94 [(0,.bool x.b),(1,iv x.l),(2,iv x.n),(3,.agg ⟨c2 (c2o x)⟩)] = some (.agg ⟨cOd x⟩):=bcO _ _ _ _ _
theorem veq_c2 (r:I2):veq (.agg ⟨c2 r⟩) (.agg ⟨c2 r⟩) = true:=by
 simp only [c2,veq,veqA,veqL,beqKind,uS,decide_true,Bool.and_self]
theorem veq_bool (b:Bool):veq (.bool b) (.bool b) = true:=by cases b<;>rfl
set_option maxHeartbeats 4000000 in
theorem to_y (S:Ev.Steps Tryz.prog pr R) (h0:AHeap) (r:I2):bD Tryz.prog R 17 [.agg ⟨c2 r⟩] h0 fun u _=>u = .agg ⟨c2 r⟩:=by
 refine aV (fn:=Tryz.f17) (c:=(Tryz.f17.body).getD .skip) (by kernel_rfl) rfl (by kernel_rfl) rfl (fun K hK=>?_)
 generalize hF:finish Tryz.prog Tryz.f17 K = KF
 simp only [Tryz.f17,Option.getD_some,bJ,aX,aZ,T.setK_eq,id]
 repeat refine S.seq ?_
 refine S.region ?_
 simp (disch:=first|omega|simp only [aA,aB]<;>omega|decide) only [rUz,↓reduceIte,reduceEqDiff,reduceAdd,cO zcR]
 repeat refine S.seq ?_
 refine S.region ?_
 simp (disch:=first|omega|simp only [aA,aB]<;>omega|decide) only [rUz,↓reduceIte,reduceEqDiff,reduceAdd,aC frR0 s3,aC frR1 s3,p3,c20,c21,fF,List.map_cons,List.map_nil,bcR]
 refine dF (B:=h0.nx + 1) (c:=[iv 0,iv 0]) (fam:=h0.nx + 1) (k:=h0.nx + 1) (l:=c2 r) (by simp (disch:=first|omega|simp only [aA,aB]<;>omega|decide) only [rUz,↓reduceIte,reduceEqDiff,reduceAdd]) (by simp (disch:=first|omega|simp only [aA,aB]<;>omega|decide) only [rUz,↓reduceIte,reduceEqDiff,reduceAdd]; rfl) scR (by omega) rfl (by simp (disch:=first|omega|simp only [aA,aB]<;>omega|decide) only [rUz,↓reduceIte,reduceEqDiff,reduceAdd]) (by simp (disch:=first|omega|simp only [aA,aB]<;>omega|decide) only [rUz,↓reduceIte,reduceEqDiff,reduceAdd]) rfl ?_
 simp (disch:=first|omega|simp only [aA,aB]<;>omega|decide) only [rUz,↓reduceIte,reduceEqDiff,reduceAdd]
 refine S.ret ?_
 try simp only [aJ,aF]
 subst hF
 simp only [finish,aI]
 rw [show Tryz.f17.results.toList = [.cell 2 43] from rfl]
 simp (disch:=first|omega|simp only [aA,aB]<;>omega|decide) only [bK,aY,aS,aT,aQ,aU,aO,upd_ne,aP,aW,result1,bT pcR (kX r)]
 exact hK _ _ (Kp.refl.add.add.upd (by omega)) rfl
set_option maxHeartbeats 4000000 in
theorem thin_y (S:Ev.Steps Tryz.prog pr R) (h0:AHeap) (v:Value) (O:List Od) (hb:PoAt h0 v O) :
  bD Tryz.prog R 39 [.agg ⟨poV v⟩] h0 fun u _=>u = .bool (decide ((O.length:Int) ≤ 9)):=by
 refine aV (fn:=Tryz.f39) (c:=(Tryz.f39.body).getD .skip) (by kernel_rfl) rfl (by kernel_rfl) rfl (fun K hK=>?_)
 generalize hF:finish Tryz.prog Tryz.f39 K = KF
 simp only [Tryz.f39,Option.getD_some,bJ,aX,aZ,T.setK_eq,id]
 have lO:=fun t h1 o=>dQ hb isrO t h1 o
 repeat refine S.seq ?_
 refine S.region ?_
 simp (disch:=first|omega|simp only [aA,aB]<;>omega|decide) only [rUz,↓reduceIte,reduceEqDiff,reduceAdd]
 repeat refine S.seq ?_
 refine S.region ?_
 simp (disch:=first|omega|simp only [aA,aB]<;>omega|decide) only [rUz,↓reduceIte,reduceEqDiff,reduceAdd,aC fA0 lrO,qrO,po0,lO]
 refine S.ret ?_
 try simp only [aJ,aF]
 subst hF
 simp only [finish,aI]
 rw [show Tryz.f39.results.toList = [.tmp 2] from rfl]
 simp (disch:=first|omega|simp only [aA,aB]<;>omega|decide) only [bK,aY,aS,aT,aQ,aU,aO,upd_ne,aP,aW,result1]
 exact hK _ _ Kp.refl.add rfl
structure IPc (H:AHeap) (B1 B2 B3:Nat) (O:List Od) (k:Nat) (t:T Value) (h:AHeap) (v:Value) (F:Nat):Prop where
 hk:k ≤ O.length
 fr:Fr H B3 h
 t1:tget t 1 = bG B1
 t2:tget t 2 = bG B2
 t3:tget t 3 = bG B3
 tc:tget t 4 = iv (k:Int)
 b3:h.bl.get B3 = some (.cells [v] B3 false)
 app:App H.nx h 5 v ((O.take k).map cOd) F
 flt:F < h.nx
set_option maxHeartbeats 16000000 in
theorem uY (S:Ev.Steps Tryz.prog pr R) (hoff:Off pr) (h0:AHeap) (v:Value) (O:List Od) (hb:PoAt h0 v O) (h9:O.length ≤ 9) :
  bD Tryz.prog R 13 [.agg ⟨poV v⟩] h0 fun u h=>∃ v',u = .agg ⟨poV v'⟩ ∧ PoAt h v' O:=by
 refine aV (fn:=Tryz.f13) (c:=(Tryz.f13.body).getD .skip) (by kernel_rfl) rfl (by kernel_rfl) rfl (fun K hK=>?_)
 generalize hF:finish Tryz.prog Tryz.f13 K = KF
 simp only [Tryz.f13,Option.getD_some,bJ,aX,aZ,T.setK_eq,id]
 repeat refine S.seq ?_
 refine S.region ?_
 simp (disch:=first|omega|simp only [aA,aB]<;>omega|decide) only [rUz,↓reduceIte,reduceEqDiff,reduceAdd,cO zB]
 obtain ⟨B1,hB1⟩:∃ x,x = h0.nx:=⟨_,rfl⟩
 obtain ⟨B2,hB2⟩:∃ x,x = h0.nx + 1:=⟨_,rfl⟩
 have hb1:((h0.add (poV v)).add [nl]).bl.get B1 = some (.cells (poV v) B1 false):=by rw [aW (by show B1 ≠ h0.nx + 1; omega)]; subst hB1; exact aP rfl
 have hb2:((h0.add (poV v)).add [nl]).bl.get B2 = some (.cells [nl] B2 false):=by subst hB2; exact aP rfl
 have hf2:((h0.add (poV v)).add [nl]).fams.get B2 = some [B2]:=by subst hB2; exact dL rfl
 have hnx:((h0.add (poV v)).add [nl]).nx = h0.nx + 2:=rfl
 have hk1:Kp h0 ((h0.add (poV v)).add [nl]):=Kp.refl.add.add
 rw [← hB2,← hB1]
 generalize (h0.add (poV v)).add [nl] = H0 at hb1 hb2 hf2 hnx hk1 ⊢
 obtain ⟨B3,hB3⟩:∃ x,x = H0.nx:=⟨_,rfl⟩
 repeat refine S.seq ?_
 refine S.region ?_
 simp (disch:=first|omega|simp only [aA,aB]<;>omega|decide) only [rUz,↓reduceIte,reduceEqDiff,reduceAdd,cO zB]
 have hk0:Kp H0 (H0.add [nl]):=Kp.refl.add
 have hb3:(H0.add [nl]).bl.get B3 = some (.cells [nl] B3 false):=by subst hB3; exact aP rfl
 have hf3:(H0.add [nl]).fams.get B3 = some [B3]:=by subst hB3; exact dL rfl
 have hn3:(H0.add [nl]).nx = B3 + 1:=by subst hB3; rfl
 rw [← hB3]
 generalize H0.add [nl] = H at hk0 hb3 hf3 hn3 ⊢
 replace hb1:=(hk0.get (by omega:B1 < H0.nx)).trans hb1
 replace hb2:=(hk0.get (by omega:B2 < H0.nx)).trans hb2
 replace hf2:=(hk0.fget (by omega:B2 < H0.nx)).trans hf2
 replace hk1:=hk1.trans hk0
 have hB13:B1 < B3:=by omega
 have hB23:B2 < B3:=by omega
 have hB3':h0.nx ≤ B3:=by omega
 have hB2':h0.nx ≤ B2:=by omega
 have hB12:B1 ≠ B2:=by omega
 clear hB1 hB2 hB3 hk0 hnx
 clear H0
 repeat refine S.seq ?_
 refine S.region ?_
 simp (disch:=first|omega|simp only [aA,aB]<;>omega|decide) only [rUz,↓reduceIte,reduceEqDiff,reduceAdd]
 repeat refine S.seq ?_
 refine S.block ?_
 refine S.loop (ι:=Nat) (fun k t h=>∃ v F,IPc H B1 B2 B3 O k t h v F) (fun k=>O.length - k) ?_ 0 _ _ ?_
 rotate_left
 ·refine ⟨nl,0,Nat.zero_le _,Fr.refl,?_,?_,?_,?_,hb3,.inl ⟨rfl,rfl⟩,by omega⟩
  all_goals (first|rfl|(simp (disch:=first|omega|simp only [aA,aB]<;>omega|decide) only [rUz,↓reduceIte,reduceEqDiff,reduceAdd]<;>rfl))
 intro k t h ⟨v1,F,hk,fr,t1,t2,t3,tc,hb3i,happ,hFl⟩ K' hn he
 have hb1i:=(fr.bl B1 (by omega) (by omega)).trans hb1
 have hkp:=fr.toKp hk1 (by omega)
 have hle:=fr.le
 have hlen:=fun t h1 o=>dQ (hb.mono hkp) isrO t h1 o
 repeat refine S.seq ?_
 refine S.region ?_
 simp (disch:=first|omega|simp only [aA,aB]<;>omega|decide) only [rUz,↓reduceIte,reduceEqDiff,reduceAdd,t1,tc,hb1i,aC fA0 lrO,qrO,po0,hlen]
 repeat refine S.seq ?_
 refine S.cond (v:=decide ((k:Int) < (O.length:Int))) (by first|rfl|(simp (disch:=first|omega|simp only [aA,aB]<;>omega|decide) only [rUz,↓reduceIte,reduceEqDiff,reduceAdd]<;>rfl)) (fun e=>?_) (fun e=>?_)
 ·have hkn:k < O.length:=by have:=of_decide_eq_true e; omega
  clear e
  have hps:O[k]? = some O[k]:=List.getElem?_eq_getElem hkn
  have hrows:(O.take (k + 1)).map cOd = (O.take k).map cOd ++ [cOd O[k]]:=by rw [List.take_add_one,hps,Option.toList_some,List.map_append]; rfl
  generalize O[k] = x at hps hrows
  obtain ⟨b,f,ro,cells,q1,q2,q3,q4,q5,_⟩:=dM (hb.mono hkp) slrO srO hps
  have qp:=gQ prO q4 q5
  repeat refine S.seq ?_
  refine S.skip ?_
  simp (disch:=first|omega|simp only [aA,aB]<;>omega|decide) only [rUz,↓reduceIte,reduceEqDiff,reduceAdd]
  repeat refine S.seq ?_
  refine S.block ?_
  repeat refine S.seq ?_
  refine S.region ?_
  simp (disch:=first|omega|simp only [aA,aB]<;>omega|decide) only [rUz,↓reduceIte,reduceEqDiff,reduceAdd,t1,tc,aC fA0 lrO,qrO,po0,hb1i,q1,q3,qp,cO zrO]
  refine dF (B:=h.nx) (c:=[.bool false,iv 0,iv 0,iv 0,iv 0]) (fam:=h.nx) (k:=h.nx) (l:=cOd x) (by simp (disch:=first|omega|simp only [aA,aB]<;>omega|decide) only [rUz,↓reduceIte,reduceEqDiff,reduceAdd]) (by simp (disch:=first|omega|simp only [aA,aB]<;>omega|decide) only [rUz,↓reduceIte,reduceEqDiff,reduceAdd]) srO (by omega) rfl (aP rfl) (dL rfl) rfl ?_
  have hk4:Kp h ((h.add [.bool false,iv 0,iv 0,iv 0,iv 0]).upd h.nx (cOd x) h.nx):=Kp.refl.add.upd (Nat.le_refl _)
  have hg4:((h.add [.bool false,iv 0,iv 0,iv 0,iv 0]).upd h.nx (cOd x) h.nx).bl.get h.nx = some (.cells (cOd x) h.nx false):=aO _ _ _
  have hn4:h.nx < ((h.add [.bool false,iv 0,iv 0,iv 0,iv 0]).upd h.nx (cOd x) h.nx).nx:=Nat.lt_succ_self _
  simp (disch:=first|omega|simp only [aA,aB]<;>omega|decide) only [rUz,↓reduceIte,reduceEqDiff,reduceAdd]
  generalize (h.add [.bool false,iv 0,iv 0,iv 0,iv 0]).upd h.nx (cOd x) h.nx = h4 at hk4 hg4 hn4 ⊢
  have hb34:=(hk4.get (by omega:B3 < h.nx)).trans hb3i
  have hf34:=(hk4.fget (by omega:B3 < h.nx)).trans ((fr.fam B3 (by omega)).trans hf3)
  have hn44:=hk4.1
  obtain ⟨B4,hB4⟩:∃ x,x = h.nx:=⟨_,rfl⟩
  rw [← hB4] at hg4 hn4 ⊢
  clear q1 q2 q3 q4 q5 qp
  repeat refine S.seq ?_
  refine S.drawnL [(false,0),(false,1),(false,0),(false,4),(false,0),(false,16),(false,0),(false,64),(false,0),(false,256),(true,768),(false,2044),(true,4092),(true,8191),(false,16383),(true,32767)] (by kernel_rfl) (by kernel_rfl) (by kernel_rfl) ?_
  simp (disch:=first|omega|simp only [aA,aB]<;>omega|decide) only [rUz,↓reduceIte,reduceEqDiff,reduceAdd,rDz,infoL,reduceSub,t3,hb34,hg4,aC fB0 lcO,qcO,List.getElem?_cons_zero,aC frO0 sb,aC frO1 s3,aC frO2 s3,aC frO3 SrR,pb,p3,cOd0,cOd1,cOd2,r3O]
  refine dC (fid:=17) (first:=#[]) (captured:=#[]) (Post:=fun u _=>u = .agg ⟨c2 (c2o x)⟩) rfl (hoff _ _ _ rfl) (by simp (disch:=first|omega|simp only [aA,aB]<;>omega|decide) only [rUz,↓reduceIte,reduceEqDiff,reduceAdd]; exact to_y S _ (c2o x)) (Nat.le_of_ble_eq_true rfl) ?_
  rintro u g hkA rfl
  have hgA:=(hkA.get hn4).trans hg4
  have hbA:=(hkA.get (by omega:B3 < h4.nx)).trans hb34
  have hfA:=(hkA.fget (by omega:B3 < h4.nx)).trans hf34
  have hnA:=hkA.1
  have hveq:veq v1 v1 = true:=happ.veq
  refine ⟨?_,?_⟩
  ·try simp (disch:=first|decide|rfl) only [aK,aG,aH]
   rw [bF (v:=iv x.n) (by simp (disch:=first|omega|simp only [aA,aB]<;>omega|decide) only [rUz,↓reduceIte,reduceEqDiff,reduceAdd,rDz,infoL,reduceSub,hgA,aC frO2 s3,p3,cOd2]) (by first|assumption|exact fU|rfl)]
   try simp (disch:=first|decide|rfl) only [aK,aG,aH]
   rw [bF (v:=iv x.l) (by simp (disch:=first|omega|simp only [aA,aB]<;>omega|decide) only [rUz,↓reduceIte,reduceEqDiff,reduceAdd,rDz,infoL,reduceSub,hgA,aC frO1 s3,p3,cOd1]) (by first|assumption|exact fU|rfl)]
   try simp (disch:=first|decide|rfl) only [aK,aG,aH]
   rw [bF (v:=.bool x.b) (by simp (disch:=first|omega|simp only [aA,aB]<;>omega|decide) only [rUz,↓reduceIte,reduceEqDiff,reduceAdd,rDz,infoL,reduceSub,hgA,aC frO0 sb,pb,cOd0]) (veq_bool _)]
   try simp (disch:=first|decide|rfl) only [aK,aG,aH]
   rw [bF (v:=v1) (by simp (disch:=first|omega|simp only [aA,aB]<;>omega|decide) only [rUz,↓reduceIte,reduceEqDiff,reduceAdd,rDz,infoL,reduceSub,t3,hbA,aC fB0 lcO,qcO,List.getElem?_cons_zero]) hveq]
   try simp (disch:=first|decide|rfl) only [aK,aG,aH]
  simp (disch:=first|omega|simp only [aA,aB]<;>omega|decide) only [rUz,↓reduceIte,reduceEqDiff,reduceAdd,rDz,infoL,reduceSub,fF,List.map_cons,List.map_nil,bcOx]
  refine jS (v:=.slice (some ⟨g.nx,0,none⟩) 1 1) (h':=g.add (cOd x)) (qZ slcO scO zcO rfl (by omega) (u:=.agg ⟨cOd x⟩) (l:=cOd x) (by simp (disch:=first|omega|simp only [aA,aB]<;>omega|decide) only [rUz,↓reduceIte,reduceEqDiff,reduceAdd]) rfl rfl) (Nat.le_of_ble_eq_true rfl) ?_ ?_
  ·try simp (disch:=first|decide|rfl) only [aK,aG,aH]
   rw [bF (v:=v1) (by simp (disch:=first|omega|simp only [aA,aB]<;>omega|decide) only [rUz,↓reduceIte,reduceEqDiff,reduceAdd,rDz,infoL,reduceSub,t3,aW,hbA,aC fB0 lcO,qcO,List.getElem?_cons_zero]) hveq]
   try simp (disch:=first|decide|rfl) only [aK,aG,aH]
  simp (disch:=first|omega|simp only [aA,aB]<;>omega|decide) only [rUz,↓reduceIte,reduceEqDiff,reduceAdd,rDz,infoL,reduceSub]
  have hk5:Kp h (g.add (cOd x)):=(hk4.trans hkA).add
  refine drW_app (bx:=g.nx) (cx:=1) (v:=v1) slcO ucO (by simp (disch:=first|omega|simp only [aA,aB]<;>omega|decide) only [rUz,↓reduceIte,reduceEqDiff,reduceAdd,rDz,infoL,reduceSub,t3]) (by simp (disch:=first|omega|simp only [aA,aB]<;>omega|decide) only [rUz,↓reduceIte,reduceEqDiff,reduceAdd,rDz,infoL,reduceSub]) (happ.mono hk5) (by show H.nx ≤ g.nx + 1; omega) scO rfl (by omega) (aP rfl) ncO (by rw [List.length_map,List.length_take]; show _ < 1000000; omega) (Nat.le_of_ble_eq_true rfl) ?_
  intro v3 h3 F3 gr
  refine ⟨?_,?_⟩
  ·try simp (disch:=first|decide|rfl) only [aK,aG,aH]
  obtain ⟨qb,nb,cb,hv3⟩:=gr.app.sl
  subst hv3
  have hgn:(g.add (cOd x)).nx = g.nx + 1:=rfl
  have hb3x:h3.bl.get B3 = some (.cells [v1] B3 false):=by rw [(gr.sm.2 B3 (by omega)).1,aW (by omega)]; exact hbA
  have hf3x:h3.fams.get B3 = some [B3]:=by rw [(gr.sm.2 B3 (by omega)).2,nD (by omega)]; exact hfA
  simp (disch:=first|omega|simp only [aA,aB]<;>omega|decide) only [rUz,↓reduceIte,reduceEqDiff,reduceAdd,rDz,infoL,reduceSub,t3,aC fB0 lcO]
  refine fP (jK (B:=B3) (off:=0) (v:=.slice qb nb cb) (by simp (disch:=first|omega|simp only [aA,aB]<;>omega|decide) only [rUz,↓reduceIte,reduceEqDiff,reduceAdd,rDz,infoL,reduceSub]) (by simp (disch:=first|omega|simp only [aA,aB]<;>omega|decide) only [rUz,↓reduceIte,reduceEqDiff,reduceAdd,rDz,infoL,reduceSub]) lcO' rfl rfl hb3x hf3x (by simp)) ?_ ?_
  ·try simp (disch:=first|decide|rfl) only [aK,aG,aH]
  simp (disch:=first|omega|simp only [aA,aB]<;>omega|decide) only [rUz,↓reduceIte,reduceEqDiff,reduceAdd,rDz,infoL,reduceSub]
  repeat refine S.seq ?_
  refine S.region ?_
  simp (disch:=first|omega|simp only [aA,aB]<;>omega|decide) only [rUz,↓reduceIte,reduceEqDiff,reduceAdd,tc]
  have hfr:Fr H B3 (h3.upd B3 ([v1].set 0 (.slice qb nb cb)) B3):=((fr.kp hk5).sm gr.sm (Nat.le_refl _)).upd
  refine hn (k + 1) _ _ (by omega) ⟨.slice qb nb cb,F3,by omega,hfr,?_,?_,?_,?_,aO _ _ _,?_,gr.app.fam_lt (by simp)⟩
  ·simp (disch:=first|omega|simp only [aA,aB]<;>omega|decide) only [rUz,↓reduceIte,reduceEqDiff,reduceAdd,t1]
  ·simp (disch:=first|omega|simp only [aA,aB]<;>omega|decide) only [rUz,↓reduceIte,reduceEqDiff,reduceAdd,t2]
  ·simp (disch:=first|omega|simp only [aA,aB]<;>omega|decide) only [rUz,↓reduceIte,reduceEqDiff,reduceAdd,t3]
  ·simp (disch:=first|omega|simp only [aA,aB]<;>omega|decide) only [rUz,↓reduceIte,reduceEqDiff,reduceAdd]
  ·rw [hrows]; exact gr.app.upd (by omega)
 have hkn:k = O.length:=by have:=of_decide_eq_false e; omega
 subst hkn
 rw [List.take_of_length_le (Nat.le_refl _)] at happ
 refine S.exit (he _ _ _ _ (fun e=>by cases e) ?_)
 clear hn he K'
 simp (disch:=first|omega|simp only [aA,aB]<;>omega|decide) only [rUz,↓reduceIte,reduceEqDiff,reduceAdd]
 have hb2:=(fr.bl B2 (by omega) (by omega)).trans hb2
 have hf2:=(fr.fam B2 (by omega)).trans hf2
 have hb3i:h.bl.get B3 = some (.cells (poV v1) B3 false):=hb3i
 repeat refine S.seq ?_
 refine S.region ?_
 simp (disch:=first|omega|simp only [aA,aB]<;>omega|decide) only [rUz,↓reduceIte,reduceEqDiff,reduceAdd,t2,t3,hb3i,bT pB (dR v1)]
 refine dF (B:=B2) (c:=[nl]) (fam:=B2) (k:=B2) (l:=poV v1) (by simp (disch:=first|omega|simp only [aA,aB]<;>omega|decide) only [rUz,↓reduceIte,reduceEqDiff,reduceAdd,t2]) (by simp (disch:=first|omega|simp only [aA,aB]<;>omega|decide) only [rUz,↓reduceIte,reduceEqDiff,reduceAdd]) sB (by omega) rfl hb2 hf2 rfl ?_
 simp (disch:=first|omega|simp only [aA,aB]<;>omega|decide) only [rUz,↓reduceIte,reduceEqDiff,reduceAdd]
 refine S.ret ?_
 try simp only [aJ,aF]
 subst hF
 simp only [finish,aI]
 rw [show Tryz.f13.results.toList = [.cell 2 33] from rfl]
 simp (disch:=first|omega|simp only [aA,aB]<;>omega|decide) only [bK,aY,aS,aT,aQ,aU,aO,upd_ne,aP,aW,result1,t2,bT pB (dR v1)]
 exact hK _ _ (hkp.upd (by omega)) ⟨v1,rfl,(happ.upd (by omega)).at⟩
end Go.Proofs.Po
