import Derived.Test.YtefjnhpghgahbaaGreatCn7
/- A company of the reference as one of the program: all five lists. -/
namespace Go.Proofs.Cp
open Go Go.Ev
set_option linter.unusedSimpArgs false

abbrev nl:Value:=.slice none 0 0
theorem stSl {P:Program} {call:CallT} {ops:Array Oper} {n:Nat} {rest:List Oper} {t:T Value} {h:AHeap} {KR:T Value → AHeap → Bool} {dst:Option Tmp} {B off:Nat} {q:Option Addr} {l' c':Nat}:stR (.pointer (some ⟨B,off,none⟩)) (.slice q l' c') P call ops n rest dst t h KR = st0 (h.bl.get B) P call ops n rest dst t h KR B off (.slice q l' c'):=(rfl)
theorem bTx (x:Tr):rBuild Tryz.prog 88 [(0,iv x.se),(1,iv x.bu),(2,iv x.sh),(3,.agg ⟨c2 x.so⟩),(4,.agg ⟨c2 x.de⟩)] = some (.agg ⟨c7 x⟩):=bT _ _ _ _ _
theorem bDx (x:T3):rBuild Tryz.prog 89 [(0,iv x.1),(1,iv x.2.1),(2,iv x.2.2)] = some (.agg ⟨c3 x⟩):=bD _ _ _
theorem bSx (x:T3):rBuild Tryz.prog 90 [(0,iv x.1),(1,iv x.2.1),(2,iv x.2.2)] = some (.agg ⟨c3 x⟩):=bS _ _ _
structure IC (H:AHeap) (B1 B2 B3 cnt sz len:Nat) (cells:Value → List Value) (rows:List (List Value)) (k:Nat) (t:T Value) (h:AHeap) (v:Value) (F:Nat):Prop where
 hk:k ≤ len
 fr:Fr H B3 h
 t1:tget t 1 = ptr0 B1
 t2:tget t 2 = ptr0 B2
 t3:tget t 3 = ptr0 B3
 tc:tget t cnt = iv (k:Int)
 b3:h.bl.get B3 = some (.cells (cells v) B3 false)
 app:App H.nx h sz v (rows.take k) F
 flt:F < h.nx
def ICx (H:AHeap) (B1 B2 B3 cnt sz len:Nat) (cells:Value → List Value) (rows:List (List Value)) (k:Nat) (t:T Value) (h:AHeap):Prop:=∃ v F,IC H B1 B2 B3 cnt sz len cells rows k t h v F
variable {pr:Prim} {R:ExT}
set_option maxHeartbeats 64000000 in
theorem company_y (S:Ev.Steps Tryz.prog pr R) (hoff:Off pr) (h0:AHeap) (v:Vs) (c:Co) (hc:CoAt h0 v c) (hh:SlAt h0 1 v.a (c.held.map fun n=>[iv n])) (hth:thinB c [] [] = true) :
  Brings Tryz.prog R 12 [.agg ⟨coV c.hs v⟩] h0 fun u h=>∃ v',u = .agg ⟨coV c.hs v'⟩ ∧ CoAt h v' c:=by
 refine brings_of (fn:=Tryz.f12) (c:=(Tryz.f12.body).getD .skip) (by kernel_rfl) rfl (by kernel_rfl) rfl (fun K hK=>?_)
 generalize hF:finish Tryz.prog Tryz.f12 K = KF
 simp only [Tryz.f12,Option.getD_some,argsT,setArgs,fV1_eq,T.setK_eq,id]
 simp only [thinB,Bool.and_eq_true,decide_eq_true_eq,List.length_nil] at hth
 obtain ⟨th1,th2,th3,th4,th5,-⟩:=hth
 repeat refine S.seq ?_
 refine S.region ?_
 simp (disch:=first|omega|(simp only [nZ] <;> omega)|decide) only [rUz,↓reduceIte,Nat.reduceEqDiff,Nat.reduceAdd,wr_alloc zB]
 obtain ⟨B1,hB1⟩:∃ x,x = h0.nx:=⟨_,rfl⟩
 obtain ⟨B2,hB2⟩:∃ x,x = h0.nx + 1:=⟨_,rfl⟩
 have hb1:((h0.add (coV c.hs v)).add [iv 0,nl,nl,nl,nl,nl]).bl.get B1 = some (.cells (coV c.hs v) B1 false):=by rw [ag_ne (by show B1 ≠ h0.nx + 1; omega)]; subst hB1; exact ag_eq rfl
 have hb2:((h0.add (coV c.hs v)).add [iv 0,nl,nl,nl,nl,nl]).bl.get B2 = some (.cells [iv 0,nl,nl,nl,nl,nl] B2 false):=by subst hB2; exact ag_eq rfl
 have hf2:((h0.add (coV c.hs v)).add [iv 0,nl,nl,nl,nl,nl]).fams.get B2 = some [B2]:=by subst hB2; exact af_eq rfl
 have hnx:((h0.add (coV c.hs v)).add [iv 0,nl,nl,nl,nl,nl]).nx = h0.nx + 2:=rfl
 have hk1:Kp h0 ((h0.add (coV c.hs v)).add [iv 0,nl,nl,nl,nl,nl]):=Kp.refl.add.add
 rw [← hB2,← hB1]
 generalize (h0.add (coV c.hs v)).add [iv 0,nl,nl,nl,nl,nl] = H at hb1 hb2 hf2 hnx hk1 ⊢
 obtain ⟨B3,hB3⟩:∃ x,x = H.nx:=⟨_,rfl⟩
 repeat refine S.seq ?_
 refine S.drawnM [(false,0),(false,1),(false,0),(false,4),(true,12),(false,31),(true,0),(true,127)] 64 [6] (by kernel_rfl) (by kernel_rfl) (by kernel_rfl) (by kernel_rfl) (by kernel_rfl) ?_
 generalize hJJ:(fun (t:T Value) (h:AHeap)=>_) = KJ
 suffices hJ:∀ t h vh,Kp h0 h → B3 + 1 ≤ h.nx → tget t 1 = ptr0 B1 → tget t 2 = ptr0 B2 → tget t 3 = ptr0 B3 → h.bl.get B1 = some (.cells (coV c.hs v) B1 false) → h.bl.get B2 = some (.cells [iv 0,nl,nl,nl,nl,nl] B2 false) → h.fams.get B2 = some [B2] → h.bl.get B3 = some (.cells [iv c.hs,vh,nl,nl,nl,nl] B3 false) → h.fams.get B3 = some [B3] → INew (B3 + 1) h vh c.held → KJ t h = true by
  clear hJJ hK
  simp (disch:=first|omega|(simp only [nZ] <;> omega)|decide) only [rUz,↓reduceIte,Nat.reduceEqDiff,Nat.reduceAdd,rMz,infoL,Nat.reduceSub,res_bl,hb1,fieldAddr_ptr fA0 s3,fieldAddr_ptr fA1 lI,p3,qI,co0,co1]
  refine dm_one rfl rfl ?_
  refine dmW_brings (fid:=29) (first:=#[]) (captured:=#[]) (Post:=fun u h=>INew (H.nx + 1) h u c.held) rfl rfl (by simp (disch:=first|omega|(simp only [nZ] <;> omega)|decide) only [rUz,↓reduceIte,Nat.reduceEqDiff,Nat.reduceAdd,rMz,infoL,Nat.reduceSub]) (hoff _ _ _ rfl) (by simp (disch:=first|omega|(simp only [nZ] <;> omega)|decide) only [rUz,↓reduceIte,Nat.reduceEqDiff,Nat.reduceAdd,rMz,infoL,Nat.reduceSub]; exact list_y S _ v.a c.held (SlAt.mono hh hk1.res) (by omega)) (Nat.le_of_ble_eq_true rfl) ?_
  intro vh g hkg hin
  have hb1g:g.bl.get B1 = some (.cells (coV c.hs v) B1 false):=by rw [hkg.get (by show B1 < H.nx + 1; omega),res_bl]; exact hb1
  have hb2g:g.bl.get B2 = some (.cells [iv 0,nl,nl,nl,nl,nl] B2 false):=by rw [hkg.get (by show B2 < H.nx + 1; omega),res_bl]; exact hb2
  have hf2g:g.fams.get B2 = some [B2]:=by rw [hkg.fget (by show B2 < H.nx + 1; omega),res_fn (by omega)]; exact hf2
  have hf3g:g.fams.get H.nx = some []:=by rw [hkg.fget (by show H.nx < H.nx + 1; omega)]; exact res_fe rfl
  have hgn:H.nx + 1 ≤ g.nx:=hkg.1
  have hkpg:Kp h0 g:=hk1.res.trans hkg
  obtain ⟨b,f,hvh,k2,k3,k4⟩:=hin
  have hin:INew (H.nx + 1) g vh c.held:=⟨b,f,hvh,k2,k3,k4⟩
  clear k2 k3 k4 hkg hk1 hb1 hb2 hf2
  subst hvh
  refine ⟨?_,?_⟩
  ·try simp (disch:=first|decide|rfl) only [again_nil,again_skip,again_free]
   rw [again_same (v:=iv c.hs) (by simp (disch:=first|omega|(simp only [nZ] <;> omega)|decide) only [rUz,↓reduceIte,Nat.reduceEqDiff,Nat.reduceAdd,rDz,infoL,Nat.reduceSub,hb1g,fieldAddr_ptr fA0 s3,p3,co0]) (by first|assumption|exact veq_int|rfl)]
   try simp (disch:=first|decide|rfl) only [again_nil,again_skip,again_free]
  simp (disch:=first|omega|(simp only [nZ] <;> omega)|decide) only [rUz,↓reduceIte,Nat.reduceEqDiff,Nat.reduceAdd,rMz,infoL,Nat.reduceSub,rd_build,List.map_cons,List.map_nil,bB]
  refine dm_one rfl rfl ?_
  refine dmW_alloc (r:=H.nx) (z:=.agg ⟨[iv 0,nl,nl,nl,nl,nl]⟩) rfl zB hf3g (Nat.le_of_ble_eq_true rfl) ?_ ?_
  ·try simp (disch:=first|decide|rfl) only [again_nil,again_skip,again_free]
   rw [again_same (v:=v.a) (by simp (disch:=first|omega|(simp only [nZ] <;> omega)|decide) only [rUz,↓reduceIte,Nat.reduceEqDiff,Nat.reduceAdd,rDz,infoL,Nat.reduceSub,putAt_ne,hb1g,fieldAddr_ptr fA1 lI,qI,co1]) hc.held.veq]
   try simp (disch:=first|decide|rfl) only [again_nil,again_skip,again_free]
   rw [again_same (v:=iv c.hs) (by simp (disch:=first|omega|(simp only [nZ] <;> omega)|decide) only [rUz,↓reduceIte,Nat.reduceEqDiff,Nat.reduceAdd,rDz,infoL,Nat.reduceSub,putAt_ne,hb1g,fieldAddr_ptr fA0 s3,p3,co0]) (by first|assumption|exact veq_int|rfl)]
   try simp (disch:=first|decide|rfl) only [again_nil,again_skip,again_free]
  simp (disch:=first|omega|(simp only [nZ] <;> omega)|decide) only [rUz,↓reduceIte,Nat.reduceEqDiff,Nat.reduceAdd,rMz,infoL,Nat.reduceSub]
  refine dm_one rfl rfl ?_
  refine dmW_none rfl rfl (aw_storeN (B:=H.nx) (ls:=[iv c.hs,.slice (some ⟨b,0,none⟩) c.held.length c.held.length,nl,nl,nl,nl]) (by simp (disch:=first|omega|(simp only [nZ] <;> omega)|decide) only [rUz,↓reduceIte,Nat.reduceEqDiff,Nat.reduceAdd,rMz,infoL,Nat.reduceSub]) (by simp (disch:=first|omega|(simp only [nZ] <;> omega)|decide) only [rUz,↓reduceIte,Nat.reduceEqDiff,Nat.reduceAdd,rMz,infoL,Nat.reduceSub]) sB (by omega) rfl (by simp (disch:=first|omega|(simp only [nZ] <;> omega)|decide) only [putAt_eq]; rfl) (by simp (disch:=first|omega|(simp only [nZ] <;> omega)|decide) only [putAt_fe]; rfl) rfl) ?_ ?_
  ·try simp (disch:=first|decide|rfl) only [again_nil,again_skip,again_free]
  simp (disch:=first|omega|(simp only [nZ] <;> omega)|decide) only [rUz,↓reduceIte,Nat.reduceEqDiff,Nat.reduceAdd,rMz,infoL,Nat.reduceSub]
  subst hB3
  refine hJ _ _ (.slice (some ⟨b,0,none⟩) c.held.length c.held.length) ?_ ?_ ?_ ?_ ?_ ?_ ?_ ?_ ?_ ?_ ?_
  ·exact (hkpg.putAt (by omega)).upd (by omega)
  ·exact hgn
  ·simp (disch:=first|omega|(simp only [nZ] <;> omega)|decide) only [rUz,↓reduceIte,Nat.reduceEqDiff,Nat.reduceAdd]
  ·simp (disch:=first|omega|(simp only [nZ] <;> omega)|decide) only [rUz,↓reduceIte,Nat.reduceEqDiff,Nat.reduceAdd]
  ·simp (disch:=first|omega|(simp only [nZ] <;> omega)|decide) only [rUz,↓reduceIte,Nat.reduceEqDiff,Nat.reduceAdd]
  ·simp (disch:=first|omega|(simp only [nZ] <;> omega)|decide) only [upd_ne,putAt_ne]; exact hb1g
  ·simp (disch:=first|omega|(simp only [nZ] <;> omega)|decide) only [upd_ne,putAt_ne]; exact hb2g
  ·simp (disch:=first|omega|(simp only [nZ] <;> omega)|decide) only [upd_fams,putAt_fn]; exact hf2g
  ·exact upd_eq _ _ _
  ·simp (disch:=first|omega|(simp only [nZ] <;> omega)|decide) only [upd_fams,putAt_fe]
  ·exact (hin.putAt (by omega)).upd (by omega)
 clear hk1 hb1 hb2 hf2
 have hB13:B1 < B3:=by omega
 have hB23:B2 < B3:=by omega
 have hB12:B1 ≠ B2:=by omega
 have hB3':h0.nx ≤ B3:=by omega
 have hB2':h0.nx ≤ B2:=by omega
 clear hB3 hnx hB2 hB1
 clear H
 intro t H0 vh hkH hn3 t1 t2 t3 hb1 hb2 hf2 hb3 hf3 hin
 subst hJJ
 simp only [seqK_normal]
 repeat refine S.seq ?_
 refine S.region ?_
 simp (disch:=first|omega|(simp only [nZ] <;> omega)|decide) only [rUz,↓reduceIte,Nat.reduceEqDiff,Nat.reduceAdd]
 repeat refine S.seq ?_
 refine S.block ?_
 refine S.loop (ι:=Nat) (ICx H0 B1 B2 B3 4 7 c.tr.length (fun u=>[iv c.hs,vh,u,nl,nl,nl]) (c.tr.map c7)) (fun k=>c.tr.length - k) ?_ 0 _ _ ?_
 rotate_left
 ·refine ⟨nl,0,Nat.zero_le _,Fr.refl,?_,?_,?_,?_,hb3,.inl ⟨rfl,rfl⟩,by omega⟩
  all_goals (first|rfl|(simp (disch:=first|omega|(simp only [nZ] <;> omega)|decide) only [rUz,↓reduceIte,Nat.reduceEqDiff,Nat.reduceAdd,t1,t2,t3]; done)|(simp (disch:=first|omega|(simp only [nZ] <;> omega)|decide) only [rUz,↓reduceIte,Nat.reduceEqDiff,Nat.reduceAdd,t1,t2,t3]; rfl))
 clear t1 t2 t3
 clear t
 intro k t h ⟨v1,F,hk,fr,t1,t2,t3,tc,hb3i,happ,hFl⟩ K' hn he
 have hb1i:=(fr.bl B1 (by omega) (by omega)).trans hb1
 have hkp:=fr.toKp hkH (by omega)
 have hle:=fr.le
 have hlen:=fun t h1 o=>row_len (SlAt.mono hc.tr hkp) isrT t h1 o
 repeat refine S.seq ?_
 refine S.region ?_
 simp (disch:=first|omega|(simp only [nZ] <;> omega)|decide) only [rUz,↓reduceIte,Nat.reduceEqDiff,Nat.reduceAdd,t1,tc,hb1i,fieldAddr_ptr fA2 lrT,qrT,co2,hlen]
 repeat refine S.seq ?_
 refine S.cond (v:=decide ((k:Int) < (c.tr.length:Int))) (by first|rfl|(simp (disch:=first|omega|(simp only [nZ] <;> omega)|decide) only [rUz,↓reduceIte,Nat.reduceEqDiff,Nat.reduceAdd] <;> rfl)) (fun e=>?_) (fun e=>?_)
 ·have hkn:k < c.tr.length:=by have:=of_decide_eq_true e; omega
  clear e
  have hps:c.tr[k]? = some c.tr[k]:=List.getElem?_eq_getElem hkn
  generalize c.tr[k] = x at hps
  obtain ⟨b,f,ro,cells,q1,q2,q3,q4,q5,_⟩:=row_idx (SlAt.mono hc.tr hkp) slrT srT hps
  have qp:=part_at prT q4 q5
  have hrows:∀ cv:_ → List Value,((c.tr.map cv).take (k + 1)) = (c.tr.map cv).take k ++ [cv x]:=fun cv=>by
   rw [List.take_add_one,List.getElem?_map,hps]; rfl
  repeat refine S.seq ?_
  refine S.skip ?_
  simp (disch:=first|omega|(simp only [nZ] <;> omega)|decide) only [rUz,↓reduceIte,Nat.reduceEqDiff,Nat.reduceAdd]
  repeat refine S.seq ?_
  refine S.block ?_
  repeat refine S.seq ?_
  refine S.region ?_
  simp (disch:=first|omega|(simp only [nZ] <;> omega)|decide) only [rUz,↓reduceIte,Nat.reduceEqDiff,Nat.reduceAdd,t1,tc,fieldAddr_ptr fA2 lrT,qrT,co2,hb1i,q1,q3,qp,wr_alloc zrT]
  refine wr_storeN (B:=h.nx) (c:=[iv 0,iv 0,iv 0,iv 0,iv 0,iv 0,iv 0]) (fam:=h.nx) (k:=h.nx) (l:=c7 x) (by simp (disch:=first|omega|(simp only [nZ] <;> omega)|decide) only [rUz,↓reduceIte,Nat.reduceEqDiff,Nat.reduceAdd]) (by simp (disch:=first|omega|(simp only [nZ] <;> omega)|decide) only [rUz,↓reduceIte,Nat.reduceEqDiff,Nat.reduceAdd]) srT (by omega) rfl (ag_eq rfl) (af_eq rfl) rfl ?_
  have hk4:Kp h ((h.add [iv 0,iv 0,iv 0,iv 0,iv 0,iv 0,iv 0]).upd h.nx (c7 x) h.nx):=Kp.refl.add.upd (Nat.le_refl _)
  have hg4:((h.add [iv 0,iv 0,iv 0,iv 0,iv 0,iv 0,iv 0]).upd h.nx (c7 x) h.nx).bl.get h.nx = some (.cells (c7 x) h.nx false):=upd_eq _ _ _
  have hn4:h.nx < ((h.add [iv 0,iv 0,iv 0,iv 0,iv 0,iv 0,iv 0]).upd h.nx (c7 x) h.nx).nx:=Nat.lt_succ_self _
  simp (disch:=first|omega|(simp only [nZ] <;> omega)|decide) only [rUz,↓reduceIte,Nat.reduceEqDiff,Nat.reduceAdd]
  generalize (h.add [iv 0,iv 0,iv 0,iv 0,iv 0,iv 0,iv 0]).upd h.nx (c7 x) h.nx = h4 at hk4 hg4 hn4 ⊢
  have hb34:=(hk4.get (by omega:B3 < h.nx)).trans hb3i
  have hf34:=(hk4.fget (by omega:B3 < h.nx)).trans ((fr.fam B3 (by omega)).trans hf3)
  have hn44:=hk4.1
  obtain ⟨B4,hB4⟩:∃ x,x = h.nx:=⟨_,rfl⟩
  rw [← hB4] at hg4 hn4 ⊢
  clear q1 q2 q3 q4 q5 qp
  repeat refine S.seq ?_
  refine S.drawnL [(false,0),(false,1),(false,0),(false,4),(false,0),(false,16),(false,0),(false,64),(false,0),(false,256),(true,768),(false,0),(false,2048),(true,7936),(false,16380),(true,32764),(true,65535),(false,131071),(true,262143)] (by kernel_rfl) (by kernel_rfl) (by kernel_rfl) ?_
  simp (disch:=first|omega|(simp only [nZ] <;> omega)|decide) only [rUz,↓reduceIte,Nat.reduceEqDiff,Nat.reduceAdd,rDz,infoL,Nat.reduceSub,t3,hb34,hg4,fieldAddr_ptr fB2 lcT,qcT,fieldAddr_ptr frT0 s3,fieldAddr_ptr frT1 s3,fieldAddr_ptr frT2 s3,fieldAddr_ptr frT3 SrR,p3,c70,c71,c72,r73]
  refine draw_pick' rfl ?_
  simp (disch:=first|omega|(simp only [nZ] <;> omega)|decide) only [rUz,↓reduceIte,Nat.reduceEqDiff,Nat.reduceAdd,rDz,infoL,Nat.reduceSub,hg4,fieldAddr_ptr frT4 SrR,r75]
  refine draw_pick' rfl ?_
  simp (disch:=first|omega|(simp only [nZ] <;> omega)|decide) only [rUz,↓reduceIte,Nat.reduceEqDiff,Nat.reduceAdd,rDz,infoL,Nat.reduceSub,hg4,fieldAddr_ptr frT4 SrR,r75]
  refine drW_brings (fid:=35) (first:=#[]) (captured:=#[]) (Post:=fun u _=>u = .agg ⟨c2 x.so⟩) rfl (hoff _ _ _ rfl) (by simp (disch:=first|omega|(simp only [nZ] <;> omega)|decide) only [rUz,↓reduceIte,Nat.reduceEqDiff,Nat.reduceAdd]; exact to_y S _ x.so) (Nat.le_of_ble_eq_true rfl) ?_
  rintro u g hkA rfl
  have hgA:=(hkA.get hn4).trans hg4
  have hbA:=(hkA.get (by omega:B3 < h4.nx)).trans hb34
  have hveq:veq v1 v1 = true:=happ.veq
  refine ⟨?_,?_⟩
  ·try simp (disch:=first|decide|rfl) only [again_nil,again_skip,again_free]
   rw [again_same (v:=.agg ⟨c2 x.de⟩) (by simp (disch:=first|omega|(simp only [nZ] <;> omega)|decide) only [rUz,↓reduceIte,Nat.reduceEqDiff,Nat.reduceAdd,rDz,infoL,Nat.reduceSub,hgA,fieldAddr_ptr frT4 SrR,r75]) (veq_rg _)]
   try simp (disch:=first|decide|rfl) only [again_nil,again_skip,again_free]
   rw [again_same (v:=iv x.sh) (by simp (disch:=first|omega|(simp only [nZ] <;> omega)|decide) only [rUz,↓reduceIte,Nat.reduceEqDiff,Nat.reduceAdd,rDz,infoL,Nat.reduceSub,hgA,fieldAddr_ptr frT2 s3,p3,c72]) (by first|assumption|exact veq_int|rfl)]
   try simp (disch:=first|decide|rfl) only [again_nil,again_skip,again_free]
   rw [again_same (v:=iv x.bu) (by simp (disch:=first|omega|(simp only [nZ] <;> omega)|decide) only [rUz,↓reduceIte,Nat.reduceEqDiff,Nat.reduceAdd,rDz,infoL,Nat.reduceSub,hgA,fieldAddr_ptr frT1 s3,p3,c71]) (by first|assumption|exact veq_int|rfl)]
   try simp (disch:=first|decide|rfl) only [again_nil,again_skip,again_free]
   rw [again_same (v:=iv x.se) (by simp (disch:=first|omega|(simp only [nZ] <;> omega)|decide) only [rUz,↓reduceIte,Nat.reduceEqDiff,Nat.reduceAdd,rDz,infoL,Nat.reduceSub,hgA,fieldAddr_ptr frT0 s3,p3,c70]) (by first|assumption|exact veq_int|rfl)]
   try simp (disch:=first|decide|rfl) only [again_nil,again_skip,again_free]
   rw [again_same (v:=v1) (by simp (disch:=first|omega|(simp only [nZ] <;> omega)|decide) only [rUz,↓reduceIte,Nat.reduceEqDiff,Nat.reduceAdd,rDz,infoL,Nat.reduceSub,t3,hbA,fieldAddr_ptr fB2 lcT,qcT]) (by first|assumption|exact veq_int|rfl)]
   try simp (disch:=first|decide|rfl) only [again_nil,again_skip,again_free]
  simp (disch:=first|omega|(simp only [nZ] <;> omega)|decide) only [rUz,↓reduceIte,Nat.reduceEqDiff,Nat.reduceAdd,rDz,infoL,Nat.reduceSub]
  refine drW_brings (fid:=35) (first:=#[]) (captured:=#[]) (Post:=fun u _=>u = .agg ⟨c2 x.de⟩) rfl (hoff _ _ _ rfl) (by simp (disch:=first|omega|(simp only [nZ] <;> omega)|decide) only [rUz,↓reduceIte,Nat.reduceEqDiff,Nat.reduceAdd]; exact to_y S _ x.de) (Nat.le_of_ble_eq_true rfl) ?_
  rintro u g2 hkB rfl
  have hkC:=hkA.trans hkB
  have hgC:=(hkC.get hn4).trans hg4
  have hbC:=(hkC.get (by omega:B3 < h4.nx)).trans hb34
  have hfC:=(hkC.fget (by omega:B3 < h4.nx)).trans hf34
  have hnC:=hkC.1
  refine ⟨?_,?_⟩
  ·try simp (disch:=first|decide|rfl) only [again_nil,again_skip,again_free]
   rw [again_same (v:=iv x.sh) (by simp (disch:=first|omega|(simp only [nZ] <;> omega)|decide) only [rUz,↓reduceIte,Nat.reduceEqDiff,Nat.reduceAdd,rDz,infoL,Nat.reduceSub,hgC,fieldAddr_ptr frT2 s3,p3,c72]) (by first|assumption|exact veq_int|rfl)]
   try simp (disch:=first|decide|rfl) only [again_nil,again_skip,again_free]
   rw [again_same (v:=iv x.bu) (by simp (disch:=first|omega|(simp only [nZ] <;> omega)|decide) only [rUz,↓reduceIte,Nat.reduceEqDiff,Nat.reduceAdd,rDz,infoL,Nat.reduceSub,hgC,fieldAddr_ptr frT1 s3,p3,c71]) (by first|assumption|exact veq_int|rfl)]
   try simp (disch:=first|decide|rfl) only [again_nil,again_skip,again_free]
   rw [again_same (v:=iv x.se) (by simp (disch:=first|omega|(simp only [nZ] <;> omega)|decide) only [rUz,↓reduceIte,Nat.reduceEqDiff,Nat.reduceAdd,rDz,infoL,Nat.reduceSub,hgC,fieldAddr_ptr frT0 s3,p3,c70]) (by first|assumption|exact veq_int|rfl)]
   try simp (disch:=first|decide|rfl) only [again_nil,again_skip,again_free]
   rw [again_same (v:=v1) (by simp (disch:=first|omega|(simp only [nZ] <;> omega)|decide) only [rUz,↓reduceIte,Nat.reduceEqDiff,Nat.reduceAdd,rDz,infoL,Nat.reduceSub,t3,hbC,fieldAddr_ptr fB2 lcT,qcT]) (by first|assumption|exact veq_int|rfl)]
   try simp (disch:=first|decide|rfl) only [again_nil,again_skip,again_free]
  simp (disch:=first|omega|(simp only [nZ] <;> omega)|decide) only [rUz,↓reduceIte,Nat.reduceEqDiff,Nat.reduceAdd,rDz,infoL,Nat.reduceSub,rd_build,List.map_cons,List.map_nil,bTx]
  refine drW_give (v:=.slice (some ⟨g2.nx,0,none⟩) 1 1) (h':=g2.add (c7 x)) (aw_lit1 slcT scT zcT rfl (by omega) (u:=.agg ⟨c7 x⟩) (l:=c7 x) (by simp (disch:=first|omega|(simp only [nZ] <;> omega)|decide) only [rUz,↓reduceIte,Nat.reduceEqDiff,Nat.reduceAdd]) rfl rfl) (Nat.le_of_ble_eq_true rfl) ?_ ?_
  ·try simp (disch:=first|decide|rfl) only [again_nil,again_skip,again_free]
   rw [again_same (v:=v1) (by simp (disch:=first|omega|(simp only [nZ] <;> omega)|decide) only [rUz,↓reduceIte,Nat.reduceEqDiff,Nat.reduceAdd,rDz,infoL,Nat.reduceSub,t3,ag_ne,hbC,fieldAddr_ptr fB2 lcT,qcT]) (by first|assumption|exact veq_int|rfl)]
   try simp (disch:=first|decide|rfl) only [again_nil,again_skip,again_free]
  simp (disch:=first|omega|(simp only [nZ] <;> omega)|decide) only [rUz,↓reduceIte,Nat.reduceEqDiff,Nat.reduceAdd,rDz,infoL,Nat.reduceSub]
  have hk5:Kp h (g2.add (c7 x)):=(hk4.trans hkC).add
  refine drW_app (bx:=g2.nx) (cx:=1) (v:=v1) slcT ucT (by simp (disch:=first|omega|(simp only [nZ] <;> omega)|decide) only [rUz,↓reduceIte,Nat.reduceEqDiff,Nat.reduceAdd,rDz,infoL,Nat.reduceSub,t3]) (by simp (disch:=first|omega|(simp only [nZ] <;> omega)|decide) only [rUz,↓reduceIte,Nat.reduceEqDiff,Nat.reduceAdd,rDz,infoL,Nat.reduceSub]) (happ.mono hk5) (by show H0.nx ≤ g2.nx + 1; omega) scT rfl (by omega) (ag_eq rfl) ncT (by rw [List.length_take,List.length_map]; show _ < 1000000; omega) (Nat.le_of_ble_eq_true rfl) ?_
  intro v3 h3 F3 gr
  refine ⟨?_,?_⟩
  ·try simp (disch:=first|decide|rfl) only [again_nil,again_skip,again_free]
  obtain ⟨qb,nb,cb,hv3⟩:=gr.app.sl
  subst hv3
  have hgn:(g2.add (c7 x)).nx = g2.nx + 1:=rfl
  have hb3x:h3.bl.get B3 = some (.cells [iv c.hs,vh,v1,nl,nl,nl] B3 false):=by rw [(gr.sm.2 B3 (by omega)).1,ag_ne (by omega)]; exact hbC
  have hf3x:h3.fams.get B3 = some [B3]:=by rw [(gr.sm.2 B3 (by omega)).2,af_ne (by omega)]; exact hfC
  simp (disch:=first|omega|(simp only [nZ] <;> omega)|decide) only [rUz,↓reduceIte,Nat.reduceEqDiff,Nat.reduceAdd,rDz,infoL,Nat.reduceSub,t3,fieldAddr_ptr fB2 lcT]
  refine drW_giveN (aw_store1 (B:=B3) (off:=2) (v:=.slice qb nb cb) (by simp (disch:=first|omega|(simp only [nZ] <;> omega)|decide) only [rUz,↓reduceIte,Nat.reduceEqDiff,Nat.reduceAdd,rDz,infoL,Nat.reduceSub]) (by simp (disch:=first|omega|(simp only [nZ] <;> omega)|decide) only [rUz,↓reduceIte,Nat.reduceEqDiff,Nat.reduceAdd,rDz,infoL,Nat.reduceSub]) lcT' rfl rfl hb3x hf3x (by simp)) ?_ ?_
  ·try simp (disch:=first|decide|rfl) only [again_nil,again_skip,again_free]
  simp (disch:=first|omega|(simp only [nZ] <;> omega)|decide) only [rUz,↓reduceIte,Nat.reduceEqDiff,Nat.reduceAdd,rDz,infoL,Nat.reduceSub]
  repeat refine S.seq ?_
  refine S.region ?_
  simp (disch:=first|omega|(simp only [nZ] <;> omega)|decide) only [rUz,↓reduceIte,Nat.reduceEqDiff,Nat.reduceAdd,tc]
  have hfr:Fr H0 B3 (h3.upd B3 ([iv c.hs,vh,v1,nl,nl,nl].set 2 (.slice qb nb cb)) B3):=((fr.kp hk5).sm gr.sm (Nat.le_refl _)).upd
  refine hn (k + 1) _ _ (by omega) ⟨.slice qb nb cb,F3,by omega,hfr,?_,?_,?_,?_,upd_eq _ _ _,?_,gr.app.fam_lt (by simp)⟩
  ·simp (disch:=first|omega|(simp only [nZ] <;> omega)|decide) only [rUz,↓reduceIte,Nat.reduceEqDiff,Nat.reduceAdd,t1]
  ·simp (disch:=first|omega|(simp only [nZ] <;> omega)|decide) only [rUz,↓reduceIte,Nat.reduceEqDiff,Nat.reduceAdd,t2]
  ·simp (disch:=first|omega|(simp only [nZ] <;> omega)|decide) only [rUz,↓reduceIte,Nat.reduceEqDiff,Nat.reduceAdd,t3]
  ·simp (disch:=first|omega|(simp only [nZ] <;> omega)|decide) only [rUz,↓reduceIte,Nat.reduceEqDiff,Nat.reduceAdd]
  ·rw [hrows]; exact gr.app.upd (by omega)
 have hkn:k = c.tr.length:=by have:=of_decide_eq_false e; omega
 subst hkn
 rw [List.take_of_length_le (by rw [List.length_map]; exact Nat.le_refl _)] at happ
 refine S.exit (he _ _ _ _ (fun e=>by cases e) ?_)
 clear hn he K'
 simp (disch:=first|omega|(simp only [nZ] <;> omega)|decide) only [rUz,↓reduceIte,Nat.reduceEqDiff,Nat.reduceAdd]
 have hin:=hin.fr fr (by omega)
 have ha1:=happ
 have hb2:=(fr.bl B2 (by omega) (by omega)).trans hb2
 have hf2:=(fr.fam B2 (by omega)).trans hf2
 have hf3:=(fr.fam B3 (by omega)).trans hf3
 have hb1:=hb1i
 have hb3:=hb3i
 have hkH:=hkp
 have hn3:B3 + 1 ≤ h.nx:=by omega
 have hlo1:B3 < H0.nx:=by omega
 clear hk hlen e fr tc happ hFl hb1i hb3i hkp hle

 generalize h = H1 at *
 repeat refine S.seq ?_
 refine S.region ?_
 simp (disch:=first|omega|(simp only [nZ] <;> omega)|decide) only [rUz,↓reduceIte,Nat.reduceEqDiff,Nat.reduceAdd]
 repeat refine S.seq ?_
 refine S.block ?_
 refine S.loop (ι:=Nat) (ICx H1 B1 B2 B3 6 3 c.dv.length (fun u=>[iv c.hs,vh,v1,u,nl,nl]) (c.dv.map c3)) (fun k=>c.dv.length - k) ?_ 0 _ _ ?_
 rotate_left
 ·refine ⟨nl,0,Nat.zero_le _,Fr.refl,?_,?_,?_,?_,hb3,.inl ⟨rfl,rfl⟩,by omega⟩
  all_goals (first|rfl|(simp (disch:=first|omega|(simp only [nZ] <;> omega)|decide) only [rUz,↓reduceIte,Nat.reduceEqDiff,Nat.reduceAdd,t1,t2,t3]; done)|(simp (disch:=first|omega|(simp only [nZ] <;> omega)|decide) only [rUz,↓reduceIte,Nat.reduceEqDiff,Nat.reduceAdd,t1,t2,t3]; rfl))
 clear t1 t2 t3
 clear t
 intro k t h ⟨v2,F,hk,fr,t1,t2,t3,tc,hb3i,happ,hFl⟩ K' hn he
 have hb1i:=(fr.bl B1 (by omega) (by omega)).trans hb1
 have hkp:=fr.toKp hkH (by omega)
 have hle:=fr.le
 have hlen:=fun t h1 o=>row_len (SlAt.mono hc.dv hkp) isrD t h1 o
 repeat refine S.seq ?_
 refine S.region ?_
 simp (disch:=first|omega|(simp only [nZ] <;> omega)|decide) only [rUz,↓reduceIte,Nat.reduceEqDiff,Nat.reduceAdd,t1,tc,hb1i,fieldAddr_ptr fA3 lrD,qrD,co3,hlen]
 repeat refine S.seq ?_
 refine S.cond (v:=decide ((k:Int) < (c.dv.length:Int))) (by first|rfl|(simp (disch:=first|omega|(simp only [nZ] <;> omega)|decide) only [rUz,↓reduceIte,Nat.reduceEqDiff,Nat.reduceAdd] <;> rfl)) (fun e=>?_) (fun e=>?_)
 ·have hkn:k < c.dv.length:=by have:=of_decide_eq_true e; omega
  clear e
  have hps:c.dv[k]? = some c.dv[k]:=List.getElem?_eq_getElem hkn
  generalize c.dv[k] = x at hps
  obtain ⟨b,f,ro,cells,q1,q2,q3,q4,q5,_⟩:=row_idx (SlAt.mono hc.dv hkp) slrD srD hps
  have qp:=part_at prD q4 q5
  have hrows:∀ cv:_ → List Value,((c.dv.map cv).take (k + 1)) = (c.dv.map cv).take k ++ [cv x]:=fun cv=>by
   rw [List.take_add_one,List.getElem?_map,hps]; rfl
  repeat refine S.seq ?_
  refine S.skip ?_
  simp (disch:=first|omega|(simp only [nZ] <;> omega)|decide) only [rUz,↓reduceIte,Nat.reduceEqDiff,Nat.reduceAdd]
  repeat refine S.seq ?_
  refine S.block ?_
  repeat refine S.seq ?_
  refine S.region ?_
  simp (disch:=first|omega|(simp only [nZ] <;> omega)|decide) only [rUz,↓reduceIte,Nat.reduceEqDiff,Nat.reduceAdd,t1,tc,fieldAddr_ptr fA3 lrD,qrD,co3,hb1i,q1,q3,qp,wr_alloc zrD]
  refine wr_storeN (B:=h.nx) (c:=[iv 0,iv 0,iv 0]) (fam:=h.nx) (k:=h.nx) (l:=c3 x) (by simp (disch:=first|omega|(simp only [nZ] <;> omega)|decide) only [rUz,↓reduceIte,Nat.reduceEqDiff,Nat.reduceAdd]) (by simp (disch:=first|omega|(simp only [nZ] <;> omega)|decide) only [rUz,↓reduceIte,Nat.reduceEqDiff,Nat.reduceAdd]) srD (by omega) rfl (ag_eq rfl) (af_eq rfl) rfl ?_
  have hk4:Kp h ((h.add [iv 0,iv 0,iv 0]).upd h.nx (c3 x) h.nx):=Kp.refl.add.upd (Nat.le_refl _)
  have hg4:((h.add [iv 0,iv 0,iv 0]).upd h.nx (c3 x) h.nx).bl.get h.nx = some (.cells (c3 x) h.nx false):=upd_eq _ _ _
  have hn4:h.nx < ((h.add [iv 0,iv 0,iv 0]).upd h.nx (c3 x) h.nx).nx:=Nat.lt_succ_self _
  simp (disch:=first|omega|(simp only [nZ] <;> omega)|decide) only [rUz,↓reduceIte,Nat.reduceEqDiff,Nat.reduceAdd]
  generalize (h.add [iv 0,iv 0,iv 0]).upd h.nx (c3 x) h.nx = h4 at hk4 hg4 hn4 ⊢
  have hb34:=(hk4.get (by omega:B3 < h.nx)).trans hb3i
  have hf34:=(hk4.fget (by omega:B3 < h.nx)).trans ((fr.fam B3 (by omega)).trans hf3)
  have hn44:=hk4.1
  obtain ⟨B4,hB4⟩:∃ x,x = h.nx:=⟨_,rfl⟩
  rw [← hB4] at hg4 hn4 ⊢
  clear q1 q2 q3 q4 q5 qp
  repeat refine S.seq ?_
  refine S.region ?_
  simp (disch:=first|omega|(simp only [nZ] <;> omega)|decide) only [rUz,↓reduceIte,Nat.reduceEqDiff,Nat.reduceAdd,t3,hb34,hg4,fieldAddr_ptr fB3 lcD,qcD,p3,fieldAddr_ptr frD0 s3,fieldAddr_ptr frD1 s3,fieldAddr_ptr frD2 s3,c30,c31,c32,rd_build,w_build,List.map_cons,List.map_nil,bDx,w_buildSlice,w_append]
  refine wr_lit1 slcD scD zcD rfl (by omega) (u:=.agg ⟨c3 x⟩) (l:=c3 x) (by simp (disch:=first|omega|(simp only [nZ] <;> omega)|decide) only [rUz,↓reduceIte,Nat.reduceEqDiff,Nat.reduceAdd]) rfl rfl ?_
  simp (disch:=first|omega|(simp only [nZ] <;> omega)|decide) only [rUz,↓reduceIte,Nat.reduceEqDiff,Nat.reduceAdd,w_append]
  have hk5:Kp h (h4.add (c3 x)):=hk4.add
  refine wr_append slcD ucD (v:=v2) (bx:=h4.nx) (cx:=1) (by simp (disch:=first|omega|(simp only [nZ] <;> omega)|decide) only [rUz,↓reduceIte,Nat.reduceEqDiff,Nat.reduceAdd]) (by simp (disch:=first|omega|(simp only [nZ] <;> omega)|decide) only [rUz,↓reduceIte,Nat.reduceEqDiff,Nat.reduceAdd]) (happ.mono hk5) (by show H1.nx ≤ h4.nx + 1; omega) scD rfl (by omega) (ag_eq rfl) ncD (by rw [List.length_take,List.length_map]; show _ < 1000000; omega) ?_
  intro v3 h3 F3 a1 a2 a3 a4 a5
  obtain ⟨qb,nb,cb,hv3⟩:=a1.sl
  subst hv3
  have hgn:(h4.add (c3 x)).nx = h4.nx + 1:=rfl
  have hb3x:h3.bl.get B3 = some (.cells [iv c.hs,vh,v1,v2,nl,nl] B3 false):=by rw [(a2.2 B3 (by omega)).1,ag_ne (by omega)]; exact hb34
  have hf3x:h3.fams.get B3 = some [B3]:=by rw [(a2.2 B3 (by omega)).2,af_ne (by omega)]; exact hf34
  simp (disch:=first|omega|(simp only [nZ] <;> omega)|decide) only [rUz,↓reduceIte,Nat.reduceEqDiff,Nat.reduceAdd,t3,fieldAddr_ptr fB3 lcD]
  refine wr_store lcD' ?_
  simp (disch:=first|omega|(simp only [nZ] <;> omega)|decide) only [rUz,↓reduceIte,Nat.reduceEqDiff,Nat.reduceAdd,stSl,hb3x,hf3x,List.length_cons,List.length_nil]
  repeat refine S.seq ?_
  refine S.region ?_
  simp (disch:=first|omega|(simp only [nZ] <;> omega)|decide) only [rUz,↓reduceIte,Nat.reduceEqDiff,Nat.reduceAdd,tc]
  have hfr:Fr H1 B3 (h3.upd B3 ([iv c.hs,vh,v1,v2,nl,nl].set 3 (.slice qb nb cb)) B3):=((fr.kp hk5).sm a2 (Nat.le_refl _)).upd
  refine hn (k + 1) _ _ (by omega) ⟨.slice qb nb cb,F3,by omega,hfr,?_,?_,?_,?_,upd_eq _ _ _,?_,a1.fam_lt (by simp)⟩
  ·simp (disch:=first|omega|(simp only [nZ] <;> omega)|decide) only [rUz,↓reduceIte,Nat.reduceEqDiff,Nat.reduceAdd,t1]
  ·simp (disch:=first|omega|(simp only [nZ] <;> omega)|decide) only [rUz,↓reduceIte,Nat.reduceEqDiff,Nat.reduceAdd,t2]
  ·simp (disch:=first|omega|(simp only [nZ] <;> omega)|decide) only [rUz,↓reduceIte,Nat.reduceEqDiff,Nat.reduceAdd,t3]
  ·simp (disch:=first|omega|(simp only [nZ] <;> omega)|decide) only [rUz,↓reduceIte,Nat.reduceEqDiff,Nat.reduceAdd]
  ·rw [hrows]; exact a1.upd (by omega)
 have hkn:k = c.dv.length:=by have:=of_decide_eq_false e; omega
 subst hkn
 rw [List.take_of_length_le (by rw [List.length_map]; exact Nat.le_refl _)] at happ
 refine S.exit (he _ _ _ _ (fun e=>by cases e) ?_)
 clear hn he K'
 simp (disch:=first|omega|(simp only [nZ] <;> omega)|decide) only [rUz,↓reduceIte,Nat.reduceEqDiff,Nat.reduceAdd]
 have hin:=hin.fr fr (by omega)
 have ha1:=ha1.fr fr (by omega)
 have ha2:=happ
 have hb2:=(fr.bl B2 (by omega) (by omega)).trans hb2
 have hf2:=(fr.fam B2 (by omega)).trans hf2
 have hf3:=(fr.fam B3 (by omega)).trans hf3
 have hb1:=hb1i
 have hb3:=hb3i
 have hkH:=hkp
 have hn3:B3 + 1 ≤ h.nx:=by omega
 have hlo2:B3 < H1.nx:=by omega
 clear hk hlen e fr tc happ hFl hb1i hb3i hkp hle
 generalize h = H2 at *
 repeat refine S.seq ?_
 refine S.region ?_
 simp (disch:=first|omega|(simp only [nZ] <;> omega)|decide) only [rUz,↓reduceIte,Nat.reduceEqDiff,Nat.reduceAdd]
 repeat refine S.seq ?_
 refine S.block ?_
 refine S.loop (ι:=Nat) (ICx H2 B1 B2 B3 8 3 c.sp.length (fun u=>[iv c.hs,vh,v1,v2,u,nl]) (c.sp.map c3)) (fun k=>c.sp.length - k) ?_ 0 _ _ ?_
 rotate_left
 ·refine ⟨nl,0,Nat.zero_le _,Fr.refl,?_,?_,?_,?_,hb3,.inl ⟨rfl,rfl⟩,by omega⟩
  all_goals (first|rfl|(simp (disch:=first|omega|(simp only [nZ] <;> omega)|decide) only [rUz,↓reduceIte,Nat.reduceEqDiff,Nat.reduceAdd,t1,t2,t3]; done)|(simp (disch:=first|omega|(simp only [nZ] <;> omega)|decide) only [rUz,↓reduceIte,Nat.reduceEqDiff,Nat.reduceAdd,t1,t2,t3]; rfl))
 clear t1 t2 t3
 clear t
 intro k t h ⟨v3,F,hk,fr,t1,t2,t3,tc,hb3i,happ,hFl⟩ K' hn he
 have hb1i:=(fr.bl B1 (by omega) (by omega)).trans hb1
 have hkp:=fr.toKp hkH (by omega)
 have hle:=fr.le
 have hlen:=fun t h1 o=>row_len (SlAt.mono hc.sp hkp) isrS t h1 o
 repeat refine S.seq ?_
 refine S.region ?_
 simp (disch:=first|omega|(simp only [nZ] <;> omega)|decide) only [rUz,↓reduceIte,Nat.reduceEqDiff,Nat.reduceAdd,t1,tc,hb1i,fieldAddr_ptr fA4 lrS,qrS,co4,hlen]
 repeat refine S.seq ?_
 refine S.cond (v:=decide ((k:Int) < (c.sp.length:Int))) (by first|rfl|(simp (disch:=first|omega|(simp only [nZ] <;> omega)|decide) only [rUz,↓reduceIte,Nat.reduceEqDiff,Nat.reduceAdd] <;> rfl)) (fun e=>?_) (fun e=>?_)
 ·have hkn:k < c.sp.length:=by have:=of_decide_eq_true e; omega
  clear e
  have hps:c.sp[k]? = some c.sp[k]:=List.getElem?_eq_getElem hkn
  generalize c.sp[k] = x at hps
  obtain ⟨b,f,ro,cells,q1,q2,q3,q4,q5,_⟩:=row_idx (SlAt.mono hc.sp hkp) slrS srS hps
  have qp:=part_at prS q4 q5
  have hrows:∀ cv:_ → List Value,((c.sp.map cv).take (k + 1)) = (c.sp.map cv).take k ++ [cv x]:=fun cv=>by
   rw [List.take_add_one,List.getElem?_map,hps]; rfl
  repeat refine S.seq ?_
  refine S.skip ?_
  simp (disch:=first|omega|(simp only [nZ] <;> omega)|decide) only [rUz,↓reduceIte,Nat.reduceEqDiff,Nat.reduceAdd]
  repeat refine S.seq ?_
  refine S.block ?_
  repeat refine S.seq ?_
  refine S.region ?_
  simp (disch:=first|omega|(simp only [nZ] <;> omega)|decide) only [rUz,↓reduceIte,Nat.reduceEqDiff,Nat.reduceAdd,t1,tc,fieldAddr_ptr fA4 lrS,qrS,co4,hb1i,q1,q3,qp,wr_alloc zrS]
  refine wr_storeN (B:=h.nx) (c:=[iv 0,iv 0,iv 0]) (fam:=h.nx) (k:=h.nx) (l:=c3 x) (by simp (disch:=first|omega|(simp only [nZ] <;> omega)|decide) only [rUz,↓reduceIte,Nat.reduceEqDiff,Nat.reduceAdd]) (by simp (disch:=first|omega|(simp only [nZ] <;> omega)|decide) only [rUz,↓reduceIte,Nat.reduceEqDiff,Nat.reduceAdd]) srS (by omega) rfl (ag_eq rfl) (af_eq rfl) rfl ?_
  have hk4:Kp h ((h.add [iv 0,iv 0,iv 0]).upd h.nx (c3 x) h.nx):=Kp.refl.add.upd (Nat.le_refl _)
  have hg4:((h.add [iv 0,iv 0,iv 0]).upd h.nx (c3 x) h.nx).bl.get h.nx = some (.cells (c3 x) h.nx false):=upd_eq _ _ _
  have hn4:h.nx < ((h.add [iv 0,iv 0,iv 0]).upd h.nx (c3 x) h.nx).nx:=Nat.lt_succ_self _
  simp (disch:=first|omega|(simp only [nZ] <;> omega)|decide) only [rUz,↓reduceIte,Nat.reduceEqDiff,Nat.reduceAdd]
  generalize (h.add [iv 0,iv 0,iv 0]).upd h.nx (c3 x) h.nx = h4 at hk4 hg4 hn4 ⊢
  have hb34:=(hk4.get (by omega:B3 < h.nx)).trans hb3i
  have hf34:=(hk4.fget (by omega:B3 < h.nx)).trans ((fr.fam B3 (by omega)).trans hf3)
  have hn44:=hk4.1
  obtain ⟨B4,hB4⟩:∃ x,x = h.nx:=⟨_,rfl⟩
  rw [← hB4] at hg4 hn4 ⊢
  clear q1 q2 q3 q4 q5 qp
  repeat refine S.seq ?_
  refine S.region ?_
  simp (disch:=first|omega|(simp only [nZ] <;> omega)|decide) only [rUz,↓reduceIte,Nat.reduceEqDiff,Nat.reduceAdd,t3,hb34,hg4,fieldAddr_ptr fB4 lcS,qcS,p3,fieldAddr_ptr frS0 s3,fieldAddr_ptr frS1 s3,fieldAddr_ptr frS2 s3,c30,c31,c32,rd_build,w_build,List.map_cons,List.map_nil,bSx,w_buildSlice,w_append]
  refine wr_lit1 slcS scS zcS rfl (by omega) (u:=.agg ⟨c3 x⟩) (l:=c3 x) (by simp (disch:=first|omega|(simp only [nZ] <;> omega)|decide) only [rUz,↓reduceIte,Nat.reduceEqDiff,Nat.reduceAdd]) rfl rfl ?_
  simp (disch:=first|omega|(simp only [nZ] <;> omega)|decide) only [rUz,↓reduceIte,Nat.reduceEqDiff,Nat.reduceAdd,w_append]
  have hk5:Kp h (h4.add (c3 x)):=hk4.add
  refine wr_append slcS ucS (v:=v3) (bx:=h4.nx) (cx:=1) (by simp (disch:=first|omega|(simp only [nZ] <;> omega)|decide) only [rUz,↓reduceIte,Nat.reduceEqDiff,Nat.reduceAdd]) (by simp (disch:=first|omega|(simp only [nZ] <;> omega)|decide) only [rUz,↓reduceIte,Nat.reduceEqDiff,Nat.reduceAdd]) (happ.mono hk5) (by show H2.nx ≤ h4.nx + 1; omega) scS rfl (by omega) (ag_eq rfl) ncS (by rw [List.length_take,List.length_map]; show _ < 1000000; omega) ?_
  intro v3 h3 F3 a1 a2 a3 a4 a5
  obtain ⟨qb,nb,cb,hv3⟩:=a1.sl
  subst hv3
  have hgn:(h4.add (c3 x)).nx = h4.nx + 1:=rfl
  have hb3x:h3.bl.get B3 = some (.cells [iv c.hs,vh,v1,v2,v3,nl] B3 false):=by rw [(a2.2 B3 (by omega)).1,ag_ne (by omega)]; exact hb34
  have hf3x:h3.fams.get B3 = some [B3]:=by rw [(a2.2 B3 (by omega)).2,af_ne (by omega)]; exact hf34
  simp (disch:=first|omega|(simp only [nZ] <;> omega)|decide) only [rUz,↓reduceIte,Nat.reduceEqDiff,Nat.reduceAdd,t3,fieldAddr_ptr fB4 lcS]
  refine wr_store lcS' ?_
  simp (disch:=first|omega|(simp only [nZ] <;> omega)|decide) only [rUz,↓reduceIte,Nat.reduceEqDiff,Nat.reduceAdd,stSl,hb3x,hf3x,List.length_cons,List.length_nil]
  repeat refine S.seq ?_
  refine S.region ?_
  simp (disch:=first|omega|(simp only [nZ] <;> omega)|decide) only [rUz,↓reduceIte,Nat.reduceEqDiff,Nat.reduceAdd,tc]
  have hfr:Fr H2 B3 (h3.upd B3 ([iv c.hs,vh,v1,v2,v3,nl].set 4 (.slice qb nb cb)) B3):=((fr.kp hk5).sm a2 (Nat.le_refl _)).upd
  refine hn (k + 1) _ _ (by omega) ⟨.slice qb nb cb,F3,by omega,hfr,?_,?_,?_,?_,upd_eq _ _ _,?_,a1.fam_lt (by simp)⟩
  ·simp (disch:=first|omega|(simp only [nZ] <;> omega)|decide) only [rUz,↓reduceIte,Nat.reduceEqDiff,Nat.reduceAdd,t1]
  ·simp (disch:=first|omega|(simp only [nZ] <;> omega)|decide) only [rUz,↓reduceIte,Nat.reduceEqDiff,Nat.reduceAdd,t2]
  ·simp (disch:=first|omega|(simp only [nZ] <;> omega)|decide) only [rUz,↓reduceIte,Nat.reduceEqDiff,Nat.reduceAdd,t3]
  ·simp (disch:=first|omega|(simp only [nZ] <;> omega)|decide) only [rUz,↓reduceIte,Nat.reduceEqDiff,Nat.reduceAdd]
  ·rw [hrows]; exact a1.upd (by omega)
 have hkn:k = c.sp.length:=by have:=of_decide_eq_false e; omega
 subst hkn
 rw [List.take_of_length_le (by rw [List.length_map]; exact Nat.le_refl _)] at happ
 refine S.exit (he _ _ _ _ (fun e=>by cases e) ?_)
 clear hn he K'
 simp (disch:=first|omega|(simp only [nZ] <;> omega)|decide) only [rUz,↓reduceIte,Nat.reduceEqDiff,Nat.reduceAdd]
 have hin:=hin.fr fr (by omega)
 have ha1:=ha1.fr fr (by omega)
 have ha2:=ha2.fr fr (by omega)
 have ha3:=happ
 have hb2:=(fr.bl B2 (by omega) (by omega)).trans hb2
 have hf2:=(fr.fam B2 (by omega)).trans hf2
 have hf3:=(fr.fam B3 (by omega)).trans hf3
 have hb1:=hb1i
 have hb3:=hb3i
 have hkH:=hkp
 have hn3:B3 + 1 ≤ h.nx:=by omega
 have hlo3:B3 < H2.nx:=by omega
 clear hk hlen e fr tc happ hFl hb1i hb3i hkp hle
 generalize h = H3 at *
 repeat refine S.seq ?_
 refine S.region ?_
 simp (disch:=first|omega|(simp only [nZ] <;> omega)|decide) only [rUz,↓reduceIte,Nat.reduceEqDiff,Nat.reduceAdd]
 repeat refine S.seq ?_
 refine S.block ?_
 refine S.loop (ι:=Nat) (ICx H3 B1 B2 B3 10 2 c.cl.length (fun u=>[iv c.hs,vh,v1,v2,v3,u]) (c.cl.map c2)) (fun k=>c.cl.length - k) ?_ 0 _ _ ?_
 rotate_left
 ·refine ⟨nl,0,Nat.zero_le _,Fr.refl,?_,?_,?_,?_,hb3,.inl ⟨rfl,rfl⟩,by omega⟩
  all_goals (first|rfl|(simp (disch:=first|omega|(simp only [nZ] <;> omega)|decide) only [rUz,↓reduceIte,Nat.reduceEqDiff,Nat.reduceAdd,t1,t2,t3]; done)|(simp (disch:=first|omega|(simp only [nZ] <;> omega)|decide) only [rUz,↓reduceIte,Nat.reduceEqDiff,Nat.reduceAdd,t1,t2,t3]; rfl))
 clear t1 t2 t3
 clear t
 intro k t h ⟨v4,F,hk,fr,t1,t2,t3,tc,hb3i,happ,hFl⟩ K' hn he
 have hb1i:=(fr.bl B1 (by omega) (by omega)).trans hb1
 have hkp:=fr.toKp hkH (by omega)
 have hle:=fr.le
 have hlen:=fun t h1 o=>row_len (SlAt.mono hc.cl hkp) isrR t h1 o
 repeat refine S.seq ?_
 refine S.region ?_
 simp (disch:=first|omega|(simp only [nZ] <;> omega)|decide) only [rUz,↓reduceIte,Nat.reduceEqDiff,Nat.reduceAdd,t1,tc,hb1i,fieldAddr_ptr fA5 lrR,qrR,co5,hlen]
 repeat refine S.seq ?_
 refine S.cond (v:=decide ((k:Int) < (c.cl.length:Int))) (by first|rfl|(simp (disch:=first|omega|(simp only [nZ] <;> omega)|decide) only [rUz,↓reduceIte,Nat.reduceEqDiff,Nat.reduceAdd] <;> rfl)) (fun e=>?_) (fun e=>?_)
 ·have hkn:k < c.cl.length:=by have:=of_decide_eq_true e; omega
  clear e
  have hps:c.cl[k]? = some c.cl[k]:=List.getElem?_eq_getElem hkn
  generalize c.cl[k] = x at hps
  obtain ⟨b,f,ro,cells,q1,q2,q3,q4,q5,_⟩:=row_idx (SlAt.mono hc.cl hkp) slrR srR hps
  have qp:=part_at prR q4 q5
  have hrows:∀ cv:_ → List Value,((c.cl.map cv).take (k + 1)) = (c.cl.map cv).take k ++ [cv x]:=fun cv=>by
   rw [List.take_add_one,List.getElem?_map,hps]; rfl
  repeat refine S.seq ?_
  refine S.skip ?_
  simp (disch:=first|omega|(simp only [nZ] <;> omega)|decide) only [rUz,↓reduceIte,Nat.reduceEqDiff,Nat.reduceAdd]
  repeat refine S.seq ?_
  refine S.block ?_
  have hf34:=(fr.fam B3 (by omega)).trans hf3
  repeat refine S.seq ?_
  refine S.drawnL [(false,0),(false,1),(false,0),(false,4),(false,0),(false,28),(false,60),(true,124),(true,252),(true,511),(false,1023),(true,2047)] (by kernel_rfl) (by kernel_rfl) (by kernel_rfl) ?_
  simp (disch:=first|omega|(simp only [nZ] <;> omega)|decide) only [rUz,↓reduceIte,Nat.reduceEqDiff,Nat.reduceAdd,rDz,infoL,Nat.reduceSub,t1,t3,tc,hb1i,hb3i,fieldAddr_ptr fB5 lcR,qcR,fieldAddr_ptr fA5 lrR,qrR,co5,q1,q3,qp]
  refine drW_brings (fid:=35) (first:=#[]) (captured:=#[]) (Post:=fun u _=>u = .agg ⟨c2 x⟩) rfl (hoff _ _ _ rfl) (by simp (disch:=first|omega|(simp only [nZ] <;> omega)|decide) only [rUz,↓reduceIte,Nat.reduceEqDiff,Nat.reduceAdd]; exact to_y S _ x) (Nat.le_of_ble_eq_true rfl) ?_
  rintro u g2 hkC rfl
  have hbC:=(hkC.get (by omega:B3 < h.nx)).trans hb3i
  have hfC:=(hkC.fget (by omega:B3 < h.nx)).trans hf34
  have hnC:=hkC.1
  have hveq:veq v4 v4 = true:=happ.veq
  refine ⟨?_,?_⟩
  ·try simp (disch:=first|decide|rfl) only [again_nil,again_skip,again_free]
   rw [again_same (v:=v4) (by simp (disch:=first|omega|(simp only [nZ] <;> omega)|decide) only [rUz,↓reduceIte,Nat.reduceEqDiff,Nat.reduceAdd,rDz,infoL,Nat.reduceSub,t3,hbC,fieldAddr_ptr fB5 lcR,qcR]) (by first|assumption|exact veq_int|rfl)]
   try simp (disch:=first|decide|rfl) only [again_nil,again_skip,again_free]
  simp (disch:=first|omega|(simp only [nZ] <;> omega)|decide) only [rUz,↓reduceIte,Nat.reduceEqDiff,Nat.reduceAdd,rDz,infoL,Nat.reduceSub]
  refine drW_give (v:=.slice (some ⟨g2.nx,0,none⟩) 1 1) (h':=g2.add (c2 x)) (aw_lit1 slcR scR zcR rfl (by omega) (u:=.agg ⟨c2 x⟩) (l:=c2 x) (by simp (disch:=first|omega|(simp only [nZ] <;> omega)|decide) only [rUz,↓reduceIte,Nat.reduceEqDiff,Nat.reduceAdd]) rfl rfl) (Nat.le_of_ble_eq_true rfl) ?_ ?_
  ·try simp (disch:=first|decide|rfl) only [again_nil,again_skip,again_free]
   rw [again_same (v:=v4) (by simp (disch:=first|omega|(simp only [nZ] <;> omega)|decide) only [rUz,↓reduceIte,Nat.reduceEqDiff,Nat.reduceAdd,rDz,infoL,Nat.reduceSub,t3,ag_ne,hbC,fieldAddr_ptr fB5 lcR,qcR]) (by first|assumption|exact veq_int|rfl)]
   try simp (disch:=first|decide|rfl) only [again_nil,again_skip,again_free]
  simp (disch:=first|omega|(simp only [nZ] <;> omega)|decide) only [rUz,↓reduceIte,Nat.reduceEqDiff,Nat.reduceAdd,rDz,infoL,Nat.reduceSub]
  have hk5:Kp h (g2.add (c2 x)):=hkC.add
  refine drW_app (bx:=g2.nx) (cx:=1) (v:=v4) slcR ucR (by simp (disch:=first|omega|(simp only [nZ] <;> omega)|decide) only [rUz,↓reduceIte,Nat.reduceEqDiff,Nat.reduceAdd,rDz,infoL,Nat.reduceSub,t3]) (by simp (disch:=first|omega|(simp only [nZ] <;> omega)|decide) only [rUz,↓reduceIte,Nat.reduceEqDiff,Nat.reduceAdd,rDz,infoL,Nat.reduceSub]) (happ.mono hk5) (by show H3.nx ≤ g2.nx + 1; omega) scR rfl (by omega) (ag_eq rfl) ncR (by rw [List.length_take,List.length_map]; show _ < 1000000; omega) (Nat.le_of_ble_eq_true rfl) ?_
  intro v3' h3 F3 gr
  refine ⟨?_,?_⟩
  ·try simp (disch:=first|decide|rfl) only [again_nil,again_skip,again_free]
  obtain ⟨qb,nb,cb,hv3⟩:=gr.app.sl
  subst hv3
  have hgn:(g2.add (c2 x)).nx = g2.nx + 1:=rfl
  have hb3x:h3.bl.get B3 = some (.cells [iv c.hs,vh,v1,v2,v3,v4] B3 false):=by rw [(gr.sm.2 B3 (by omega)).1,ag_ne (by omega)]; exact hbC
  have hf3x:h3.fams.get B3 = some [B3]:=by rw [(gr.sm.2 B3 (by omega)).2,af_ne (by omega)]; exact hfC
  simp (disch:=first|omega|(simp only [nZ] <;> omega)|decide) only [rUz,↓reduceIte,Nat.reduceEqDiff,Nat.reduceAdd,rDz,infoL,Nat.reduceSub,t3,fieldAddr_ptr fB5 lcR]
  refine drW_giveN (aw_store1 (B:=B3) (off:=5) (v:=.slice qb nb cb) (by simp (disch:=first|omega|(simp only [nZ] <;> omega)|decide) only [rUz,↓reduceIte,Nat.reduceEqDiff,Nat.reduceAdd,rDz,infoL,Nat.reduceSub]) (by simp (disch:=first|omega|(simp only [nZ] <;> omega)|decide) only [rUz,↓reduceIte,Nat.reduceEqDiff,Nat.reduceAdd,rDz,infoL,Nat.reduceSub]) lcR' rfl rfl hb3x hf3x (by simp)) ?_ ?_
  ·try simp (disch:=first|decide|rfl) only [again_nil,again_skip,again_free]
  simp (disch:=first|omega|(simp only [nZ] <;> omega)|decide) only [rUz,↓reduceIte,Nat.reduceEqDiff,Nat.reduceAdd,rDz,infoL,Nat.reduceSub]
  repeat refine S.seq ?_
  refine S.region ?_
  simp (disch:=first|omega|(simp only [nZ] <;> omega)|decide) only [rUz,↓reduceIte,Nat.reduceEqDiff,Nat.reduceAdd,tc]
  have hfr:Fr H3 B3 (h3.upd B3 ([iv c.hs,vh,v1,v2,v3,v4].set 5 (.slice qb nb cb)) B3):=((fr.kp hk5).sm gr.sm (Nat.le_refl _)).upd
  refine hn (k + 1) _ _ (by omega) ⟨.slice qb nb cb,F3,by omega,hfr,?_,?_,?_,?_,upd_eq _ _ _,?_,gr.app.fam_lt (by simp)⟩
  ·simp (disch:=first|omega|(simp only [nZ] <;> omega)|decide) only [rUz,↓reduceIte,Nat.reduceEqDiff,Nat.reduceAdd,t1]
  ·simp (disch:=first|omega|(simp only [nZ] <;> omega)|decide) only [rUz,↓reduceIte,Nat.reduceEqDiff,Nat.reduceAdd,t2]
  ·simp (disch:=first|omega|(simp only [nZ] <;> omega)|decide) only [rUz,↓reduceIte,Nat.reduceEqDiff,Nat.reduceAdd,t3]
  ·simp (disch:=first|omega|(simp only [nZ] <;> omega)|decide) only [rUz,↓reduceIte,Nat.reduceEqDiff,Nat.reduceAdd]
  ·rw [hrows]; exact gr.app.upd (by omega)
 have hkn:k = c.cl.length:=by have:=of_decide_eq_false e; omega
 subst hkn
 rw [List.take_of_length_le (by rw [List.length_map]; exact Nat.le_refl _)] at happ
 refine S.exit (he _ _ _ _ (fun e=>by cases e) ?_)
 clear hn he K'
 simp (disch:=first|omega|(simp only [nZ] <;> omega)|decide) only [rUz,↓reduceIte,Nat.reduceEqDiff,Nat.reduceAdd]
 have hin:=hin.fr fr (by omega)
 have ha1:=ha1.fr fr (by omega)
 have ha2:=ha2.fr fr (by omega)
 have ha3:=ha3.fr fr (by omega)
 have ha4:=happ
 have hb2:=(fr.bl B2 (by omega) (by omega)).trans hb2
 have hf2:=(fr.fam B2 (by omega)).trans hf2
 have hf3:=(fr.fam B3 (by omega)).trans hf3
 have hb1:=hb1i
 have hb3:=hb3i
 have hkH:=hkp
 have hn3:B3 + 1 ≤ h.nx:=by omega
 have hlo4:B3 < H3.nx:=by omega
 clear hk hlen e fr tc happ hFl hb1i hb3i hkp hle
 have hb3:h.bl.get B3 = some (.cells (coV c.hs ⟨vh,v1,v2,v3,v4⟩) B3 false):=hb3
 repeat refine S.seq ?_
 refine S.region ?_
 simp (disch:=first|omega|(simp only [nZ] <;> omega)|decide) only [rUz,↓reduceIte,Nat.reduceEqDiff,Nat.reduceAdd,t2,t3,hb3,part_0 pB (coV_len c.hs ⟨vh,v1,v2,v3,v4⟩)]
 refine wr_storeN (B:=B2) (c:=[iv 0,nl,nl,nl,nl,nl]) (fam:=B2) (k:=B2) (l:=coV c.hs ⟨vh,v1,v2,v3,v4⟩) (by simp (disch:=first|omega|(simp only [nZ] <;> omega)|decide) only [rUz,↓reduceIte,Nat.reduceEqDiff,Nat.reduceAdd,t2]) (by simp (disch:=first|omega|(simp only [nZ] <;> omega)|decide) only [rUz,↓reduceIte,Nat.reduceEqDiff,Nat.reduceAdd]) sB (by omega) rfl hb2 hf2 rfl ?_
 simp (disch:=first|omega|(simp only [nZ] <;> omega)|decide) only [rUz,↓reduceIte,Nat.reduceEqDiff,Nat.reduceAdd]
 refine S.ret ?_
 try simp only [seqK_ret,blockK_ret]
 subst hF
 simp only [finish,endMarks]
 rw [show Tryz.f12.results.toList = [.cell 2 48] from rfl]
 simp (disch:=first|omega|(simp only [nZ] <;> omega)|decide) only [resA,ev_tmp,tget_ne,tget_eq,get_ne,get_eq,upd_eq,upd_ne,ag_eq,ag_ne,result1,t2,part_0 pB (coV_len c.hs ⟨vh,v1,v2,v3,v4⟩)]
 exact hK _ _ (hkH.upd (by omega)) ⟨⟨vh,v1,v2,v3,v4⟩,rfl,⟨(hin.upd (by omega)).at,(ha1.upd (by omega)).at,(ha2.upd (by omega)).at,(ha3.upd (by omega)).at,(ha4.upd (by omega)).at⟩⟩
end Go.Proofs.Cp
