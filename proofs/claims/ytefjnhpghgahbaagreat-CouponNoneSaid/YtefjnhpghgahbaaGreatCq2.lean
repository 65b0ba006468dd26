import Derived.Test.YtefjnhpghgahbaaGreatCq1
import Derived.Test.YtefjnhpghgahbaaGreatEvE
/- The factors that a company at work keeps in a map. -/
namespace Go.Proofs.Cp
open Go Go.Ev
set_option linter.unusedSimpArgs false

theorem mFac:mapOf Tryz.prog 120 = some (132,129):=by kernel_rfl
theorem kSpan:intKey Tryz.prog 132 = some 2:=by kernel_rfl
theorem fW0:fieldOf Tryz.prog 122 0 = some (0,48):=by kernel_rfl
theorem fW1:fieldOf Tryz.prog 122 1 = some (6,120):=by kernel_rfl
theorem sMap:sizeB Tryz.prog 120 = some (0 + 1):=by kernel_rfl
theorem pMap (c:List Value) (o:Nat):partL Tryz.prog 120 c o = c[o]?:=by kernel_rfl
def wkV (hs:Int) (v:Vs) (r:Nat):List Value:=coV hs v ++ [.map (some r)]
theorem wk6 (hs:Int) (v:Vs) (r:Nat):(wkV hs v r)[6]? = some (.map (some r)):=rfl
theorem wk1 (hs:Int) (v:Vs) (r:Nat):(wkV hs v r)[1]? = some v.a:=rfl
theorem wk2 (hs:Int) (v:Vs) (r:Nat):(wkV hs v r)[2]? = some v.b:=rfl
theorem wkB (hs:Int) (v:Vs) (r:Nat):partL Tryz.prog 48 (wkV hs v r) 0 = some (.agg ⟨coV hs v⟩):=part_at (n:=6) pB rfl rfl

theorem CoAt.frm {h h':AHeap} {r n:Nat} {es:List MapEntry} {v:Vs} {c:Co} (k:CoAt h v c) (a:Fr h r h') (hm:h.bl.get r = some (.map es n)):CoAt h' v c:=
 ⟨k.held.frm a hm,k.tr.frm a hm,k.dv.frm a hm,k.sp.frm a hm,k.cl.frm a hm⟩
structure WAt (h:AHeap) (Bw r:Nat) (v:Vs) (c:Co):Prop where
 bw:h.bl.get Bw = some (.cells (wkV c.hs v r) Bw false)
 lw:Bw < h.nx
 lr:r < h.nx
 ne:Bw ≠ r
 co:CoAt h v c
 mp:∃ L:FL,h.bl.get r = some (.map (mkF L 0) L.length) ∧ ∀ e,e ∈ L → e.2 = overP c.sp e.1.1 e.1.2
theorem WAt.kp {h h':AHeap} {Bw r:Nat} {v:Vs} {c:Co} (k:WAt h Bw r v c) (a:Kp h h'):WAt h' Bw r v c:=by
 obtain ⟨L,m1,m2⟩:=k.mp
 exact ⟨(a.get k.lw).trans k.bw,Nat.lt_of_lt_of_le k.lw a.1,Nat.lt_of_lt_of_le k.lr a.1,k.ne,k.co.mono a,L,(a.get k.lr).trans m1,m2⟩

variable {pr:Prim} {R:ExT}
set_option maxHeartbeats 16000000 in
theorem factor_y (S:Ev.Steps Tryz.prog pr R) (hoff:Off pr) (h0:AHeap) (Bw r:Nat) (v:Vs) (c:Co) (hw:WAt h0 Bw r v c) (hl:c.sp.length ≤ 2) (hok:okSps c.sp) (a b:Int) :
  BringsX Tryz.prog R 67 [ptr0 Bw,.agg ⟨c2 (a,b)⟩] h0 fun u h=>u = .agg ⟨[iv (overP c.sp a b).1,iv (overP c.sp a b).2]⟩ ∧ Fr h0 r h ∧ WAt h Bw r v c:=by
 refine bringsX_of (fn:=Tryz.f67) (c:=(Tryz.f67.body).getD .skip) (by kernel_rfl) rfl (by kernel_rfl) rfl (fun K hK=>?_)
 generalize hF:finish Tryz.prog Tryz.f67 K = KF
 simp only [Tryz.f67,Option.getD_some,argsT,setArgs,fV1_eq,T.setK_eq,id]
 repeat refine S.seq ?_
 refine S.region ?_
 simp (disch:=first|omega|decide) only [rUz,wr_alloc zF]
 obtain ⟨B3,hB3⟩:∃ x,x = h0.nx:=⟨_,rfl⟩
 obtain ⟨B4,hB4⟩:∃ x,x = h0.nx + 1:=⟨_,rfl⟩
 have hb3:((h0.add (c2 (a,b))).add [iv 0,iv 0]).bl.get B3 = some (.cells (c2 (a,b)) B3 false):=by simp (disch:=first|omega|(simp only [nZ] <;> omega)|decide) only [ag_ne]; subst hB3; exact ag_eq rfl
 have hb4:((h0.add (c2 (a,b))).add [iv 0,iv 0]).bl.get B4 = some (.cells [iv 0,iv 0] B4 false):=by subst hB4; exact ag_eq rfl
 have hf4:((h0.add (c2 (a,b))).add [iv 0,iv 0]).fams.get B4 = some [B4]:=by subst hB4; exact af_eq rfl
 have hk1:Kp h0 ((h0.add (c2 (a,b))).add [iv 0,iv 0]):=Kp.refl.add.add
 have hn4:B4 < ((h0.add (c2 (a,b))).add [iv 0,iv 0]).nx:=by show B4 < h0.nx + 2; omega
 have h03:h0.nx ≤ B3:=by omega
 have h34:B3 < B4:=by omega
 rw [← hB4,← hB3]
 generalize (h0.add (c2 (a,b))).add [iv 0,iv 0] = H at hb3 hb4 hf4 hk1 hn4 ⊢
 clear hB3 hB4
 have hwH:=hw.kp hk1
 obtain ⟨L,hm,hL⟩:=hwH.mp
 have hve1:veq (.map (some r)) (.map (some r)) = true:=by simp only [veq,Nat.beq_refl]
 have hve2:veq (.agg ⟨c2 (a,b)⟩) (.agg ⟨c2 (a,b)⟩) = true:=veq_rg (a,b)
 have hrw:r ≠ Bw:=fun e=>hwH.ne e.symm
 have hb3r:B3 ≠ r:=by have:=hw.lr; omega
 have hb4r:B4 ≠ r:=by have:=hw.lr; omega
 obtain ⟨B5,hB5⟩:∃ x,x = H.nx:=⟨_,rfl⟩
 have hpk:partL Tryz.prog 132 (c2 (a,b)) 0 = some (.agg ⟨pv (a,b)⟩):=part_0 (l:=c2 (a,b)) pSp rfl
 have hve3:veq (.agg ⟨pv (a,b)⟩) (.agg ⟨pv (a,b)⟩) = true:=hve2
 obtain ⟨x,hx,hxx⟩:∃ x:II × Bool,lkT (.agg ⟨[iv 0,iv 0]⟩) (lkF L (a,b) 0) = .tuple #[.agg ⟨pv x.1⟩,.bool x.2] ∧ (x.2 = true → x.1 = overP c.sp a b) ∧ (x.2 = false → lkF L (a,b) 0 = none):=by
  cases hlk:lkF L (a,b) 0 with
  | some y=>exact ⟨(y.2,true),rfl,fun _=>hL _ (lkF_mem hlk),(fun e=>by cases e)⟩
  | none=>exact ⟨((0,0),false),rfl,(fun e=>by cases e),fun _=>rfl⟩
 obtain ⟨hx1,hx2⟩:=hxx
 have hvt:veq (.tuple #[.agg ⟨pv x.1⟩,.bool x.2]) (.tuple #[.agg ⟨pv x.1⟩,.bool x.2]) = true:=by
  cases x.2 <;> simp only [pv,veq,veqA,veqL,beqKind,beqI_eq,decide_true,Bool.and_self,beqB]
 repeat refine S.seq ?_
 refine S.drawnL [(false,0),(false,1),(false,3),(false,7),(false,0),(false,31),(false,63),(false,127),(false,127),(true,0),(true,767),(false,2047)] (by kernel_rfl) (by kernel_rfl) (by kernel_rfl) ?_
 generalize hJJ:(fun (t:T Value) (h:AHeap)=>_) = KJ
 suffices hJ:∀ t h,Kp H h → B5 < h.nx → h.bl.get B5 = some (.cells (pv x.1) B5 false) → h.fams.get B5 = some [B5] → tget t 0 = ptr0 Bw → tget t 3 = ptr0 B3 → tget t 4 = ptr0 B4 → tget t 5 = ptr0 B5 → tget t 6 = .bool x.2 → KJ t h = true by
  clear hJJ hK
  have t01:(⟨[Value.agg ⟨pv x.1⟩,.bool x.2]⟩:Array Value)[0]? = some (.agg ⟨pv x.1⟩):=rfl
  have t11:(⟨[Value.agg ⟨pv x.1⟩,.bool x.2]⟩:Array Value)[1]? = some (.bool x.2):=rfl
  have hlk:∀ (t:T Value) (h:AHeap) (o:Oper),h.bl.get r = some (.map (mkF L 0) L.length) → rLookup Tryz.prog t h o 120 (.agg ⟨pv (a,b)⟩) true (.map (some r)) = some (.tuple #[.agg ⟨pv x.1⟩,.bool x.2]):=fun t h o hg=>by
   rw [lookup_F mFac kSpan zF hg,hx]
  have hlkH:=fun t o=>hlk t H o hm
  simp (disch:=first|omega|decide) only [rUz,rDz,infoL,Nat.reduceSub,hwH.bw,hb3,fieldAddr_ptr fW1 sMap,pMap,wk6,hpk,rd_lookup,w_lookup,hlkH,t01,t11,extract_tuple]
  have hkz:Kp H (H.add [iv 0,iv 0]):=Kp.refl.add
  have hbz:=(hkz.get hwH.lw).trans hwH.bw
  have h3z:=(hkz.get (by omega:B3 < H.nx)).trans hb3
  have hmz:=fun t o=>hlk t (H.add [iv 0,iv 0]) o ((hkz.get hwH.lr).trans hm)
  refine drW_give (v:=.pointer (some ⟨H.nx,0,none⟩)) (h':=H.add [iv 0,iv 0]) (aw_alloc zF) (Nat.le_of_ble_eq_true rfl) ?_ ?_
  ·try simp (disch:=first|decide|rfl) only [again_nil,again_skip,again_free]
   rw [again_same (v:=.tuple ⟨[.agg ⟨pv x.1⟩,.bool x.2]⟩) (by simp (disch:=first|omega|decide) only [rUz,rDz,infoL,Nat.reduceSub,rd_lookup,hmz]) hvt]
   try simp (disch:=first|decide|rfl) only [again_nil,again_skip,again_free]
   rw [again_same (v:=.agg ⟨pv (a,b)⟩) (by simp (disch:=first|omega|decide) only [rUz,rDz,infoL,Nat.reduceSub,h3z,hpk]) hve3]
   try simp (disch:=first|decide|rfl) only [again_nil,again_skip,again_free]
   rw [again_same (v:=.map (some r)) (by simp (disch:=first|omega|decide) only [rUz,rDz,infoL,Nat.reduceSub,hbz,fieldAddr_ptr fW1 sMap,pMap,wk6]) hve1]
   try simp (disch:=first|decide|rfl) only [again_nil,again_skip,again_free]
  simp (disch:=first|omega|decide) only [rUz,rDz,infoL,Nat.reduceSub]
  refine drW_giveN (aw_storeN (B:=H.nx) (ls:=pv x.1) (by simp (disch:=first|omega|decide) only [rUz,rDz,infoL,Nat.reduceSub]) (by simp (disch:=first|omega|decide) only [rUz,rDz,infoL,Nat.reduceSub]) sF (by omega) rfl (ag_eq rfl) (af_eq rfl) rfl) ?_ ?_
  ·try simp (disch:=first|decide|rfl) only [again_nil,again_skip,again_free]
  simp (disch:=first|omega|decide) only [rUz,rDz,infoL,Nat.reduceSub]
  subst hB5
  refine hJ _ _ (hkz.upd (Nat.le_refl _)) (Nat.lt_succ_self _) (upd_eq _ _ _) ?_ ?_ ?_ ?_ ?_ ?_
  ·rw [upd_fams]; exact af_eq rfl
  all_goals (first|rfl|(simp (disch:=first|omega|decide) only [rUz]; done)|(simp (disch:=first|omega|decide) only [rUz]; rfl))
 intro t h hkp hn5 hb5 hf5 t0 t3 t4 t5 t6
 subst hJJ
 simp only [seqK_normal]
 have hw1:=hwH.kp hkp
 have hb3h:=(hkp.get (by omega:B3 < H.nx)).trans hb3
 have hb4h:=(hkp.get hn4).trans hb4
 have hf4h:=(hkp.fget hn4).trans hf4
 have hmh:=(hkp.get hwH.lr).trans hm
 have hB5r:B5 ≠ r:=by have:=hwH.lr; omega
 have h0kp:=hk1.trans hkp
 have hB45:B4 < B5:=by omega
 have hend:∀ (t:T Value) (h':AHeap),Fr h0 r h' → WAt h' Bw r v c → h'.bl.get B4 = some (.cells [iv 0,iv 0] B4 false) → h'.fams.get B4 = some [B4] → h'.bl.get B5 = some (.cells [iv (overP c.sp a b).1,iv (overP c.sp a b).2] B5 false) → K (.agg ⟨[iv (overP c.sp a b).1,iv (overP c.sp a b).2]⟩) (h'.upd B4 [iv (overP c.sp a b).1,iv (overP c.sp a b).2] B4) = true:=by
  intro t h' f1 f2 f3 f4 f5
  refine hK _ _ ⟨rfl,?_,?_⟩
  ·exact ⟨f1.le,fun k hk hn=>by rw [upd_ne _ _ _ (by omega)]; exact f1.bl k hk hn,fun k hk=>by rw [upd_fams]; exact f1.fam k hk⟩
  ·obtain ⟨L',m1,m2⟩:=f2.mp
   have hwb:Bw ≠ B4:=by have:=hw.lw; omega
   refine ⟨by rw [upd_ne _ _ _ hwb]; exact f2.bw,f2.lw,f2.lr,f2.ne,?_,L',by rw [upd_ne _ _ _ (Ne.symm hb4r)]; exact m1,m2⟩
   exact hw.co.frm (r:=r) ⟨f1.le,fun k hk hn=>by rw [upd_ne _ _ _ (by omega)]; exact f1.bl k hk hn,fun k hk=>by rw [upd_fams]; exact f1.fam k hk⟩ hw.mp.choose_spec.1
 have hp5:∀ f:II,partL Tryz.prog 129 (pv f) 0 = some (.agg ⟨pv f⟩):=fun f=>part_0 (l:=pv f) pFa rfl
 have hp5':∀ f:II,partL Tryz.prog 129 [iv f.1,iv f.2] 0 = some (.agg ⟨[iv f.1,iv f.2]⟩):=fun f=>part_0 (l:=[iv f.1,iv f.2]) pFa rfl
 repeat refine S.seq ?_
 refine S.region ?_
 simp (disch:=first|omega|decide) only [rUz,t6,un_not]
 repeat refine S.seq ?_
 generalize hJJ:seqK _ _ _ _ _ = KJ
 suffices hJ:∀ t h',Fr h0 r h' → WAt h' Bw r v c → h'.bl.get B4 = some (.cells [iv 0,iv 0] B4 false) → h'.fams.get B4 = some [B4] → h'.bl.get B5 = some (.cells [iv (overP c.sp a b).1,iv (overP c.sp a b).2] B5 false) → tget t 4 = ptr0 B4 → tget t 5 = ptr0 B5 → KJ .normal t h' [] = true by
  clear hJJ hend hK
  cases hx3:x.2 with
  | true =>
   have e5:=hx1 hx3
   rw [e5] at hb5
   repeat refine S.seq ?_
   refine S.cond (v:=false) (by first|rfl|(simp (disch:=first|omega|decide) only [rUz,↓reduceIte,Nat.reduceEqDiff,Nat.reduceAdd,hx3,Bool.not_true] <;> rfl)) (fun e=>by cases e) (fun _=>?_)
   refine S.skip ?_
   refine hJ _ _ h0kp.fr hw1 hb4h hf4h hb5 ?_ ?_
   all_goals (first|rfl|(simp (disch:=first|omega|decide) only [rUz,t4,t5]; done)|(simp (disch:=first|omega|decide) only [rUz,t4,t5]; rfl))
  | false =>
   have hlkn:=hx2 hx3
   repeat refine S.seq ?_
   refine S.cond (v:=true) (by first|rfl|(simp (disch:=first|omega|decide) only [rUz,↓reduceIte,Nat.reduceEqDiff,Nat.reduceAdd,hx3,Bool.not_false] <;> rfl)) (fun _=>?_) (fun e=>by cases e)
   repeat refine S.seq ?_
   refine S.drawnL [(false,0),(false,1),(false,3),(false,7),(false,0),(true,31),(true,63)] (by kernel_rfl) (by kernel_rfl) (by kernel_rfl) ?_
   simp (disch:=first|omega|decide) only [rUz,rDz,infoL,Nat.reduceSub,t0,t3,hw1.bw,hb3h,fieldAddr_ptr fW0 SB,wkB,hpk]
   refine drW_brings (fid:=90) (first:=#[]) (captured:=#[]) (Post:=fun u _=>u = .agg ⟨[iv (overP c.sp a b).1,iv (overP c.sp a b).2]⟩) rfl (hoff _ _ _ rfl) (by simp (disch:=first|omega|decide) only [rUz]; exact over_y S _ v c hw1.co hl hok a b) (Nat.le_of_ble_eq_true rfl) ?_
   rintro u g hkg rfl
   have hb5g:=(hkg.get hn5).trans hb5
   have hf5g:=(hkg.fget hn5).trans hf5
   refine ⟨?_,?_⟩
   ·try simp (disch:=first|decide|rfl) only [again_nil,again_skip,again_free]
   simp (disch:=first|omega|decide) only [rUz,rDz,infoL,Nat.reduceSub]
   refine drW_giveN (aw_storeN (B:=B5) (ls:=[iv (overP c.sp a b).1,iv (overP c.sp a b).2]) (by simp (disch:=first|omega|decide) only [rUz,rDz,infoL,Nat.reduceSub,t5]) (by simp (disch:=first|omega|decide) only [rUz,rDz,infoL,Nat.reduceSub]) sF (by omega) rfl hb5g hf5g rfl) ?_ ?_
   ·try simp (disch:=first|decide|rfl) only [again_nil,again_skip,again_free]
   simp (disch:=first|omega|decide) only [rUz,rDz,infoL,Nat.reduceSub]
   have hHh:=hkp.1
   have hgh:=hkg.1
   have w2:=hw1.kp hkg
   have hbw2:(g.upd B5 [iv (overP c.sp a b).1,iv (overP c.sp a b).2] B5).bl.get Bw = some (.cells (wkV c.hs v r) Bw false):=by rw [upd_ne _ _ _ (by have:=hwH.lw; omega)]; exact w2.bw
   have hm2:(g.upd B5 [iv (overP c.sp a b).1,iv (overP c.sp a b).2] B5).bl.get r = some (.map (mkF L 0) L.length):=by rw [upd_ne _ _ _ (Ne.symm hB5r)]; exact (hkg.get hw1.lr).trans hmh
   have hb32:(g.upd B5 [iv (overP c.sp a b).1,iv (overP c.sp a b).2] B5).bl.get B3 = some (.cells (c2 (a,b)) B3 false):=by rw [upd_ne _ _ _ (by omega)]; exact (hkg.get (by omega)).trans hb3h
   have hb42:(g.upd B5 [iv (overP c.sp a b).1,iv (overP c.sp a b).2] B5).bl.get B4 = some (.cells [iv 0,iv 0] B4 false):=by rw [upd_ne _ _ _ (by omega)]; exact (hkg.get (by omega)).trans hb4h
   have hf42:(g.upd B5 [iv (overP c.sp a b).1,iv (overP c.sp a b).2] B5).fams.get B4 = some [B4]:=by rw [upd_fams]; exact (hkg.fget (by omega)).trans hf4h
   have hb52:(g.upd B5 [iv (overP c.sp a b).1,iv (overP c.sp a b).2] B5).bl.get B5 = some (.cells [iv (overP c.sp a b).1,iv (overP c.sp a b).2] B5 false):=upd_eq _ _ _
   have hk2:Kp h0 (g.upd B5 [iv (overP c.sp a b).1,iv (overP c.sp a b).2] B5):=(h0kp.trans hkg).upd (by omega)
   have hn2:(g.upd B5 [iv (overP c.sp a b).1,iv (overP c.sp a b).2] B5).nx = g.nx:=rfl
   generalize g.upd B5 [iv (overP c.sp a b).1,iv (overP c.sp a b).2] B5 = G at hbw2 hm2 hb32 hb42 hf42 hb52 hk2 hn2 ⊢
   repeat refine S.seq ?_
   refine S.drawnL [(false,0),(false,1),(false,3),(false,7),(false,0),(false,0),(true,63)] (by kernel_rfl) (by kernel_rfl) (by kernel_rfl) ?_
   simp (disch:=first|omega|decide) only [rUz,rDz,infoL,Nat.reduceSub,t0,t3,t5,hbw2,hb32,hb52,fieldAddr_ptr fW1 sMap,pMap,wk6,hpk,hp5']
   refine drW_giveN (h':=AHeap.setm G r (.map (mkF (L ++ [((a,b),overP c.sp a b)]) 0) (L ++ [((a,b),overP c.sp a b)]).length)) (v:=undef) (fun K=>?_) ?_ ?_
   ·rw [aw_mapUpdate]
    simp (disch:=first|omega|decide) only [rUz]
    exact update_F (p:=(a,b)) (f:=overP c.sp a b) mFac kSpan hm2 hlkn K
   ·try simp (disch:=first|decide|rfl) only [again_nil,again_skip,again_free]
   simp (disch:=first|omega|decide) only [rUz,rDz,infoL,Nat.reduceSub]
   have hwl:=hw.lw
   have hwr:=hw.lr
   have hwm:=hw.mp
   refine hJ _ _ hk2.fr.setm ⟨?_,?_,?_,hw.ne,?_,_,setm_eq,?_⟩ ?_ ?_ ?_ ?_ ?_
   ·rw [setm_ne hw.ne]; exact hbw2
   ·rw [setm_nx,hn2]; have:=w2.lw; exact this
   ·rw [setm_nx,hn2]; have:=w2.lr; exact this
   ·obtain ⟨L0,m0,_⟩:=hwm
    exact hw.co.frm (r:=r) hk2.fr.setm m0
   ·intro e he
    rcases List.mem_append.1 he with he|he
    ·exact hL e he
    ·simp at he; rw [he]
   ·rw [setm_ne hb4r]; exact hb42
   ·rw [setm_fams]; exact hf42
   ·rw [setm_ne hB5r]; exact hb52
   all_goals (first|rfl|(simp (disch:=first|omega|decide) only [rUz,t4,t5]; done)|(simp (disch:=first|omega|decide) only [rUz,t4,t5]; rfl))
 clear t0 t3 t4 t5 t6
 intro t h' f1 f2 f3 f4 f5 t4 t5
 subst hJJ
 simp only [seqK_normal]
 repeat refine S.seq ?_
 refine S.region ?_
 simp (disch:=first|omega|decide) only [rUz,t5,f5,hp5']
 refine wr_storeN (B:=B4) (c:=[iv 0,iv 0]) (fam:=B4) (k:=B4) (l:=[iv (overP c.sp a b).1,iv (overP c.sp a b).2]) (by simp (disch:=first|omega|decide) only [rUz,t4]) (by simp (disch:=first|omega|decide) only [rUz]) sF (by omega) rfl f3 f4 rfl ?_
 simp (disch:=first|omega|decide) only [rUz]
 refine S.ret ?_
 try simp only [seqK_ret,blockK_ret]
 subst hF
 simp only [finish,endMarks]
 rw [show Tryz.f67.results.toList = [.cell 4 129] from rfl]
 simp (disch:=first|omega|decide) only [resA,ev_tmp,tget_ne,tget_eq,get_ne,get_eq,upd_eq,upd_ne,ag_eq,ag_ne,result1,t4,hp5']
 exact hend t h' f1 f2 f3 f4 f5
end Go.Proofs.Cp
