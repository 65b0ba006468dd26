import Derived.Test.YtefjnhpghgahbaaGreatCt2
/- What a company at work says of a dividend: the claims. -/
namespace Go.Ev
open Go.RowKit
theorem rBin_bool {P:Program} {t:T Value} {o:Oper} {op:BinOp} {a:TypeId} {p q:Bool}:rBin P t o op a (.bool q) (.bool p) = rBin2 P t o op (nilEqT P a (.bool p) (.bool q)):=rfl
theorem bin_congr {P:Program} {t t':T Value} {op:BinOp} {j k:Nat} {u v r:Value} {a c:TypeId} {dst:Option Tmp} {ty:TypeId} {pos:String} {af:Array Edge} {g:Option (Nat × Bool)} (h2:tget t j = u) (h3:tget t k = v) (h4:tget t' j = u) (h5:tget t' k = v)
  (hr:ground P t' ⟨dst,.binOp op a (.tmp j) (.tmp k) c,ty,pos,af,g⟩ = some r):ground P t ⟨dst,.binOp op a (.tmp j) (.tmp k) c,ty,pos,af,g⟩ = some r:=by
 rw [← hr]
 refine ground_congr (fun cs b e=>by cases e) fun x hx=>?_
 simp only [Op.operands] at hx
 have:x = .tmp j ∨ x = .tmp k:=by simpa using hx
 rcases this with rfl|rfl
 ·simp only [ev,h2,h4]
 ·simp only [ev,h3,h5]
end Go.Ev
namespace Go.Proofs.Cp
open Go Go.Ev
set_option linter.unusedSimpArgs false

theorem eqlC {t:T Value} {ty:TypeId} {pos:String} {af:Array Edge} {g:Option (Nat × Bool)} {dst:Option Tmp} {p q:Bool} (h1:tget t 22 = .bool p) (h2:tget t 25 = .bool q):rBin Tryz.prog t ⟨dst,.binOp .eql 4 (.tmp 22) (.tmp 25) 4,ty,pos,af,g⟩ .eql 4 (.bool q) (.bool p) = some (.bool (p == q)):=by
 rw [rBin_bool]
 have hn:nilEqT Tryz.prog 4 (.bool p) (.bool q) = none:=by cases p <;> cases q <;> kernel_rfl
 rw [hn]
 refine bin_congr (t':=T.set 26 (T.set 23 .leaf 22 (.bool p)) 25 (.bool q)) h1 h2 ?_ ?_ ?_
 ·cases p <;> cases q <;> kernel_rfl
 ·cases p <;> cases q <;> kernel_rfl
 ·cases p <;> cases q <;> kernel_rfl
def clm1 (c:Co) (d:T3) (x:Tr) (y:R2):Int:=bif belQ d.1 y == byQ d.2.1 y then 0 else bif byQ d.2.1 y then -(d.2.2 * facU c x.sh y.1 d.2.1) else d.2.2 * facU c x.sh y.1 d.2.1
def clmP (c:Co) (ds:List R2) (d:T3):List Int:=List.zipWith (clm1 c d) c.tr ds
theorem clmP_len {c:Co} {ds:List R2} (h:ds.length = c.tr.length) (d:T3):(clmP c ds d).length = ds.length:=by
 unfold clmP; rw [List.length_zipWith]; omega
theorem clmP_get {c:Co} {ds:List R2} {d:T3} {i:Nat} {x:Tr} {y:R2} (hx:c.tr[i]? = some x) (hy:ds[i]? = some y):(clmP c ds d).getD i 0 = clm1 c d x y:=by
 unfold clmP
 rw [List.getD_eq_getElem?_getD,List.getElem?_zipWith,hx,hy]; rfl
structure CK (H h:AHeap) (r BL:Nat) (c:Co) (l:List Int):Prop where
 fr:Fr H r h
 mp:Mp h r c
 own:Own h BL l
theorem CK.kp {H h h':AHeap} {r BL:Nat} {c:Co} {l:List Int} (k:CK H h r BL c l) (a:Kp h h') (hr:r < h.nx):CK H h' r BL c l:=by
 obtain ⟨L,m1,m2⟩:=k.mp
 exact ⟨k.fr.kp a,⟨L,(a.get hr).trans m1,m2⟩,k.own.mono a⟩
theorem CK.frm {H h h':AHeap} {r BL:Nat} {c:Co} {l:List Int} (k:CK H h r BL c l) (a:Fr h r h') (hm:Mp h' r c) (hne:BL ≠ r):CK H h' r BL c l:=
 ⟨k.fr.trans a,hm,Nat.lt_of_lt_of_le k.own.1 a.le,(a.bl BL k.own.1 hne).trans k.own.2.1,(a.fam BL k.own.1).trans k.own.2.2⟩
theorem CK.set {H h:AHeap} {r BL:Nat} {c:Co} {l:List Int} (k:CK H h r BL c l) (hB:H.nx ≤ BL) (hne:BL ≠ r) (i:Nat) (x:Int):CK H (h.upd BL ((l.map iv).set i (iv x)) BL) r BL c (l.set i x):=by
 obtain ⟨L,m1,m2⟩:=k.mp
 exact ⟨frUpdO k.fr hB,⟨L,by rw [upd_ne _ _ _ (Ne.symm hne)]; exact m1,m2⟩,k.own.upd⟩
structure ICl (c:Co) (H:AHeap) (Bw r B5 BL Bc:Nat) (T_:List Int) (n:Nat) (k:Nat) (t:T Value) (h:AHeap):Prop where
 ck:CK H h r BL c (fillZ T_ n k)
 t0:tget t 0 = ptr0 Bw
 t5:tget t 5 = ptr0 B5
 t7:tget t 7 = .slice (some ⟨BL,0,none⟩) n n
 t13:tget t 13 = crV Bc n
 t14:tget t 14 = iv (n:Int)
 t15:tget t 15 = iv (k:Int)
 hk:k ≤ n

variable {pr:Prim} {R:ExT}
set_option maxHeartbeats 32000000 in
theorem claims_y (S:Ev.Steps Tryz.prog pr R) (hoff:Off pr) (h0:AHeap) (Bw r:Nat) (v:Vs) (c:Co) (hw:WAt h0 Bw r v c) (hv:Val c) (Bc:Nat) (ds:List R2) (hcr:Crs h0 Bc ds) (hdl:ds.length = c.tr.length) (d:T3) (hp0:0 ≤ d.2.2) (hp1:d.2.2 ≤ 50) :
  BringsX Tryz.prog R 43 [ptr0 Bw,crV Bc ds.length,.agg ⟨c3 d⟩] h0 fun u h=>IAt h u (clmP c ds d) ∧ Fr h0 r h ∧ WAt h Bw r v c:=by
 refine bringsX_of (fn:=Tryz.f43) (c:=(Tryz.f43.body).getD .skip) (by kernel_rfl) rfl (by kernel_rfl) rfl (fun K hK=>?_)
 generalize hF:finish Tryz.prog Tryz.f43 K = KF
 simp only [Tryz.f43,Option.getD_some,argsT,setArgs,fV1_eq,T.setK_eq,id]
 have hwr:=hw.lr
 have htl:=hv.tl
 have hnd:ds.length ≤ 4:=by omega
 obtain ⟨L0,hm0,hL0⟩:=hw.mp
 have hcr2:Bc ≠ r:=hcr.ne hw
 obtain ⟨ei,i1,i2,i3⟩:=iI
 have lcr:∀ (t:T Value) (h1:AHeap) (o:Oper),rLen Tryz.prog t h1 o 92 (crV Bc ds.length) = some (iv (ds.length:Int)):=fun t h1 o=>len_sl isCr
 repeat refine S.seq ?_
 refine S.region ?_
 simp (disch:=first|omega|decide) only [rUz]
 obtain ⟨B5,hB5⟩:∃ x,x = h0.nx:=⟨_,rfl⟩
 have hb5:(h0.add (c3 d)).bl.get B5 = some (.cells (c3 d) B5 false):=by subst hB5; exact ag_eq rfl
 have hk1:Kp h0 (h0.add (c3 d)):=Kp.refl.add
 have hn5:B5 < (h0.add (c3 d)).nx:=by show B5 < h0.nx + 1; omega
 rw [← hB5]
 generalize h0.add (c3 d) = H at hb5 hk1 hn5 ⊢
 repeat refine S.seq ?_
 refine S.region ?_
 simp (disch:=first|omega|decide) only [rUz,lcr,w_makeSlice]
 refine wr_makeInts (k:=ds.length) slI i1 z3 i2 i3 (by simp (disch:=first|omega|decide) only [rUz]) (by simp (disch:=first|omega|decide) only [rUz]) (by omega) (fun hown=>?_)
 obtain ⟨BL,hBL⟩:∃ x,x = H.nx:=⟨_,rfl⟩
 have hk2:Kp H (H.add ((List.replicate ds.length 0).map iv)):=Kp.refl.add
 have hrH:r < H.nx:=Nat.lt_of_lt_of_le hwr hk1.1
 simp (disch:=first|omega|decide) only [rUz]
 rw [← hBL] at hown ⊢
 have hckG:CK H (H.add ((List.replicate ds.length 0).map iv)) r BL c (fillZ (clmP c ds d) ds.length 0):=⟨hk2.fr,⟨L0,(hk2.get hrH).trans ((hk1.get hwr).trans hm0),hL0⟩,hown⟩
 generalize H.add ((List.replicate ds.length 0).map iv) = G at hckG ⊢
 clear hown hk2
 have hLr:BL ≠ r:=by omega
 have hHL:H.nx ≤ BL:=by omega
 have h5r:B5 ≠ r:=by omega
 have h5L:B5 ≠ BL:=by omega
 clear hBL hB5
 repeat refine S.seq ?_
 refine S.region ?_
 simp (disch:=first|omega|decide) only [rUz,lcr]
 repeat refine S.seq ?_
 refine S.block ?_
 refine S.loop (ι:=Nat) (ICl c H Bw r B5 BL Bc (clmP c ds d) ds.length) (fun k=>ds.length - k) ?_ 0 _ _ ?_
 rotate_left
 ·refine ⟨hckG,?_,?_,?_,?_,?_,?_,Nat.zero_le _⟩
  all_goals (first|rfl|(simp (disch:=first|omega|decide) only [rUz]; done)|(simp (disch:=first|omega|decide) only [rUz]; rfl))
 clear hckG
 intro k t h ⟨ck,t0,t5,t7,t13,t14,t15,hk⟩ K' hn he
 have frA:Fr h0 r h:=hk1.fr.trans ck.fr
 have hwh:=hw.of frA ck.mp
 repeat refine S.seq ?_
 refine S.region ?_
 simp (disch:=first|omega|decide) only [rUz,t14,t15]
 repeat refine S.seq ?_
 refine S.cond (v:=decide ((k:Int) < (ds.length:Int))) (by first|rfl|(simp (disch:=first|omega|decide) only [rUz,↓reduceIte,Nat.reduceEqDiff,Nat.reduceAdd] <;> rfl)) (fun e=>?_) (fun e=>?_)
 rotate_left
 ·have hkn:k = ds.length:=by have:=of_decide_eq_false e; omega
  subst hkn
  refine S.exit (he _ _ _ _ (fun e=>by cases e) ?_)
  simp (disch:=first|omega|decide) only [rUz]
  repeat refine S.seq ?_
  refine S.region ?_
  simp (disch:=first|omega|decide) only [rUz,t7]
  refine S.ret ?_
  try simp only [seqK_ret,blockK_ret]
  subst hF
  simp only [finish,endMarks]
  rw [show Tryz.f43.results.toList = [.tmp 6] from rfl]
  simp (disch:=first|omega|decide) only [resA,ev_tmp,tget_ne,tget_eq,get_ne,get_eq,upd_eq,upd_ne,ag_eq,ag_ne,result1]
  have hlen:=clmP_len hdl d
  have own:=ck.own
  rw [fillZ_all hlen] at own
  exact hK _ _ ⟨own.at' hlen.symm,frA,hwh⟩
 have hkn:k < ds.length:=by have:=of_decide_eq_true e; omega
 clear e
 have hkt:k < c.tr.length:=by omega
 have hps:c.tr[k]? = some c.tr[k]:=List.getElem?_eq_getElem hkt
 have hpd:ds[k]? = some ds[k]:=List.getElem?_eq_getElem hkn
 have htk:=Tok.of (hv.tok c.tr[k] (List.getElem_mem hkt))
 have hT:=clmP_get (d:=d) hps hpd
 have hdi:=Crs.idx (B:=Bc) (ds:=ds) (a:=92) slCr (i:=k) (d:=ds[k]) hpd
 generalize c.tr[k] = x at hps htk hT
 generalize ds[k] = y at hpd hT hdi
 obtain ⟨j1,j2,j3,j4⟩:=hdi
 have hcb:=((hcr.frm frA hcr2)).bl
 have hb5h:=(ck.fr.bl B5 hn5 h5r).trans hb5
 repeat refine S.seq ?_
 refine S.skip ?_
 simp (disch:=first|omega|decide) only [rUz]
 repeat refine S.seq ?_
 refine S.block ?_
 repeat refine S.seq ?_
 refine S.region ?_
 simp (disch:=first|omega|decide) only [rUz,t13,t15,j1,hcb,j2,wr_alloc zDt]
 refine wr_storeN (B:=h.nx) (c:=[iv 0,iv 0]) (fam:=h.nx) (k:=h.nx) (l:=c2 y) (by simp (disch:=first|omega|decide) only [rUz]) (by simp (disch:=first|omega|decide) only [rUz]) sDt (by omega) rfl (ag_eq rfl) (af_eq rfl) rfl ?_
 have hk7:Kp h ((h.add [iv 0,iv 0]).upd h.nx (c2 y) h.nx):=Kp.refl.add.upd (Nat.le_refl _)
 have hg9:((h.add [iv 0,iv 0]).upd h.nx (c2 y) h.nx).bl.get h.nx = some (.cells (c2 y) h.nx false):=upd_eq _ _ _
 have hn9:h.nx < ((h.add [iv 0,iv 0]).upd h.nx (c2 y) h.nx).nx:=Nat.lt_succ_self _
 simp (disch:=first|omega|decide) only [rUz]
 obtain ⟨B9,hB9⟩:∃ z,z = h.nx:=⟨_,rfl⟩
 have h9r:B9 ≠ r:=by have:=hwh.lr; omega
 have h9L:B9 ≠ BL:=by have:=ck.own.1; omega
 rw [← hB9] at hk7 hg9 hn9 ⊢
 generalize (h.add [iv 0,iv 0]).upd B9 (c2 y) B9 = h7 at hk7 hg9 hn9 ⊢
 have ck7:=ck.kp hk7 hwh.lr
 have hb57:=(hk7.get (Nat.lt_of_lt_of_le hn5 ck.fr.le)).trans hb5h
 have hn57:B5 < h7.nx:=Nat.lt_of_lt_of_le hn5 (Nat.le_trans ck.fr.le hk7.1)
 have hwh7:=hwh.kp hk7
 clear hwh hb5h hcb hk7 ck hB9 frA
 clear h
 have py:=part_0 (P:=Tryz.prog) pDt (c2_len y)
 repeat refine S.seq ?_
 refine S.drawnL [(false,0),(false,0),(true,3),(false,0),(false,0),(true,31),(false,63)] (by kernel_rfl) (by kernel_rfl) (by kernel_rfl) ?_
 simp (disch:=first|omega|decide) only [rUz,rDz,infoL,Nat.reduceSub,t5,hb57,p71 d,hg9,py]
 refine draw_pick' rfl ?_
 simp (disch:=first|omega|decide) only [rUz,rDz,infoL,Nat.reduceSub,t5,hb57,p71 d,hg9,py]
 refine draw_pick' rfl ?_
 simp (disch:=first|omega|decide) only [rUz,rDz,infoL,Nat.reduceSub,t5,hb57,p71 d,hg9,py]
 refine drW_brings (fid:=59) (first:=#[]) (captured:=#[]) (Post:=fun u _=>u = .bool (belQ d.1 y)) rfl (hoff _ _ _ rfl) (by simp (disch:=first|omega|decide) only [rUz]; exact belongs_y S _ d y) (Nat.le_of_ble_eq_true rfl) ?_
 rintro u g hkg rfl
 refine ⟨?_,?_⟩
 ·try simp (disch:=first|decide|rfl) only [again_nil,again_skip,again_free]
  rw [again_same (v:=.agg ⟨c2 y⟩) (by simp (disch:=first|omega|decide) only [rUz,rDz,infoL,Nat.reduceSub,(hkg.get hn9).trans hg9,py]) (veq_c2 y)]
  try simp (disch:=first|decide|rfl) only [again_nil,again_skip,again_free]
  rw [again_same (v:=.agg ⟨c3 d⟩) (by simp (disch:=first|omega|decide) only [rUz,rDz,infoL,Nat.reduceSub,t5,(hkg.get hn57).trans hb57,p71 d]) (veq_c3 d)]
  try simp (disch:=first|decide|rfl) only [again_nil,again_skip,again_free]
 simp (disch:=first|omega|decide) only [rUz,rDz,infoL,Nat.reduceSub]
 refine drW_brings (fid:=66) (first:=#[]) (captured:=#[]) (Post:=fun u _=>u = .bool (byQ d.2.1 y)) rfl (hoff _ _ _ rfl) (by simp (disch:=first|omega|decide) only [rUz]; exact reaches_y S hoff _ d y) (Nat.le_of_ble_eq_true rfl) ?_
 rintro u g2 hkg2 rfl
 refine ⟨?_,?_⟩
 ·try simp (disch:=first|decide|rfl) only [again_nil,again_skip,again_free]
 simp (disch:=first|omega|decide) only [rUz,rDz,infoL,Nat.reduceSub]
 rw [eqlC (p:=belQ d.1 y) (q:=byQ d.2.1 y) (by simp (disch:=first|omega|decide) only [rUz]) (by simp (disch:=first|omega|decide) only [rUz])]
 simp (disch:=first|omega|decide) only [rUz,rDz,infoL,Nat.reduceSub]
 have hk8:=hkg.trans hkg2
 have ck8:=ck7.kp hk8 hwh7.lr
 have hb58:=(hk8.get hn57).trans hb57
 have hn58:B5 < g2.nx:=Nat.lt_of_lt_of_le hn57 hk8.1
 have hg8:=(hk8.get hn9).trans hg9
 have hn8:B9 < g2.nx:=Nat.lt_of_lt_of_le hn9 hk8.1
 have hw8:=hwh7.kp hk8
 clear hb57 hg9 hn9 hn57 ck7 hwh7 hkg hkg2 hk8
 unfold clm1 at hT
 cases heq:belQ d.1 y == byQ d.2.1 y with
 | true =>
  rw [heq,cond_true] at hT
  rw [← fillZ_zero hkn hT] at ck8
  repeat refine S.seq ?_
  refine S.cond (v:=true) (by first|rfl|(simp (disch:=first|omega|decide) only [rUz,↓reduceIte,Nat.reduceEqDiff,Nat.reduceAdd,heq] <;> rfl)) (fun _=>?_) (fun e=>by cases e)
  refine S.exit ?_
  simp (disch:=first|omega|decide) only [rUz]
  repeat refine S.seq ?_
  refine S.region ?_
  simp (disch:=first|omega|decide) only [rUz,t15]
  refine hn (k + 1) _ _ (by omega) ⟨ck8,?_,?_,?_,?_,?_,?_,by omega⟩
  all_goals (first|rfl|(simp (disch:=first|omega|decide) only [rUz,t0,t5,t7,t13,t14,t15]; done)|(simp (disch:=first|omega|decide) only [rUz,t0,t5,t7,t13,t14,t15]; rfl))
 | false =>
 rw [heq,cond_false] at hT
 repeat refine S.seq ?_
 refine S.cond (v:=false) (by first|rfl|(simp (disch:=first|omega|decide) only [rUz,↓reduceIte,Nat.reduceEqDiff,Nat.reduceAdd,heq] <;> rfl)) (fun e=>by cases e) (fun _=>?_)
 repeat refine S.seq ?_
 refine S.skip ?_
 simp (disch:=first|omega|decide) only [rUz]
 obtain ⟨U,hU⟩:∃ U,U = facU c x.sh y.1 d.2.1:=⟨_,rfl⟩
 have hfu:=facU_bnd hv (sh:=x.sh) (a:=y.1) (b:=d.2.1) (by have:=htk.n0; omega) htk.n1
 rw [← hU] at hT hfu
 have hm:=mul_bnd (M:=2592000) hp0 hp1 (by omega) (by omega) hfu.2
 have hbw:=hw8.bw
 obtain ⟨b',f',ro',cells',q1,q2,q3,q4,q5,q6⟩:=row_idx hw8.co.tr slcT scT hps
 have gsh:=q6 2 (iv x.sh) rfl
 have il:rIndexAddr Tryz.prog 22 (.slice (some ⟨BL,0,none⟩) ds.length ds.length) (iv (k:Int)) = some (.pointer (some ⟨BL,k,none⟩)):=by
  rw [indexAddr_sl slI s3' hkn,Nat.zero_add,Nat.mul_one]
 have hl:k < ((fillZ (clmP c ds d) ds.length k).map iv).length:=by rw [List.length_map,fillZ_len]; exact hkn
 have hef:fillZ (clmP c ds d) ds.length (k + 1) = (fillZ (clmP c ds d) ds.length k).set k ((clmP c ds d).getD k 0):=rfl
 rw [hT] at hef
 repeat refine S.seq ?_
 refine S.drawnL [(false,0),(false,0),(false,0),(false,4),(false,0),(false,0),(false,32),(false,0),(false,128),(false,480),(true,1008),(false,0),(false,2048),(false,6144),(false,14336),(false,30720),(false,0),(false,129024),(false,260096),(false,522240),(true,1048560),(false,2097148),(false,4194303),(true,8388607)] (by kernel_rfl) (by kernel_rfl) (by kernel_rfl) ?_
 simp (disch:=first|omega|decide) only [rUz,rDz,infoL,Nat.reduceSub,t0,t5,t7,hb58,hg8,fieldAddr_ptr fcD2 s3,fieldAddr_ptr fcD1 s3,fieldAddr_ptr fDt0 s3,p3,c32,c31,c20,rd_build,List.map_cons,List.map_nil,bSp]
 refine draw_pick' rfl ?_
 simp (disch:=first|omega|decide) only [rUz,rDz,infoL,Nat.reduceSub,t0,hbw,fieldAddr_ptr fW0 SB,fieldAddr_ptr fB2 lcT,qcT,wk2,q1,fieldAddr_ptr fcT2 s3,q3,p3,gsh]
 refine draw_pick' rfl ?_
 simp (disch:=first|omega|decide) only [rUz,rDz,infoL,Nat.reduceSub,t0,hbw,fieldAddr_ptr fW0 SB,fieldAddr_ptr fB2 lcT,qcT,wk2,q1,fieldAddr_ptr fcT2 s3,q3,p3,gsh]
 refine draw_pick' rfl ?_
 simp (disch:=first|omega|decide) only [rUz,rDz,infoL,Nat.reduceSub,t0,hbw,fieldAddr_ptr fW0 SB,fieldAddr_ptr fB2 lcT,qcT,wk2,q1,fieldAddr_ptr fcT2 s3,q3,p3,gsh]
 refine draw_pick' rfl ?_
 simp (disch:=first|omega|decide) only [rUz,rDz,infoL,Nat.reduceSub,t0,hbw,fieldAddr_ptr fW0 SB,fieldAddr_ptr fB2 lcT,qcT,wk2,q1,fieldAddr_ptr fcT2 s3,q3,p3,gsh]
 refine draw_pick' rfl ?_
 simp (disch:=first|omega|decide) only [rUz,rDz,infoL,Nat.reduceSub,t0,hbw,fieldAddr_ptr fW0 SB,fieldAddr_ptr fB2 lcT,qcT,wk2,q1,fieldAddr_ptr fcT2 s3,q3,p3,gsh]
 refine draw_pick' rfl ?_
 simp (disch:=first|omega|decide) only [rUz,rDz,infoL,Nat.reduceSub,t0,hbw,fieldAddr_ptr fW0 SB,fieldAddr_ptr fB2 lcT,qcT,wk2,q1,fieldAddr_ptr fcT2 s3,q3,p3,gsh]
 refine draw_pick' rfl ?_
 simp (disch:=first|omega|decide) only [rUz,rDz,infoL,Nat.reduceSub,t0,hbw,fieldAddr_ptr fW0 SB,fieldAddr_ptr fB2 lcT,qcT,wk2,q1,fieldAddr_ptr fcT2 s3,q3,p3,gsh]
 refine draw_pick' rfl ?_
 simp (disch:=first|omega|decide) only [rUz,rDz,infoL,Nat.reduceSub,t0,hbw,fieldAddr_ptr fW0 SB,fieldAddr_ptr fB2 lcT,qcT,wk2,q1,fieldAddr_ptr fcT2 s3,q3,p3,gsh]
 refine draw_pick' rfl ?_
 simp (disch:=first|omega|decide) only [rUz,rDz,infoL,Nat.reduceSub,t0,hbw,fieldAddr_ptr fW0 SB,fieldAddr_ptr fB2 lcT,qcT,wk2,q1,fieldAddr_ptr fcT2 s3,q3,p3,gsh]
 refine drW_bringsX (fid:=67) (first:=#[]) (captured:=#[]) (Post:=fun u g'=>u = .agg ⟨[iv (overP c.sp y.1 d.2.1).1,iv (overP c.sp y.1 d.2.1).2]⟩ ∧ Fr g2 r g' ∧ WAt g' Bw r v c) rfl (hoff _ _ _ rfl) (by simp (disch:=first|omega|decide) only [rUz]; exact factor_y S hoff _ Bw r v c hw8 hv.sl hv.sok y.1 d.2.1) (Nat.le_of_ble_eq_true rfl) ?_
 rintro u g3 ⟨rfl,hfg,hw9⟩
 have b'ne:=cell_ne q3 hw8
 have q3':=(hfg.bl b' q2 b'ne).trans q3
 have hb59:=(hfg.bl B5 hn58 h5r).trans hb58
 have hg99:=(hfg.bl B9 hn8 h9r).trans hg8
 have ck9:=ck8.frm hfg hw9.mp hLr
 have hbw9:=hw9.bw
 have vb:=veq_row hw8.co.tr
 refine ⟨?_,?_⟩
 ·try simp (disch:=first|decide|rfl) only [again_nil,again_skip,again_free]
  rw [again_same (v:=iv x.sh) (by simp (disch:=first|omega|decide) only [rUz,rDz,infoL,Nat.reduceSub,q1,fieldAddr_ptr fcT2 s3,q3',p3,gsh]) veq_int]
  try simp (disch:=first|decide|rfl) only [again_nil,again_skip,again_free]
  rw [again_same (v:=v.b) (by simp (disch:=first|omega|decide) only [rUz,rDz,infoL,Nat.reduceSub,t0,hbw9,fieldAddr_ptr fW0 SB,fieldAddr_ptr fB2 lcT,qcT,wk2]) vb]
  try simp (disch:=first|decide|rfl) only [again_nil,again_skip,again_free]
  rw [again_same (v:=iv d.2.2) (by simp (disch:=first|omega|decide) only [rUz,rDz,infoL,Nat.reduceSub,t5,hb59,fieldAddr_ptr fcD2 s3,p3,c32]) veq_int]
  try simp (disch:=first|decide|rfl) only [again_nil,again_skip,again_free]
 simp (disch:=first|omega|decide) only [rUz,rDz,infoL,Nat.reduceSub]
 refine drW_brings (fid:=68) (first:=#[]) (captured:=#[]) (Post:=fun u _=>u = iv U) rfl (hoff _ _ _ rfl) (by simp (disch:=first|omega|decide) only [rUz]; exact (by rw [hU]; exact funits_y S _ (overP c.sp y.1 d.2.1) (over_room hv.sok hv.sl _ _) x.sh (by have:=htk.n0; omega) htk.n1)) (Nat.le_of_ble_eq_true rfl) ?_
 rintro u g4 hkg4 rfl
 have ck10:=ck9.kp hkg4 hw9.lr
 have hb510:=(hkg4.get (Nat.lt_of_lt_of_le hn58 hfg.le)).trans hb59
 have hg910:=(hkg4.get (Nat.lt_of_lt_of_le hn8 hfg.le)).trans hg99
 have hr4:r < g4.nx:=Nat.lt_of_lt_of_le hw9.lr hkg4.1
 refine ⟨?_,?_⟩
 ·try simp (disch:=first|decide|rfl) only [again_nil,again_skip,again_free]
  rw [again_same (v:=iv d.2.2) (by simp (disch:=first|omega|decide) only [rUz,rDz,infoL,Nat.reduceSub,t5,hb510,fieldAddr_ptr fcD2 s3,p3,c32]) veq_int]
  try simp (disch:=first|decide|rfl) only [again_nil,again_skip,again_free]
 simp (disch:=first|omega|decide) only [rUz,rDz,infoL,Nat.reduceSub,il]
 refine drW_store (B:=BL) (off:=k) (c:=(fillZ (clmP c ds d) ds.length k).map iv) (fam:=BL) (k0:=BL) (kd:=.i64) (z:=d.2.2 * U) (by simp (disch:=first|omega|decide) only [rUz,rDz,infoL,Nat.reduceSub]) (by simp (disch:=first|omega|decide) only [rUz,rDz,infoL,Nat.reduceSub]) s3' ck10.own.2.1 ck10.own.2.2 hl ?_ ?_
 ·try simp (disch:=first|decide|rfl) only [again_nil,again_skip,again_free]
 simp (disch:=first|omega|decide) only [rUz,rDz,infoL,Nat.reduceSub]
 have ck11:=ck10.set hHL hLr k (d.2.2 * U)
 have hb511:(g4.upd BL (((fillZ (clmP c ds d) ds.length k).map iv).set k (iv (d.2.2 * U))) BL).bl.get B5 = some (.cells (c3 d) B5 false):=by rw [upd_ne _ _ _ h5L]; exact hb510
 have hg911:(g4.upd BL (((fillZ (clmP c ds d) ds.length k).map iv).set k (iv (d.2.2 * U))) BL).bl.get B9 = some (.cells (c2 y) B9 false):=by rw [upd_ne _ _ _ h9L]; exact hg910
 have hr5:r < (g4.upd BL (((fillZ (clmP c ds d) ds.length k).map iv).set k (iv (d.2.2 * U))) BL).nx:=hr4
 generalize g4.upd BL (((fillZ (clmP c ds d) ds.length k).map iv).set k (iv (d.2.2 * U))) BL = g5 at ck11 hb511 hg911 hr5 ⊢
 clear hb58 hg8 hn58 hn8 hw8 hbw q1 q2 q3 q4 q5 q6 gsh hfg q3' hb59 hg99 ck9 hbw9 vb hb510 hg910 ck8 ck10 hr4 hw9
 repeat refine S.seq ?_
 refine S.region ?_
 simp (disch:=first|omega|decide) only [rUz,t5,hb511,p71 d,hg911,py]
 refine wr_brings (fid:=66) (first:=#[]) (captured:=#[]) (Post:=fun u _=>u = .bool (byQ d.2.1 y)) rfl (hoff _ _ _ rfl) (by simp (disch:=first|omega|decide) only [rUz]; exact reaches_y S hoff _ d y) ?_
 rintro u g6 hkg6 rfl
 have ck12:=ck11.kp hkg6 hr5
 simp (disch:=first|omega|decide) only [rUz]
 cases hby:byQ d.2.1 y with
 | false =>
  rw [hby,cond_false] at hef
  rw [← hef] at ck12
  repeat refine S.seq ?_
  refine S.cond (v:=false) (by first|rfl|(simp (disch:=first|omega|decide) only [rUz,↓reduceIte,Nat.reduceEqDiff,Nat.reduceAdd,hby] <;> rfl)) (fun e=>by cases e) (fun _=>?_)
  repeat refine S.seq ?_
  refine S.skip ?_
  simp (disch:=first|omega|decide) only [rUz]
  repeat refine S.seq ?_
  refine S.region ?_
  simp (disch:=first|omega|decide) only [rUz,t15]
  refine hn (k + 1) _ _ (by omega) ⟨ck12,?_,?_,?_,?_,?_,?_,by omega⟩
  all_goals (first|rfl|(simp (disch:=first|omega|decide) only [rUz,t0,t5,t7,t13,t14,t15]; done)|(simp (disch:=first|omega|decide) only [rUz,t0,t5,t7,t13,t14,t15]; rfl))
 | true =>
  rw [hby,cond_true] at hef
  have ck13:=ck12.set hHL hLr k (-(d.2.2 * U))
  rw [List.set_set,← hef] at ck13
  have ob:=ck12.own.2.1
  have of':=ck12.own.2.2
  have gk:(((fillZ (clmP c ds d) ds.length k).set k (d.2.2 * U)).map iv)[k]? = some (iv (d.2.2 * U)):=by
   rw [List.getElem?_map,List.getElem?_set_self (by rw [fillZ_len]; exact hkn)]; rfl
  have hl3:k < (((fillZ (clmP c ds d) ds.length k).set k (d.2.2 * U)).map iv).length:=by rw [List.length_map,List.length_set,fillZ_len]; exact hkn
  repeat refine S.seq ?_
  refine S.cond (v:=true) (by first|rfl|(simp (disch:=first|omega|decide) only [rUz,↓reduceIte,Nat.reduceEqDiff,Nat.reduceAdd,hby] <;> rfl)) (fun _=>?_) (fun e=>by cases e)
  repeat refine S.seq ?_
  refine S.region ?_
  simp (disch:=first|omega|decide) only [rUz,t7,il,ob,p3,gk]
  rw [aread_neg (i:=d.2.2 * U) (by simp (disch:=first|omega|decide) only [rUz]) (by omega) (by omega)]
  simp (disch:=first|omega|decide) only [rUz,t7,il]
  refine wr_store s3' ?_
  simp (disch:=first|omega|decide) only [rUz,ob,of']
  repeat refine S.seq ?_
  refine S.region ?_
  simp (disch:=first|omega|decide) only [rUz,t15]
  refine hn (k + 1) _ _ (by omega) ⟨ck13,?_,?_,?_,?_,?_,?_,by omega⟩
  all_goals (first|rfl|(simp (disch:=first|omega|decide) only [rUz,t0,t5,t7,t13,t14,t15]; done)|(simp (disch:=first|omega|decide) only [rUz,t0,t5,t7,t13,t14,t15]; rfl))
end Go.Proofs.Cp
