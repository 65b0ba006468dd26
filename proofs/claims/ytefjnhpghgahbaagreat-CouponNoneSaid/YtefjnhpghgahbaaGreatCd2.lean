import Derived.Test.YtefjnhpghgahbaaGreatCd1b
/- A company in which trades truly happened, by words. -/
namespace Go.Proofs.Cp
open Go Go.Ev Go.RowKit
set_option linter.unusedSimpArgs false

theorem bA0 (hs:Int) (q:Option Addr) (n c:Nat):rBuild Tryz.prog 34 [(0,iv hs),(1,.slice q n c)] = some (.agg ⟨[iv hs,.slice q n c,nl,nl,nl,nl]⟩):=by kernel_rfl
theorem brS (a b c:Int):rBuild Tryz.prog 61 [(0,iv a),(1,iv b),(2,iv c)] = some (.agg ⟨c3 (a,b,c)⟩):=by kernel_rfl
theorem brD (a b c:Int):rBuild Tryz.prog 55 [(0,iv a),(1,iv b),(2,iv c)] = some (.agg ⟨c3 (a,b,c)⟩):=by kernel_rfl
theorem brR (a b:Int):rBuild Tryz.prog 25 [(0,iv a),(1,iv b)] = some (.agg ⟨c2 (a,b)⟩):=by kernel_rfl
theorem brT (a c:Int):rBuild Tryz.prog 78 [(0,iv a),(2,iv c)] = some (.agg ⟨[iv a,iv 0,iv c,iv 0,iv 0,iv 0,iv 0]⟩):=by kernel_rfl
structure CoX (r p q:Nat) (h:AHeap) (v:Vs) (c:Co):Prop where
 xa:SlX r p q h 1 v.a (c.held.map fun n=>[iv n])
 xb:SlX r p q h 7 v.b (c.tr.map c7)
 xc:SlX r p q h 3 v.c (c.dv.map c3)
 xd:SlX r p q h 3 v.d (c.sp.map c3)
 xe:SlX r p q h 2 v.e (c.cl.map c2)
theorem CoX.at {r p q:Nat} {h:AHeap} {v:Vs} {c:Co} (k:CoX r p q h v c):CoAt h v c:=⟨SlAt.ints k.xa.at,k.xb.at,k.xc.at,k.xd.at,k.xe.at⟩
theorem CoX.kp {r p q:Nat} {h h':AHeap} {v:Vs} {c:Co} (k:CoX r p q h v c) (a:Kp h h'):CoX r p q h' v c:=⟨k.xa.kp a,k.xb.kp a,k.xc.kp a,k.xd.kp a,k.xe.kp a⟩
theorem CoX.upd {r p q B f:Nat} {d:List Value} {h:AHeap} {v:Vs} {c:Co} (k:CoX r p q h v c) (hB:B ≤ r ∨ B = p ∨ B = q):CoX r p q (h.upd B d f) v c:=⟨k.xa.upd hB,k.xb.upd hB,k.xc.upd hB,k.xd.upd hB,k.xe.upd hB⟩
structure DK (h0 h:AHeap) (B6 B7 B8:Nat):Prop where
 kp:Kp h0 h
 o6:h0.nx ≤ B6
 l67:B6 < B7
 l78:B7 < B8
 n8:B8 < h.nx
 b6:h.bl.get B6 = some (.cells [iv 0,nl,nl,nl,nl,nl] B6 false)
 f6:h.fams.get B6 = some [B6]
 b7:h.bl.get B7 = some (.cells [nl,nl] B7 false)
 f7:h.fams.get B7 = some [B7]
 f8:h.fams.get B8 = some [B8]
theorem DK.fr {h0 h h':AHeap} {B6 B7 B8:Nat} (k:DK h0 h B6 B7 B8) (a:Fr h B8 h'):DK h0 h' B6 B7 B8:=by
 obtain ⟨k1,k2,k3,k4,k5,k6,k7,k8,k9,k10⟩:=k
 have:=k1.1
 exact ⟨a.toKp k1 (by omega),k2,k3,k4,Nat.lt_of_lt_of_le k5 a.le,(a.bl B6 (by omega) (by omega)).trans k6,(a.fam B6 (by omega)).trans k7,(a.bl B7 (by omega) (by omega)).trans k8,(a.fam B7 (by omega)).trans k9,(a.fam B8 k5).trans k10⟩
def DealtP (h:AHeap) (held:List Int) (u:Value):Prop:=∃ v c ua ub a b,u = .tuple ⟨[.agg ⟨coV c.hs v⟩,.agg ⟨[ua,ub]⟩]⟩ ∧ CoAt h v c ∧ SlAt h 1 v.a (c.held.map fun n=>[iv n]) ∧ SlAt h 1 ua (a.map fun n=>[iv n]) ∧ SlAt h 1 ub (b.map fun n=>[iv n]) ∧ faultZ c = 0 ∧ truthB c a b = true ∧ c.held = held ∧ c.dv ≠ []
structure TD (hv wv:Value) (m:Int) (B6 B7 B8:Nat) (t:T Value):Prop where
 t0:tget t 0 = hv
 t1:tget t 1 = wv
 t2:tget t 2 = .int .u8 m
 t6:tget t 6 = ptr0 B6
 t7:tget t 7 = ptr0 B7
 t8:tget t 8 = ptr0 B8
structure IDx (cnt sz:Nat) (cells:Value → List Value) (H:AHeap) (hv wv:Value) (m:Int) (B6 B7 B8:Nat) (rows:List (List Value)) (k:Nat) (t:T Value) (h:AHeap) (v:Value) (F:Nat):Prop where
 td:TD hv wv m B6 B7 B8 t
 tc:tget t cnt = iv (k:Int)
 fr:Fr H B8 h
 b8:h.bl.get B8 = some (.cells (cells v) B8 false)
 app:App H.nx h sz v rows F
 len:rows.length ≤ k
def ID1 (cells:Value → List Value) (H:AHeap) (hv wv:Value) (m:Int) (B6 B7 B8:Nat) (k:Nat) (t:T Value) (h:AHeap):Prop:=∃ v F rows day,IDx 10 3 cells H hv wv m B6 B7 B8 (rows.map c3) k t h v F ∧ tget t 9 = iv day ∧ spOrd (-1) rows = true ∧ (∀ s,s ∈ rows → s.1 ≤ day) ∧ -1 ≤ day ∧ day ≤ 6 * (k:Int) ∧ k ≤ 2
def ID2 (cells:Value → List Value) (H:AHeap) (hv wv:Value) (m:Int) (B6 B7 B8:Nat) (k:Nat) (t:T Value) (h:AHeap):Prop:=∃ v F,∃ rows:List R2,IDx 12 2 cells H hv wv m B6 B7 B8 (rows.map c2) k t h v F ∧ rows.all daysB = true ∧ k ≤ 2
def ID3 (cells:Value → List Value) (H:AHeap) (hv wv:Value) (m:Int) (B6 B7 B8:Nat) (k:Nat) (t:T Value) (h:AHeap):Prop:=∃ v F,∃ rows:List T3,IDx 14 3 cells H hv wv m B6 B7 B8 (rows.map c3) k t h v F ∧ rows.all okDv = true ∧ rows.length = k ∧ k ≤ 3

structure OS (h0:AHeap) (B6 B7 B8 B16:Nat) (vs:Vs) (c:Co) (ua ub:Value) (a b:List Int) (h:AHeap):Prop where
 dk:DK h0 h B6 B7 B8
 l8:B8 < B16
 n16:B16 < h.nx
 f16:h.fams.get B16 = some [B16]
 cx:CoX B7 B8 B16 h vs c
 b8:h.bl.get B8 = some (.cells (coV c.hs vs) B8 false)
 b16:h.bl.get B16 = some (.cells [ua,ub] B16 false)
 xa:SlX B7 B8 B16 h 1 ua (a.map fun n=>[iv n])
 xb:SlX B7 B8 B16 h 1 ub (b.map fun n=>[iv n])
theorem OS.kp {h0 h h':AHeap} {B6 B7 B8 B16:Nat} {vs:Vs} {c:Co} {ua ub:Value} {a b:List Int} (k:OS h0 B6 B7 B8 B16 vs c ua ub a b h) (q:Kp h h'):OS h0 B6 B7 B8 B16 vs c ua ub a b h':=
 ⟨k.dk.fr q.fr,k.l8,Nat.lt_of_lt_of_le k.n16 q.1,(q.fget k.n16).trans k.f16,k.cx.kp q,(q.get k.dk.n8).trans k.b8,(q.get k.n16).trans k.b16,k.xa.kp q,k.xb.kp q⟩
theorem DK.updO {h0 h:AHeap} {B6 B7 B8 B f:Nat} {c:List Value} (k:DK h0 h B6 B7 B8) (hB:B8 < B):DK h0 (h.upd B c f) B6 B7 B8:=by
 obtain ⟨k1,k2,k3,k4,k5,k6,k7,k8,k9,k10⟩:=k
 exact ⟨k1.upd (by omega),k2,k3,k4,k5,by rw [upd_ne _ _ _ (by omega)]; exact k6,by rw [upd_fams]; exact k7,by rw [upd_ne _ _ _ (by omega)]; exact k8,by rw [upd_fams]; exact k9,by rw [upd_fams]; exact k10⟩
theorem OS.next {h0 h:AHeap} {B6 B7 B8 B16:Nat} {vs vs':Vs} {c c':Co} {ua ub ua' ub':Value} {a b a' b':List Int} (k:OS h0 B6 B7 B8 B16 vs c ua ub a b h) (hc:CoX B7 B8 B16 h vs' c') (hxa:SlX B7 B8 B16 h 1 ua' (a'.map fun n=>[iv n])) (hxb:SlX B7 B8 B16 h 1 ub' (b'.map fun n=>[iv n])) :
  OS h0 B6 B7 B8 B16 vs' c' ua' ub' a' b' ((h.upd B8 (coV c'.hs vs') B8).upd B16 [ua',ub'] B16):=by
 have l8:=k.l8
 exact ⟨(k.dk.fr Fr.refl.upd).updO l8,l8,k.n16,by rw [upd_fams,upd_fams]; exact k.f16,(hc.upd (.inr (.inl rfl))).upd (.inr (.inr rfl)),by rw [upd_ne _ _ _ (by omega)]; exact upd_eq _ _ _,upd_eq _ _ _,(hxa.upd (.inr (.inl rfl))).upd (.inr (.inr rfl)),(hxb.upd (.inr (.inl rfl))).upd (.inr (.inr rfl))⟩
structure TX (hv wv:Value) (m:Int) (B6 B7 B8 B16:Nat) (k:Nat) (t:T Value):Prop where
 td:TD hv wv m B6 B7 B8 t
 t16:tget t 16 = ptr0 B16
 t17:tget t 17 = iv (k:Int)
def ID4 (h0:AHeap) (hv wv:Value) (m:Int) (B6 B7 B8 B16:Nat) (ln:Int) (vh v1 v2 v3:Value) (held:List Int) (sp:List T3) (cl:List R2) (dv:List T3) (k:Nat) (t:T Value) (h:AHeap):Prop:=
 ∃ vt ua ub tr a b,TX hv wv m B6 B7 B8 B16 k t ∧ OS h0 B6 B7 B8 B16 ⟨vh,vt,v3,v1,v2⟩ ⟨ln,held,tr,dv,sp,cl⟩ ua ub a b h ∧ faultZ ⟨ln,held,tr,dv,sp,cl⟩ = 0 ∧ truthB ⟨ln,held,tr,dv,sp,cl⟩ a b = true ∧ tr.length ≤ k ∧ k ≤ 4
theorem fault_of {ln:Int} {held:List Int} {tr:List Tr} {dv sp:List T3} {cl:List R2} (h1:1 ≤ held.length) (h4:held.length ≤ 4) (hok:∀ n,n ∈ held → 0 ≤ n ∧ n ≤ 100) (hln:ln = (held.length:Int)) (ht:tr.length ≤ 4) (hta:tr.all (okTr ln) = true)
  (hdl:dv.length ≤ 3) (hda:dv.all okDv = true) (hsl:sp.length ≤ 2) (hso:spOrd (-1) sp = true) (hcl:cl.length ≤ 2) (hca:cl.all daysB = true):faultZ ⟨ln,held,tr,dv,sp,cl⟩ = 0:=by
 have hh:held.all (fun n=>inB n 0 100) = true:=List.all_eq_true.2 fun n hn=>inB_iff.2 (hok n hn)
 unfold faultZ
 have hm:manyZ ⟨ln,held,tr,dv,sp,cl⟩ = false:=by
  simp only [manyZ,Bool.or_eq_false_iff,decide_eq_false_iff_not]
  omega
 rw [hm,cond_false]
 have h2:(decide ((⟨ln,held,tr,dv,sp,cl⟩:Co).hs < 1) || !decide (((⟨ln,held,tr,dv,sp,cl⟩:Co).held.length:Int) = (⟨ln,held,tr,dv,sp,cl⟩:Co).hs)) = false:=by
  simp only [Bool.or_eq_false_iff,decide_eq_false_iff_not,Bool.not_eq_false',decide_eq_true_eq]
  omega
 rw [h2,cond_false]
 have h3:restZ ⟨ln,held,tr,dv,sp,cl⟩ = true:=by
  unfold restZ
  simp only [hh,hta,hda,hso,hca,Bool.and_self]
 rw [h3]; rfl
theorem truth_nil {ln:Int} {held:List Int} {dv sp:List T3} {cl:List R2} (hv:Val ⟨ln,held,[],dv,sp,cl⟩):truthB ⟨ln,held,[],dv,sp,cl⟩ [] [] = true:=by
 unfold truthB
 have hd:datedB ⟨ln,held,[],dv,sp,cl⟩ [] [] = true:=by
  unfold datedB
  rw [datG_nil]; rfl
 rw [hd,Bool.true_and,truG_iff]
 intro j _ _
 rw [pos_held hv]
 intro i
 unfold endH
 rw [heldG_nil]
 refine (facU_bnd hv ?_ ?_).1
 ·rw [List.getD_eq_getElem?_getD]
  cases e:held[i]? with
  | none=>exact Int.le_refl _
  | some y=>exact (hv.hok y (List.mem_of_getElem? e)).1
 ·rw [List.getD_eq_getElem?_getD]
  cases e:held[i]? with
  | none=>show (0:Int) ≤ 100; omega
  | some y=>exact (hv.hok y (List.mem_of_getElem? e)).2
theorem brU (q q':Option Addr) (n n' m m':Nat):rBuild Tryz.prog 36 [(0,.slice q n m),(1,.slice q' n' m')] = some (.agg ⟨[.slice q n m,.slice q' n' m']⟩):=by kernel_rfl
theorem prUt (x y:Value):partL Tryz.prog 36 [x,y] 0 = some (.agg ⟨[x,y]⟩):=part_0 (l:=[x,y]) prU rfl
theorem veq7 (x:Tr):veq (.agg ⟨c7 x⟩) (.agg ⟨c7 x⟩) = true:=by simp only [c7,veq,veqA,veqL,beqKind,beqI_eq,decide_true,Bool.and_self]
theorem prT7 (x:Tr):partL Tryz.prog 78 (c7 x) 0 = some (.agg ⟨c7 x⟩):=part_0 prT (c7_len x)
theorem lrT2:sizeB Tryz.prog 29 = some 1:=by kernel_rfl
theorem fill7 (x:Tr):Instr.fill (fun k=>some (k * 7,7)) ⟨repl (Value.agg ⟨[iv 0,iv 0,iv 0,iv 0,iv 0,iv 0,iv 0]⟩).cells.toList 1 []⟩ [(0,.agg ⟨c7 x⟩)] = some ⟨c7 x⟩:=by kernel_rfl
theorem okx {ln se bu a20 s d u1 u2 u3 u4 slo shi dlo dhi:Int} (bse:0 ≤ se ∧ se < ln) (hbu:0 ≤ bu ∧ bu < ln ∧ bu ≠ se) (ba:0 ≤ a20 ∧ a20 < 20) (bs:0 ≤ s ∧ s ≤ 11) (bd:0 ≤ d ∧ d ≤ 11) (b1:0 ≤ u1 ∧ u1 < 2) (b2:0 ≤ u2 ∧ u2 < 2) (b3:0 ≤ u3 ∧ u3 < 2) (b4:0 ≤ u4 ∧ u4 < 2)
  (c1:0 ≤ slo ∧ s - u1 ≤ slo ∧ (slo = 0 ∨ slo = s - u1)) (c2:shi ≤ 11 ∧ shi ≤ s + u2 ∧ (shi = 11 ∨ shi = s + u2)) (c3:0 ≤ dlo ∧ d - u3 ≤ dlo ∧ (dlo = 0 ∨ dlo = d - u3)) (c4:dhi ≤ 11 ∧ dhi ≤ d + u4 ∧ (dhi = 11 ∨ dhi = d + u4)) :
  okTr ln ⟨se,bu,1 + a20,(slo,shi),(dlo,dhi)⟩ = true:=by
 have e1:slo ≤ shi ∧ shi - slo ≤ 2:=by omega
 have e2:dlo ≤ dhi ∧ dhi - dlo ≤ 2:=by omega
 unfold okTr
 rw [inB_iff.2 (by show 0 ≤ se ∧ se ≤ ln - 1; omega),inB_iff.2 (by show 0 ≤ bu ∧ bu ≤ ln - 1; omega),inB_iff.2 (by show 1 ≤ 1 + a20 ∧ 1 + a20 ≤ 100; omega),daysB_iff.2 (by show 0 ≤ slo ∧ slo ≤ shi ∧ shi ≤ 11; omega),daysB_iff.2 (by show 0 ≤ dlo ∧ dlo ≤ dhi ∧ dhi ≤ 11; omega)]
 have f1:decide (se = bu) = false:=decide_eq_false (by omega)
 have f2:decide (2 < shi - slo) = false:=decide_eq_false (by omega)
 have f3:decide (2 < dhi - dlo) = false:=decide_eq_false (by omega)
 show (true && (true && (!decide (se = bu) && (true && (true && (true && (!decide (2 < shi - slo) && !decide (2 < dhi - dlo)))))))) = true
 rw [f1,f2,f3]; rfl
theorem dOf {s c4 d:Int} (bs:0 ≤ s ∧ s < 12) (bc:0 ≤ c4 ∧ c4 < 4) (bd:d ≤ 11 ∧ d ≤ s + c4 ∧ (d = 11 ∨ d = s + c4)):0 ≤ d ∧ d ≤ 11:=by omega
theorem sOf {s:Int} (bs:0 ≤ s ∧ s < 12):0 ≤ s ∧ s ≤ 11:=by omega
theorem buyer_ok {se r L:Int} (hL:L = 2 ∨ L = 3 ∨ L = 4) (h0:0 ≤ se) (h1:se < L) (h2:0 ≤ r) (h3:r < L - 1):0 ≤ (se + 1 + r).tmod L ∧ (se + 1 + r).tmod L < L ∧ (se + 1 + r).tmod L ≠ se:=by
 rw [Int.tmod_eq_emod_of_nonneg (by omega)]
 rcases hL with rfl|rfl|rfl <;> omega

variable {pr:Prim} {R:ExT}
set_option maxHeartbeats 256000000 in
theorem dealt_y (S:Ev.Steps Tryz.prog pr R) (hoff:Off pr) (h0:AHeap) (hv:Value) (held:List Int) (hh:SlAt h0 1 hv (held.map fun n=>[iv n])) (h1:1 ≤ held.length) (h4:held.length ≤ 4) (hok:∀ n,n ∈ held → 0 ≤ n ∧ n ≤ 100)
  (wv:Value) (ws:List Int) (hw:WdAt h0 wv ws) (hwl:(ws.length:Int) < 9223372036854775808) (m:Int) (hm:0 ≤ m ∧ m ≤ 255) :
  Brings Tryz.prog R 9 [hv,wv,.int .u8 m] h0 fun u h=>DealtP h held u:=by
 refine brings_of (fn:=Tryz.f9) (c:=(Tryz.f9.body).getD .skip) (by kernel_rfl) rfl (by kernel_rfl) rfl (fun K hK=>?_)
 generalize hF:finish Tryz.prog Tryz.f9 K = KF
 simp only [Tryz.f9,Option.getD_some,argsT,setArgs,fV1_eq,T.setK_eq,id]
 have lh:∀ (t:T Value) (h1:AHeap) (o:Oper),rLen Tryz.prog t h1 o 22 hv = some (iv (held.length:Int)):=iv_len (SlAt.ints hh)
 repeat refine S.seq ?_
 refine S.region ?_
 simp (disch:=first|omega|decide) only [rUz,wr_alloc zA,wr_alloc zrU]
 obtain ⟨B6,hB6⟩:∃ x,x = h0.nx:=⟨_,rfl⟩
 obtain ⟨B7,hB7⟩:∃ x,x = h0.nx + 1:=⟨_,rfl⟩
 have hb6:((h0.add [iv 0,nl,nl,nl,nl,nl]).add [nl,nl]).bl.get B6 = some (.cells [iv 0,nl,nl,nl,nl,nl] B6 false):=by simp (disch:=first|omega|(simp only [nZ] <;> omega)|decide) only [ag_ne]; subst hB6; exact ag_eq rfl
 have hf6:((h0.add [iv 0,nl,nl,nl,nl,nl]).add [nl,nl]).fams.get B6 = some [B6]:=by simp (disch:=first|omega|(simp only [nZ] <;> omega)|decide) only [af_ne]; subst hB6; exact af_eq rfl
 have hb7:((h0.add [iv 0,nl,nl,nl,nl,nl]).add [nl,nl]).bl.get B7 = some (.cells [nl,nl] B7 false):=by subst hB7; exact ag_eq rfl
 have hf7:((h0.add [iv 0,nl,nl,nl,nl,nl]).add [nl,nl]).fams.get B7 = some [B7]:=by subst hB7; exact af_eq rfl
 have hk1:Kp h0 ((h0.add [iv 0,nl,nl,nl,nl,nl]).add [nl,nl]):=Kp.refl.add.add
 have hn7:B7 < ((h0.add [iv 0,nl,nl,nl,nl,nl]).add [nl,nl]).nx:=by show B7 < h0.nx + 2; omega
 have o6:h0.nx ≤ B6:=by omega
 have l67:B6 < B7:=by omega
 rw [← hB7,← hB6]
 clear hB6 hB7
 generalize (h0.add [iv 0,nl,nl,nl,nl,nl]).add [nl,nl] = G0 at hb6 hf6 hb7 hf7 hk1 hn7 ⊢
 repeat refine S.seq ?_
 refine S.region ?_
 simp (disch:=first|omega|decide) only [rUz,lh]
 refine wr_brings (fid:=29) (first:=#[]) (captured:=#[]) (Post:=fun u h=>INew G0.nx h u held) rfl (hoff _ _ _ rfl) (by simp (disch:=first|omega|decide) only [rUz]; exact list_y S _ hv held (SlAt.mono hh hk1) (by omega)) ?_
 rintro u g hkg ⟨bv,fv,rfl,nv1,nv2,nv3⟩
 simp (disch:=first|omega|decide) only [rUz,rd_build,List.map_cons,List.map_nil,bA0,wr_alloc zA]
 refine wr_storeN (B:=g.nx) (c:=[iv 0,nl,nl,nl,nl,nl]) (fam:=g.nx) (k:=g.nx) (l:=[iv (held.length:Int),.slice (some ⟨bv,0,none⟩) held.length held.length,nl,nl,nl,nl]) (by simp (disch:=first|omega|decide) only [rUz]) (by simp (disch:=first|omega|decide) only [rUz]) sA (by omega) rfl (ag_eq rfl) (af_eq rfl) rfl ?_
 obtain ⟨B8,hB8⟩:∃ x,x = g.nx:=⟨_,rfl⟩
 obtain ⟨vh,hvh⟩:∃ x:Value,x = .slice (some ⟨bv,0,none⟩) held.length held.length:=⟨_,rfl⟩
 obtain ⟨ln,hln⟩:∃ x:Int,x = (held.length:Int):=⟨_,rfl⟩
 have hx8:SlX B7 B8 B8 ((g.add [iv 0,nl,nl,nl,nl,nl]).upd g.nx [iv (held.length:Int),.slice (some ⟨bv,0,none⟩) held.length held.length,nl,nl,nl,nl] g.nx) 1 vh (held.map fun n=>[iv n]):=by
  subst hvh
  refine .inr ⟨bv,held.length,fv,false,?_,by rw [List.length_map],by show bv < g.nx + 1; omega,by omega,?_,fun c hc=>?_⟩
  ·intro e
   rw [List.map_eq_nil_iff] at e
   rw [e] at h1
   simp at h1
  ·rw [upd_ne _ _ _ (by omega),ag_ne (by omega),flat1]; exact nv3
  ·obtain ⟨n,_,rfl⟩:=List.mem_map.1 hc; rfl
 have hdk:DK h0 ((g.add [iv 0,nl,nl,nl,nl,nl]).upd g.nx [iv (held.length:Int),.slice (some ⟨bv,0,none⟩) held.length held.length,nl,nl,nl,nl] g.nx) B6 B7 B8:=by
  have kA:Kp G0 ((g.add [iv 0,nl,nl,nl,nl,nl]).upd g.nx [iv (held.length:Int),.slice (some ⟨bv,0,none⟩) held.length held.length,nl,nl,nl,nl] g.nx):=hkg.add.upd hkg.1
  have:=hkg.1
  refine ⟨hk1.trans kA,o6,l67,by omega,by show B8 < g.nx + 1; omega,(kA.get (by omega)).trans hb6,(kA.fget (by omega)).trans hf6,(kA.get hn7).trans hb7,(kA.fget hn7).trans hf7,?_⟩
  rw [upd_fams]; subst hB8; exact af_eq rfl
 have hb8:((g.add [iv 0,nl,nl,nl,nl,nl]).upd g.nx [iv (held.length:Int),.slice (some ⟨bv,0,none⟩) held.length held.length,nl,nl,nl,nl] g.nx).bl.get B8 = some (.cells [iv ln,vh,nl,nl,nl,nl] B8 false):=by subst hB8 hvh hln; exact upd_eq _ _ _
 simp (disch:=first|omega|decide) only [rUz]
 rw [← hB8]
 rw [← hB8] at hdk hx8 hb8
 generalize (g.add [iv 0,nl,nl,nl,nl,nl]).upd B8 [iv (held.length:Int),.slice (some ⟨bv,0,none⟩) held.length held.length,nl,nl,nl,nl] B8 = H1 at hdk hx8 hb8 ⊢
 clear hb6 hf6 hb7 hf7 hk1 hn7 nv1 nv2 nv3 hB8 hvh hkg
 clear g G0
 repeat refine S.seq ?_
 refine S.region ?_
 simp (disch:=first|omega|decide) only [rUz]
 repeat refine S.seq ?_
 refine S.region ?_
 simp (disch:=first|omega|decide) only [rUz]
 repeat refine S.seq ?_
 refine S.block ?_
 refine S.loop (ι:=Nat) (ID1 (fun v=>[iv ln,vh,nl,nl,v,nl]) H1 hv wv m B6 B7 B8) (fun k=>3 - k) ?_ 0 _ _ ?_
 rotate_left
 ·refine ⟨nl,0,[],-1,⟨⟨?_,?_,?_,?_,?_,?_⟩,?_,Fr.refl,hb8,.inl ⟨rfl,rfl⟩,Nat.le_refl _⟩,?_,rfl,(fun s hs=>by cases hs),by omega,by omega,by omega⟩
  all_goals (first|rfl|(simp (disch:=first|omega|decide) only [rUz]; done)|(simp (disch:=first|omega|decide) only [rUz]; rfl))
 clear hb8
 intro k t h ⟨v,F,rows,day,⟨⟨t0,t1,t2,t6,t7,t8⟩,tc,fr,b8,happ,hlen⟩,t9,hord,hle,hd0,hd1,hk2⟩ K' hn he
 rw [List.length_map] at hlen
 have hdh:=hdk.fr fr
 have hl8:=hdk.n8
 have hfl:=fr.le
 repeat refine S.seq ?_
 refine S.region ?_
 simp (disch:=first|omega|decide) only [rUz,t1,tc]
 refine wr_brings (fid:=30) (first:=#[]) (captured:=#[]) (Post:=fun u h'=>(∃ n,u = iv n ∧ 0 ≤ n ∧ n ≤ 65535) ∧ h = h') rfl (hoff _ _ _ rfl) (by simp (disch:=first|omega|decide) only [rUz]; exact word_y S h wv ws (hw.mono hdh.kp) hwl 0 (by omega)) ?_
 rintro u g - ⟨⟨wn,rfl,wn0,wn1⟩,rfl⟩
 simp (disch:=first|omega|decide) only [rUz]
 refine optR_of' (bin_rem (i:=wn) (j:=3) (by simp (disch:=first|omega|decide) only [rUz]) (by simp (disch:=first|omega|decide) only [rUz]) (by omega)) ?_
 obtain ⟨r,hr⟩:∃ z,z = Int.tmod wn 3:=⟨_,rfl⟩
 have br:0 ≤ r ∧ r < 3:=by rw [hr]; exact ⟨Int.tmod_nonneg _ (by omega),Int.tmod_lt_of_pos _ (by omega)⟩
 rw [← hr]
 simp (disch:=first|omega|decide) only [rUz]
 repeat refine S.seq ?_
 refine S.cond (v:=decide ((k:Int) < r)) (by first|rfl|(simp (disch:=first|omega|decide) only [rUz,↓reduceIte,Nat.reduceEqDiff,Nat.reduceAdd] <;> rfl)) (fun e=>?_) (fun e=>?_)
 ·have hkr:(k:Int) < r:=of_decide_eq_true e
  clear e
  repeat refine S.seq ?_
  refine S.skip ?_
  simp (disch:=first|omega|decide) only [rUz]
  repeat refine S.seq ?_
  refine S.block ?_
  repeat refine S.seq ?_
  refine S.region ?_
  simp (disch:=first|omega|decide) only [rUz,t1,tc]
  refine wr_brings (fid:=30) (first:=#[]) (captured:=#[]) (Post:=fun u h'=>(∃ n,u = iv n ∧ 0 ≤ n ∧ n ≤ 65535) ∧ h = h') rfl (hoff _ _ _ rfl) (by simp (disch:=first|omega|decide) only [rUz]; exact word_y S h wv ws (hw.mono hdh.kp) hwl ((k:Int) + 1) (by omega)) ?_
  rintro u g - ⟨⟨w,rfl,w0,w1⟩,rfl⟩
  simp (disch:=first|omega|decide) only [rUz]
  repeat refine S.seq ?_
  refine S.region ?_
  simp (disch:=first|omega|decide) only [rUz,t9]
  refine optR_of' (bin_rem (i:=w) (j:=6) (by simp (disch:=first|omega|decide) only [rUz]) (by simp (disch:=first|omega|decide) only [rUz]) (by omega)) ?_
  obtain ⟨r6,hr6⟩:∃ z,z = Int.tmod w 6:=⟨_,rfl⟩
  have br6:0 ≤ r6 ∧ r6 < 6:=by rw [hr6]; exact ⟨Int.tmod_nonneg _ (by omega),Int.tmod_lt_of_pos _ (by omega)⟩
  rw [← hr6]
  simp (disch:=first|omega|decide) only [rUz]
  have hdd:day + (1 + r6) ≤ 6 * ((k + 1:Nat):Int):=by omega
  repeat refine S.seq ?_
  refine S.region ?_
  simp (disch:=first|omega|decide) only [rUz]
  repeat refine S.seq ?_
  refine S.cond (v:=decide (day + (1 + r6) ≤ 11)) (by first|rfl|(simp (disch:=first|omega|decide) only [rUz,↓reduceIte,Nat.reduceEqDiff,Nat.reduceAdd] <;> rfl)) (fun e=>?_) (fun e=>?_)
  ·have hd11:day + (1 + r6) ≤ 11:=of_decide_eq_true e
   clear e
   repeat refine S.seq ?_
   refine S.region ?_
   simp (disch:=first|omega|decide) only [rUz,t8,b8,fieldAddr_ptr fA4 lrS,qrS]
   have bq8:0 ≤ Int.tdiv w 8 ∧ Int.tdiv w 8 ≤ 65535:=by rw [Int.tdiv_eq_ediv_of_nonneg (by omega)]; omega
   refine optR_of' (bin_quo (i:=w) (j:=8) (by simp (disch:=first|omega|decide) only [rUz]) (by simp (disch:=first|omega|decide) only [rUz]) (by omega) (by omega) (by omega)) ?_
   obtain ⟨q8,hq8⟩:∃ z,z = Int.tdiv w 8:=⟨_,rfl⟩
   rw [← hq8] at bq8 ⊢
   clear hq8
   simp (disch:=first|omega|decide) only [rUz]
   refine optR_of' (bin_rem (i:=q8) (j:=6) (by simp (disch:=first|omega|decide) only [rUz]) (by simp (disch:=first|omega|decide) only [rUz]) (by omega)) ?_
   obtain ⟨a6,ha6⟩:∃ z,z = Int.tmod q8 6:=⟨_,rfl⟩
   have ba6:0 ≤ a6 ∧ a6 < 6:=by rw [ha6]; exact ⟨Int.tmod_nonneg _ (by omega),Int.tmod_lt_of_pos _ (by omega)⟩
   rw [← ha6]
   simp (disch:=first|omega|decide) only [rUz]
   have bq64:0 ≤ Int.tdiv w 64 ∧ Int.tdiv w 64 ≤ 65535:=by rw [Int.tdiv_eq_ediv_of_nonneg (by omega)]; omega
   refine optR_of' (bin_quo (i:=w) (j:=64) (by simp (disch:=first|omega|decide) only [rUz]) (by simp (disch:=first|omega|decide) only [rUz]) (by omega) (by omega) (by omega)) ?_
   obtain ⟨q64,hq64⟩:∃ z,z = Int.tdiv w 64:=⟨_,rfl⟩
   rw [← hq64] at bq64 ⊢
   clear hq64
   simp (disch:=first|omega|decide) only [rUz]
   refine optR_of' (bin_rem (i:=q64) (j:=4) (by simp (disch:=first|omega|decide) only [rUz]) (by simp (disch:=first|omega|decide) only [rUz]) (by omega)) ?_
   obtain ⟨a4,ha4⟩:∃ z,z = Int.tmod q64 4:=⟨_,rfl⟩
   have ba4:0 ≤ a4 ∧ a4 < 4:=by rw [ha4]; exact ⟨Int.tmod_nonneg _ (by omega),Int.tmod_lt_of_pos _ (by omega)⟩
   rw [← ha4]
   simp (disch:=first|omega|decide) only [rUz,rd_build,List.map_cons,List.map_nil,brS,w_buildSlice,w_append]
   obtain ⟨row,hrow⟩:∃ z:T3,z = (day + (1 + r6),1 + a6,1 + a4):=⟨_,rfl⟩
   rw [← hrow]
   refine wr_lit1 slrS srS zrS rfl (by omega) (u:=.agg ⟨c3 row⟩) (l:=c3 row) (by simp (disch:=first|omega|decide) only [rUz]) rfl rfl ?_
   simp (disch:=first|omega|decide) only [rUz,w_append]
   refine wr_append slrS urS (v:=v) (bx:=h.nx) (cx:=1) (by simp (disch:=first|omega|decide) only [rUz]) (by simp (disch:=first|omega|decide) only [rUz]) (happ.mono Kp.refl.add) (by show H1.nx ≤ h.nx + 1; omega) srS rfl (by omega) (ag_eq rfl) nrS (by rw [List.length_map]; show _ < 1000000; omega) ?_
   intro v3 h3 F3 x1 x2 x3 x4 x5
   obtain ⟨qb,nb,cb,hv3⟩:=x1.sl
   subst hv3
   have hgn:(h.add (c3 row)).nx = h.nx + 1:=rfl
   have b83:h3.bl.get B8 = some (.cells [iv ln,vh,nl,nl,v,nl] B8 false):=by rw [(x2.2 B8 hl8).1,ag_ne (by omega)]; exact b8
   have f83:h3.fams.get B8 = some [B8]:=by rw [(x2.2 B8 hl8).2,af_ne (by omega)]; exact hdh.f8
   have fr3:Fr H1 B8 h3:=(fr.kp Kp.refl.add).sm x2 (Nat.le_refl _)
   simp (disch:=first|omega|decide) only [rUz,t8,fieldAddr_ptr fA4 lrS]
   refine wr_store lrS' ?_
   simp (disch:=first|omega|decide) only [rUz,stSl,b83,f83,List.length_cons,List.length_nil]
   repeat refine S.seq ?_
   refine S.region ?_
   simp (disch:=first|omega|decide) only [rUz,tc]
   refine hn (k + 1) _ _ (by omega) ⟨_,F3,rows ++ [row],day + (1 + r6),⟨⟨?_,?_,?_,?_,?_,?_⟩,?_,fr3.upd,upd_eq _ _ _,?_,?_⟩,?_,?_,?_,by omega,hdd,by omega⟩
   any_goals (first|rfl|(simp (disch:=first|omega|decide) only [rUz,t0,t1,t2,t6,t7,t8]; done)|(simp (disch:=first|omega|decide) only [rUz,t0,t1,t2,t6,t7,t8]; rfl))
   ·rw [List.map_append]; exact x1.upd hl8
   ·rw [List.length_map,List.length_append]; show rows.length + 1 ≤ k + 1; omega
   ·subst hrow
    refine spOrd_snoc rows (-1) _ hord (fun s hs=>?_) (by show -1 < day + (1 + r6); omega) hd11 ⟨by show 1 ≤ 1 + a6; omega,by show 1 + a6 ≤ 6; omega⟩ ⟨by show 1 ≤ 1 + a4; omega,by show 1 + a4 ≤ 4; omega⟩
    have:=hle s hs
    show s.1 < day + (1 + r6)
    omega
   ·intro s hs
    rcases List.mem_append.1 hs with hs|hs
    ·have:=hle s hs; omega
    ·simp at hs; subst hs; subst hrow; exact Int.le_refl _
  ·clear e
   repeat refine S.seq ?_
   refine S.skip ?_
   simp (disch:=first|omega|decide) only [rUz]
   repeat refine S.seq ?_
   refine S.region ?_
   simp (disch:=first|omega|decide) only [rUz,tc]
   refine hn (k + 1) _ _ (by omega) ⟨v,F,rows,day + (1 + r6),⟨⟨?_,?_,?_,?_,?_,?_⟩,?_,fr,b8,happ,?_⟩,?_,hord,(fun s hs=>by have:=hle s hs; omega),by omega,hdd,by omega⟩
   any_goals (first|rfl|(simp (disch:=first|omega|decide) only [rUz,t0,t1,t2,t6,t7,t8]; done)|(simp (disch:=first|omega|decide) only [rUz,t0,t1,t2,t6,t7,t8]; rfl))
   rw [List.length_map]; omega
 clear e
 refine S.exit (he _ _ _ _ (fun e=>by cases e) ?_)
 clear hn he hle hd0 hd1 br hr wn0 wn1 t9
 try clear K'
 simp (disch:=first|omega|decide) only [rUz]
 have sx1:SlX B7 B8 B8 h 3 v (rows.map c3):=happ.slX (by have:=hdh.l78; omega) hl8 hl8
 have hxh:=hx8.fr fr
 have hspl:rows.length ≤ 2:=by omega
 obtain ⟨v1,hv1⟩:∃ z,z = v:=⟨_,rfl⟩
 rw [← hv1] at sx1 b8
 clear happ hx8 hdk fr hlen hk2 tc hfl hl8 hv1
 generalize rows = sp at sx1 hord hspl
 repeat refine S.seq ?_
 refine S.region ?_
 simp (disch:=first|omega|decide) only [rUz]
 repeat refine S.seq ?_
 refine S.block ?_
 obtain ⟨H,hH⟩:∃ z,z = h:=⟨_,rfl⟩
 rw [← hH] at hdh hxh b8 sx1 ⊢
 clear hH
 refine S.loop (ι:=Nat) (ID2 (fun v=>[iv ln,vh,nl,nl,v1,v]) H hv wv m B6 B7 B8) (fun k=>4 - k) ?_ 0 _ _ ?_
 rotate_left
 ·refine ⟨nl,0,[],⟨⟨?_,?_,?_,?_,?_,?_⟩,?_,Fr.refl,b8,.inl ⟨rfl,rfl⟩,Nat.le_refl _⟩,rfl,by omega⟩
  all_goals (first|rfl|(simp (disch:=first|omega|decide) only [rUz,t0,t1,t2,t6,t7,t8]; done)|(simp (disch:=first|omega|decide) only [rUz,t0,t1,t2,t6,t7,t8]; rfl))
 have hdk:=hdh
 clear b8 t0 t1 t2 t6 t7 t8 hdh
 try clear t
 try clear h
 try clear k
 try clear K'
 intro k t h ⟨v,F,rows,⟨⟨t0,t1,t2,t6,t7,t8⟩,tc,fr,b8,happ,hlen⟩,hall,hk2⟩ K' hn he
 rw [List.length_map] at hlen
 have hdh:=hdk.fr fr
 have hl8:=hdk.n8
 have hfl:=fr.le
 repeat refine S.seq ?_
 refine S.region ?_
 simp (disch:=first|omega|decide) only [rUz,t1,tc]
 refine wr_brings (fid:=30) (first:=#[]) (captured:=#[]) (Post:=fun u h'=>(∃ n,u = iv n ∧ 0 ≤ n ∧ n ≤ 65535) ∧ h = h') rfl (hoff _ _ _ rfl) (by simp (disch:=first|omega|decide) only [rUz]; exact word_y S h wv ws (hw.mono hdh.kp) hwl 0 (by omega)) ?_
 rintro u g - ⟨⟨wn,rfl,wn0,wn1⟩,rfl⟩
 simp (disch:=first|omega|decide) only [rUz]
 have bq:0 ≤ Int.tdiv wn 4 ∧ Int.tdiv wn 4 ≤ 65535:=by rw [Int.tdiv_eq_ediv_of_nonneg (by omega)]; omega
 refine optR_of' (bin_quo (i:=wn) (j:=4) (by simp (disch:=first|omega|decide) only [rUz]) (by simp (disch:=first|omega|decide) only [rUz]) (by omega) (by omega) (by omega)) ?_
 obtain ⟨q,hq⟩:∃ z,z = Int.tdiv wn 4:=⟨_,rfl⟩
 rw [← hq] at bq ⊢
 clear hq
 simp (disch:=first|omega|decide) only [rUz]
 refine optR_of' (bin_rem (i:=q) (j:=3) (by simp (disch:=first|omega|decide) only [rUz]) (by simp (disch:=first|omega|decide) only [rUz]) (by omega)) ?_
 obtain ⟨r,hr⟩:∃ z,z = Int.tmod q 3:=⟨_,rfl⟩
 have br:0 ≤ r ∧ r < 3:=by rw [hr]; exact ⟨Int.tmod_nonneg _ (by omega),Int.tmod_lt_of_pos _ (by omega)⟩
 rw [← hr]
 simp (disch:=first|omega|decide) only [rUz]
 repeat refine S.seq ?_
 refine S.cond (v:=decide ((k:Int) < r)) (by first|rfl|(simp (disch:=first|omega|decide) only [rUz,↓reduceIte,Nat.reduceEqDiff,Nat.reduceAdd] <;> rfl)) (fun e=>?_) (fun e=>?_)
 ·have hkr:(k:Int) < r:=of_decide_eq_true e
  clear e
  repeat refine S.seq ?_
  refine S.skip ?_
  simp (disch:=first|omega|decide) only [rUz]
  repeat refine S.seq ?_
  refine S.block ?_
  repeat refine S.seq ?_
  refine S.region ?_
  simp (disch:=first|omega|decide) only [rUz,t1,tc]
  refine wr_brings (fid:=30) (first:=#[]) (captured:=#[]) (Post:=fun u h'=>(∃ n,u = iv n ∧ 0 ≤ n ∧ n ≤ 65535) ∧ h = h') rfl (hoff _ _ _ rfl) (by simp (disch:=first|omega|decide) only [rUz]; exact word_y S h wv ws (hw.mono hdh.kp) hwl ((k:Int) + 3) (by omega)) ?_
  rintro u g - ⟨⟨w,rfl,w0,w1⟩,rfl⟩
  simp (disch:=first|omega|decide) only [rUz]
  repeat refine S.seq ?_
  refine S.region ?_
  simp (disch:=first|omega|decide) only [rUz,t8,b8,fieldAddr_ptr fA5 lrR,qrR]
  refine optR_of' (bin_rem (i:=w) (j:=10) (by simp (disch:=first|omega|decide) only [rUz]) (by simp (disch:=first|omega|decide) only [rUz]) (by omega)) ?_
  obtain ⟨a,ha⟩:∃ z,z = Int.tmod w 10:=⟨_,rfl⟩
  have ba:0 ≤ a ∧ a < 10:=by rw [ha]; exact ⟨Int.tmod_nonneg _ (by omega),Int.tmod_lt_of_pos _ (by omega)⟩
  rw [← ha]
  simp (disch:=first|omega|decide) only [rUz]
  refine optR_of' (bin_rem (i:=w) (j:=10) (by simp (disch:=first|omega|decide) only [rUz]) (by simp (disch:=first|omega|decide) only [rUz]) (by omega)) ?_
  rw [← ha]
  simp (disch:=first|omega|decide) only [rUz]
  have bq16:0 ≤ Int.tdiv w 16 ∧ Int.tdiv w 16 ≤ 65535:=by rw [Int.tdiv_eq_ediv_of_nonneg (by omega)]; omega
  refine optR_of' (bin_quo (i:=w) (j:=16) (by simp (disch:=first|omega|decide) only [rUz]) (by simp (disch:=first|omega|decide) only [rUz]) (by omega) (by omega) (by omega)) ?_
  obtain ⟨q16,hq16⟩:∃ z,z = Int.tdiv w 16:=⟨_,rfl⟩
  rw [← hq16] at bq16 ⊢
  clear hq16
  simp (disch:=first|omega|decide) only [rUz]
  refine optR_of' (bin_rem (i:=q16) (j:=4) (by simp (disch:=first|omega|decide) only [rUz]) (by simp (disch:=first|omega|decide) only [rUz]) (by omega)) ?_
  obtain ⟨c4,hc4⟩:∃ z,z = Int.tmod q16 4:=⟨_,rfl⟩
  have bc4:0 ≤ c4 ∧ c4 < 4:=by rw [hc4]; exact ⟨Int.tmod_nonneg _ (by omega),Int.tmod_lt_of_pos _ (by omega)⟩
  rw [← hc4]
  simp (disch:=first|omega|decide) only [rUz,w_min,rd_min]
  refine optR_of' (v:=iv (min2 11 (a + c4))) (call2_congr_c (t':=T.set 85 .leaf 84 (iv (a + c4))) (u:=iv 11) (v:=iv (a + c4)) (by simp (disch:=first|omega|decide) only [rUz]) (by kernel_rfl) (by kernel_rfl)) ?_
  obtain ⟨mn,hmn⟩:∃ z,z = min2 11 (a + c4):=⟨_,rfl⟩
  have bmn:=min2_le 11 (a + c4)
  rw [← hmn] at bmn ⊢
  clear hmn
  simp (disch:=first|omega|decide) only [rUz,rd_build,List.map_cons,List.map_nil,brR,w_buildSlice,w_append]
  obtain ⟨row,hrow⟩:∃ z:R2,z = (a,mn):=⟨_,rfl⟩
  rw [← hrow]
  refine wr_lit1 slrR srR zrR rfl (by omega) (u:=.agg ⟨c2 row⟩) (l:=c2 row) (by simp (disch:=first|omega|decide) only [rUz]) rfl rfl ?_
  simp (disch:=first|omega|decide) only [rUz,w_append]
  refine wr_append slrR urR (v:=v) (bx:=h.nx) (cx:=1) (by simp (disch:=first|omega|decide) only [rUz]) (by simp (disch:=first|omega|decide) only [rUz]) (happ.mono Kp.refl.add) (by show H.nx ≤ h.nx + 1; omega) srR rfl (by omega) (ag_eq rfl) nrR (by rw [List.length_map]; show _ < 1000000; omega) ?_
  intro vX h3 F3 x1 x2 x3 x4 x5
  obtain ⟨qb,nb,cb,hv3⟩:=x1.sl
  subst hv3
  have hgn:(h.add (c2 row)).nx = h.nx + 1:=rfl
  have b83:h3.bl.get B8 = some (.cells ([iv ln,vh,nl,nl,v1,v]) B8 false):=by rw [(x2.2 B8 hl8).1,ag_ne (by omega)]; exact b8
  have f83:h3.fams.get B8 = some [B8]:=by rw [(x2.2 B8 hl8).2,af_ne (by omega)]; exact hdh.f8
  have fr3:Fr H B8 h3:=(fr.kp Kp.refl.add).sm x2 (Nat.le_refl _)
  simp (disch:=first|omega|decide) only [rUz,t8,fieldAddr_ptr fA5 lrR]
  refine wr_store lrR' ?_
  simp (disch:=first|omega|decide) only [rUz,stSl,b83,f83,List.length_cons,List.length_nil]
  repeat refine S.seq ?_
  refine S.region ?_
  simp (disch:=first|omega|decide) only [rUz,tc]
  refine hn (k + 1) _ _ (by omega) ⟨_,F3,rows ++ [row],⟨⟨?_,?_,?_,?_,?_,?_⟩,?_,fr3.upd,upd_eq _ _ _,?_,?_⟩,?_,by omega⟩
  any_goals (first|rfl|(simp (disch:=first|omega|decide) only [rUz,t0,t1,t2,t6,t7,t8]; done)|(simp (disch:=first|omega|decide) only [rUz,t0,t1,t2,t6,t7,t8]; rfl))
  ·rw [List.map_append]; exact x1.upd hl8
  ·rw [List.length_map,List.length_append]; show rows.length + 1 ≤ k + 1; omega
  ·subst hrow
   rw [List.all_append,hall]
   show (true && (daysB (a,mn) && true)) = true
   rw [daysB_iff.2 ⟨ba.1,(by show a ≤ mn; omega),bmn.1⟩]; rfl
 have hke:¬ ((k:Int) < r):=of_decide_eq_false e
 clear e
 refine S.exit (he _ _ _ _ (fun e=>by cases e) ?_)
 have hlx:rows.length ≤ 2:=by omega
 clear hn he hke br hr bq wn0 wn1
 simp (disch:=first|omega|decide) only [rUz]
 obtain ⟨v2,hvn⟩:∃ z,z = v:=⟨_,rfl⟩
 have sx2:SlX B7 B8 B8 h 2 v2 (rows.map c2):=by rw [hvn]; exact happ.slX (by have:=hdh.l78; omega) hl8 hl8
 have hxh2:=hxh.fr fr
 rw [← hvn] at b8
 have sx1b:=sx1.fr fr
 clear happ hxh hdk fr hlen hk2 tc hfl hl8 hvn sx1
 have hxh:=hxh2
 clear hxh2
 have sx1:=sx1b
 clear sx1b
 generalize rows = cl at sx2 hall hlx
 try clear H
 have hcl:=hall
 have hcll:=hlx
 clear hall hlx
 repeat refine S.seq ?_
 refine S.region ?_
 simp (disch:=first|omega|decide) only [rUz]
 repeat refine S.seq ?_
 refine S.block ?_
 obtain ⟨H,hH⟩:∃ z,z = h:=⟨_,rfl⟩
 rw [← hH] at hdh hxh b8 sx1 sx2 ⊢
 clear hH
 refine S.loop (ι:=Nat) (ID3 (fun v=>[iv ln,vh,nl,v,v1,v2]) H hv wv m B6 B7 B8) (fun k=>4 - k) ?_ 0 _ _ ?_
 rotate_left
 ·refine ⟨nl,0,[],⟨⟨?_,?_,?_,?_,?_,?_⟩,?_,Fr.refl,b8,.inl ⟨rfl,rfl⟩,Nat.le_refl _⟩,rfl,rfl,by omega⟩
  all_goals (first|rfl|(simp (disch:=first|omega|decide) only [rUz,t0,t1,t2,t6,t7,t8]; done)|(simp (disch:=first|omega|decide) only [rUz,t0,t1,t2,t6,t7,t8]; rfl))
 have hdk:=hdh
 clear b8 t0 t1 t2 t6 t7 t8 hdh
 try clear t
 try clear h
 try clear k
 try clear K'
 intro k t h ⟨v,F,rows,⟨⟨t0,t1,t2,t6,t7,t8⟩,tc,fr,b8,happ,hlen⟩,hall,hlk,hk2⟩ K' hn he
 rw [List.length_map] at hlen
 have hdh:=hdk.fr fr
 have hl8:=hdk.n8
 have hfl:=fr.le
 repeat refine S.seq ?_
 refine S.region ?_
 simp (disch:=first|omega|decide) only [rUz,t1,tc]
 refine wr_brings (fid:=30) (first:=#[]) (captured:=#[]) (Post:=fun u h'=>(∃ n,u = iv n ∧ 0 ≤ n ∧ n ≤ 65535) ∧ h = h') rfl (hoff _ _ _ rfl) (by simp (disch:=first|omega|decide) only [rUz]; exact word_y S h wv ws (hw.mono hdh.kp) hwl 0 (by omega)) ?_
 rintro u g - ⟨⟨wn,rfl,wn0,wn1⟩,rfl⟩
 simp (disch:=first|omega|decide) only [rUz]
 have bq:0 ≤ Int.tdiv wn 16 ∧ Int.tdiv wn 16 ≤ 65535:=by rw [Int.tdiv_eq_ediv_of_nonneg (by omega)]; omega
 refine optR_of' (bin_quo (i:=wn) (j:=16) (by simp (disch:=first|omega|decide) only [rUz]) (by simp (disch:=first|omega|decide) only [rUz]) (by omega) (by omega) (by omega)) ?_
 obtain ⟨q,hq⟩:∃ z,z = Int.tdiv wn 16:=⟨_,rfl⟩
 rw [← hq] at bq ⊢
 clear hq
 simp (disch:=first|omega|decide) only [rUz]
 refine optR_of' (bin_rem (i:=q) (j:=3) (by simp (disch:=first|omega|decide) only [rUz]) (by simp (disch:=first|omega|decide) only [rUz]) (by omega)) ?_
 obtain ⟨r,hr⟩:∃ z,z = Int.tmod q 3:=⟨_,rfl⟩
 have br:0 ≤ r ∧ r < 3:=by rw [hr]; exact ⟨Int.tmod_nonneg _ (by omega),Int.tmod_lt_of_pos _ (by omega)⟩
 rw [← hr]
 simp (disch:=first|omega|decide) only [rUz]
 repeat refine S.seq ?_
 refine S.cond (v:=decide ((k:Int) < 1 + r)) (by first|rfl|(simp (disch:=first|omega|decide) only [rUz,↓reduceIte,Nat.reduceEqDiff,Nat.reduceAdd] <;> rfl)) (fun e=>?_) (fun e=>?_)
 ·have hkr:(k:Int) < 1 + r:=of_decide_eq_true e
  clear e
  repeat refine S.seq ?_
  refine S.skip ?_
  simp (disch:=first|omega|decide) only [rUz]
  repeat refine S.seq ?_
  refine S.block ?_
  repeat refine S.seq ?_
  refine S.region ?_
  simp (disch:=first|omega|decide) only [rUz,t1,tc]
  refine wr_brings (fid:=30) (first:=#[]) (captured:=#[]) (Post:=fun u h'=>(∃ n,u = iv n ∧ 0 ≤ n ∧ n ≤ 65535) ∧ h = h') rfl (hoff _ _ _ rfl) (by simp (disch:=first|omega|decide) only [rUz]; exact word_y S h wv ws (hw.mono hdh.kp) hwl ((k:Int) + 5) (by omega)) ?_
  rintro u g - ⟨⟨w,rfl,w0,w1⟩,rfl⟩
  simp (disch:=first|omega|decide) only [rUz]
  repeat refine S.seq ?_
  refine S.region ?_
  simp (disch:=first|omega|decide) only [rUz,t8,b8,fieldAddr_ptr fA3 lrD,qrD]
  refine optR_of' (bin_rem (i:=w) (j:=12) (by simp (disch:=first|omega|decide) only [rUz]) (by simp (disch:=first|omega|decide) only [rUz]) (by omega)) ?_
  obtain ⟨a,ha⟩:∃ z,z = Int.tmod w 12:=⟨_,rfl⟩
  have ba:0 ≤ a ∧ a < 12:=by rw [ha]; exact ⟨Int.tmod_nonneg _ (by omega),Int.tmod_lt_of_pos _ (by omega)⟩
  rw [← ha]
  simp (disch:=first|omega|decide) only [rUz]
  refine optR_of' (bin_rem (i:=w) (j:=12) (by simp (disch:=first|omega|decide) only [rUz]) (by simp (disch:=first|omega|decide) only [rUz]) (by omega)) ?_
  rw [← ha]
  simp (disch:=first|omega|decide) only [rUz]
  have bq16:0 ≤ Int.tdiv w 16 ∧ Int.tdiv w 16 ≤ 65535:=by rw [Int.tdiv_eq_ediv_of_nonneg (by omega)]; omega
  refine optR_of' (bin_quo (i:=w) (j:=16) (by simp (disch:=first|omega|decide) only [rUz]) (by simp (disch:=first|omega|decide) only [rUz]) (by omega) (by omega) (by omega)) ?_
  obtain ⟨q16,hq16⟩:∃ z,z = Int.tdiv w 16:=⟨_,rfl⟩
  rw [← hq16] at bq16 ⊢
  clear hq16
  simp (disch:=first|omega|decide) only [rUz]
  refine optR_of' (bin_rem (i:=q16) (j:=5) (by simp (disch:=first|omega|decide) only [rUz]) (by simp (disch:=first|omega|decide) only [rUz]) (by omega)) ?_
  obtain ⟨c5,hc5⟩:∃ z,z = Int.tmod q16 5:=⟨_,rfl⟩
  have bc5:0 ≤ c5 ∧ c5 < 5:=by rw [hc5]; exact ⟨Int.tmod_nonneg _ (by omega),Int.tmod_lt_of_pos _ (by omega)⟩
  rw [← hc5]
  simp (disch:=first|omega|decide) only [rUz,w_min,rd_min]
  refine optR_of' (v:=iv (min2 11 (a + c5))) (call2_congr_c (t':=T.set 113 .leaf 112 (iv (a + c5))) (u:=iv 11) (v:=iv (a + c5)) (by simp (disch:=first|omega|decide) only [rUz]) (by kernel_rfl) (by kernel_rfl)) ?_
  obtain ⟨mn,hmn⟩:∃ z,z = min2 11 (a + c5):=⟨_,rfl⟩
  have bmn:=min2_le 11 (a + c5)
  rw [← hmn] at bmn ⊢
  clear hmn
  simp (disch:=first|omega|decide) only [rUz]
  have bq128:0 ≤ Int.tdiv w 128 ∧ Int.tdiv w 128 ≤ 65535:=by rw [Int.tdiv_eq_ediv_of_nonneg (by omega)]; omega
  refine optR_of' (bin_quo (i:=w) (j:=128) (by simp (disch:=first|omega|decide) only [rUz]) (by simp (disch:=first|omega|decide) only [rUz]) (by omega) (by omega) (by omega)) ?_
  obtain ⟨q128,hq128⟩:∃ z,z = Int.tdiv w 128:=⟨_,rfl⟩
  rw [← hq128] at bq128 ⊢
  clear hq128
  simp (disch:=first|omega|decide) only [rUz]
  refine optR_of' (bin_rem (i:=q128) (j:=51) (by simp (disch:=first|omega|decide) only [rUz]) (by simp (disch:=first|omega|decide) only [rUz]) (by omega)) ?_
  obtain ⟨p51,hp51⟩:∃ z,z = Int.tmod q128 51:=⟨_,rfl⟩
  have bp51:0 ≤ p51 ∧ p51 < 51:=by rw [hp51]; exact ⟨Int.tmod_nonneg _ (by omega),Int.tmod_lt_of_pos _ (by omega)⟩
  rw [← hp51]
  simp (disch:=first|omega|decide) only [rUz,rd_build,List.map_cons,List.map_nil,brD,w_buildSlice,w_append]
  obtain ⟨row,hrow⟩:∃ z:T3,z = (a,mn,p51):=⟨_,rfl⟩
  rw [← hrow]
  refine wr_lit1 slrD srD zrD rfl (by omega) (u:=.agg ⟨c3 row⟩) (l:=c3 row) (by simp (disch:=first|omega|decide) only [rUz]) rfl rfl ?_
  simp (disch:=first|omega|decide) only [rUz,w_append]
  refine wr_append slrD urD (v:=v) (bx:=h.nx) (cx:=1) (by simp (disch:=first|omega|decide) only [rUz]) (by simp (disch:=first|omega|decide) only [rUz]) (happ.mono Kp.refl.add) (by show H.nx ≤ h.nx + 1; omega) srD rfl (by omega) (ag_eq rfl) nrD (by rw [List.length_map]; show _ < 1000000; omega) ?_
  intro vX h3 F3 x1 x2 x3 x4 x5
  obtain ⟨qb,nb,cb,hv3⟩:=x1.sl
  subst hv3
  have hgn:(h.add (c3 row)).nx = h.nx + 1:=rfl
  have b83:h3.bl.get B8 = some (.cells ([iv ln,vh,nl,v,v1,v2]) B8 false):=by rw [(x2.2 B8 hl8).1,ag_ne (by omega)]; exact b8
  have f83:h3.fams.get B8 = some [B8]:=by rw [(x2.2 B8 hl8).2,af_ne (by omega)]; exact hdh.f8
  have fr3:Fr H B8 h3:=(fr.kp Kp.refl.add).sm x2 (Nat.le_refl _)
  simp (disch:=first|omega|decide) only [rUz,t8,fieldAddr_ptr fA3 lrD]
  refine wr_store lrD' ?_
  simp (disch:=first|omega|decide) only [rUz,stSl,b83,f83,List.length_cons,List.length_nil]
  repeat refine S.seq ?_
  refine S.region ?_
  simp (disch:=first|omega|decide) only [rUz,tc]
  refine hn (k + 1) _ _ (by omega) ⟨_,F3,rows ++ [row],⟨⟨?_,?_,?_,?_,?_,?_⟩,?_,fr3.upd,upd_eq _ _ _,?_,?_⟩,?_,?_,by omega⟩
  any_goals (first|rfl|(simp (disch:=first|omega|decide) only [rUz,t0,t1,t2,t6,t7,t8]; done)|(simp (disch:=first|omega|decide) only [rUz,t0,t1,t2,t6,t7,t8]; rfl))
  ·rw [List.map_append]; exact x1.upd hl8
  ·rw [List.length_map,List.length_append]; show rows.length + 1 ≤ k + 1; omega
  ·subst hrow
   rw [List.all_append,hall]
   show (true && (okDv (a,mn,p51) && true)) = true
   rw [(by unfold okDv; rw [daysB_iff.2 ⟨ba.1,(by show a ≤ mn; omega),bmn.1⟩,inB_iff.2 ⟨bp51.1,(by show p51 ≤ 50; omega)⟩]; rfl:okDv (a,mn,p51) = true)]; rfl
  ·rw [List.length_append,hlk]; rfl
 have hke:¬ ((k:Int) < 1 + r):=of_decide_eq_false e
 clear e
 refine S.exit (he _ _ _ _ (fun e=>by cases e) ?_)
 have hlx:rows.length ≤ 3:=by omega
 have hdv1:1 ≤ rows.length:=by omega
 clear hn he hke br hr bq hlk wn0 wn1
 simp (disch:=first|omega|decide) only [rUz]
 obtain ⟨v3,hvn⟩:∃ z,z = v:=⟨_,rfl⟩
 have sx3:SlX B7 B8 B8 h 3 v3 (rows.map c3):=by rw [hvn]; exact happ.slX (by have:=hdh.l78; omega) hl8 hl8
 have hxh2:=hxh.fr fr
 rw [← hvn] at b8
 have sx1b:=sx1.fr fr
 have sx2b:=sx2.fr fr
 clear happ hxh hdk fr hlen hk2 tc hfl hl8 hvn sx1 sx2
 have hxh:=hxh2
 clear hxh2
 have sx1:=sx1b
 have sx2:=sx2b
 clear sx1b sx2b
 generalize rows = dv at sx3 hall hlx hdv1
 try clear H
 have hdv:=hall
 have hdvl:=hlx
 clear hall hlx
 obtain ⟨B16,hB16⟩:∃ z,z = h.nx:=⟨_,rfl⟩
 have hl8:=hdh.n8
 have hf0:faultZ ⟨ln,held,[],dv,sp,cl⟩ = 0:=fault_of h1 h4 hok hln (by decide) rfl hdvl hdv hspl hord hcll hcl
 have hos0:OS h0 B6 B7 B8 B16 ⟨vh,nl,v3,v1,v2⟩ ⟨ln,held,[],dv,sp,cl⟩ nl nl [] [] (h.add [nl,nl]):=by
  have ka:Kp h (h.add [nl,nl]):=Kp.refl.add
  have hq:h.nx ≤ B16:=by omega
  exact ⟨hdh.fr ka.fr,by omega,by show B16 < h.nx + 1; omega,by subst hB16; exact af_eq rfl,⟨(hxh.two hq).kp ka,.inl ⟨rfl,rfl⟩,(sx3.two hq).kp ka,(sx1.two hq).kp ka,(sx2.two hq).kp ka⟩,(ka.get hl8).trans b8,by subst hB16; exact ag_eq rfl,.inl ⟨rfl,rfl⟩,.inl ⟨rfl,rfl⟩⟩
 repeat refine S.seq ?_
 refine S.region ?_
 simp (disch:=first|omega|decide) only [rUz,wr_alloc zrU]
 rw [← hB16]
 generalize h.add [nl,nl] = H4 at hos0 ⊢
 clear hB16 hl8 hdh hxh sx1 sx2 sx3 b8
 repeat refine S.seq ?_
 refine S.region ?_
 simp (disch:=first|omega|decide) only [rUz]
 repeat refine S.seq ?_
 refine S.block ?_
 refine S.loop (ι:=Nat) (ID4 h0 hv wv m B6 B7 B8 B16 ln vh v1 v2 v3 held sp cl dv) (fun k=>5 - k) ?_ 0 _ _ ?_
 rotate_left
 ·refine ⟨nl,nl,nl,[],[],[],⟨⟨?_,?_,?_,?_,?_,?_⟩,?_,?_⟩,hos0,hf0,truth_nil (Val.of_fault hf0),Nat.le_refl _,by omega⟩
  all_goals (first|rfl|(simp (disch:=first|omega|decide) only [rUz,t0,t1,t2,t6,t7,t8]; done)|(simp (disch:=first|omega|decide) only [rUz,t0,t1,t2,t6,t7,t8]; rfl))
 clear t0 t1 t2 t6 t7 t8 hos0 hf0
 try clear t
 try clear k
 intro k t h ⟨vt,ua,ub,tr,a,b,⟨⟨t0,t1,t2,t6,t7,t8⟩,t16,t17⟩,hos,hfz,htru,htl,hk4⟩ K' hn he
 repeat refine S.seq ?_
 refine S.region ?_
 generalize hJJ:(fun (t:T Value) (h:AHeap)=>_) = KJ
 suffices hJ:∀ t,TX hv wv m B6 B7 B8 B16 k t → tget t 130 = .bool (decide ((k:Int) < m.tmod 5) && decide (1 < (held.length:Int))) → KJ t h = true by
  clear hJJ hn he hK
  simp (disch:=first|omega|decide) only [rUz,t17,t2,w_cv8,rd_conv]
  refine optR_of' (v:=iv m) (conv_int Tryz.underlying5 Tryz.underlying3 (by omega) (by omega)) ?_
  simp (disch:=first|omega|decide) only [rUz]
  refine optR_of' (bin_rem (i:=m) (j:=5) (by simp (disch:=first|omega|decide) only [rUz]) (by simp (disch:=first|omega|decide) only [rUz]) (by omega)) ?_
  cases e1:decide ((k:Int) < m.tmod 5) with
  | false =>
   simp (disch:=first|omega|decide) only [rUz,e1]
   refine hJ _ ⟨⟨?_,?_,?_,?_,?_,?_⟩,?_,?_⟩ ?_
   all_goals (first|rfl|(simp (disch:=first|omega|decide) only [rUz,t0,t1,t2,t6,t7,t8,t16,t17,e1,Bool.false_and]; done)|(simp (disch:=first|omega|decide) only [rUz,t0,t1,t2,t6,t7,t8,t16,t17,e1,Bool.false_and]; rfl))
  | true =>
   simp (disch:=first|omega|decide) only [rUz,e1,t0,lh]
   refine hJ _ ⟨⟨?_,?_,?_,?_,?_,?_⟩,?_,?_⟩ ?_
   all_goals (first|rfl|(simp (disch:=first|omega|decide) only [rUz,t0,t1,t2,t6,t7,t8,t16,t17,e1,Bool.true_and]; done)|(simp (disch:=first|omega|decide) only [rUz,t0,t1,t2,t6,t7,t8,t16,t17,e1,Bool.true_and]; rfl))
 clear t0 t1 t2 t6 t7 t8 t16 t17
 clear t
 intro t ⟨⟨t0,t1,t2,t6,t7,t8⟩,t16,t17⟩ t130
 subst hJJ
 simp only [seqK_normal]
 repeat refine S.seq ?_
 refine S.cond (v:=(decide ((k:Int) < m.tmod 5) && decide (1 < (held.length:Int)))) (by first|rfl|(simp (disch:=first|omega|decide) only [rUz,↓reduceIte,Nat.reduceEqDiff,Nat.reduceAdd,t130] <;> rfl)) (fun e=>?_) (fun e=>?_)
 rotate_left
 ·refine S.exit (he _ _ _ _ (fun e=>by cases e) ?_)
  clear hn he t130 e
  simp (disch:=first|omega|decide) only [rUz]
  obtain ⟨dk,l8,n16,f16,cx,b8,b16,xa,xb⟩:=hos
  obtain ⟨kp0,o6',l67',l78',n8',b6,f6,b7,f7,f8⟩:=dk
  have hvu:veq (.agg ⟨[ua,ub]⟩) (.agg ⟨[ua,ub]⟩) = true:=by simp only [veq,veqA,veqL,xa.veq,xb.veq,Bool.and_self]
  repeat refine S.seq ?_
  refine S.drawnL [(false,0),(false,0),(true,1),(true,7)] (by kernel_rfl) (by kernel_rfl) (by kernel_rfl) ?_
  simp (disch:=first|omega|decide) only [rUz,rDz,infoL,Nat.reduceSub,t8,t16,b8,b16,part_0 pA (coV_len ln ⟨vh,vt,v3,v1,v2⟩),prUt]
  have b16x:(h.upd B6 (coV ln ⟨vh,vt,v3,v1,v2⟩) B6).bl.get B16 = some (.cells [ua,ub] B16 false):=by rw [upd_ne _ _ _ (by omega)]; exact b16
  have b7x:(h.upd B6 (coV ln ⟨vh,vt,v3,v1,v2⟩) B6).bl.get B7 = some (.cells [nl,nl] B7 false):=by rw [upd_ne _ _ _ (by omega)]; exact b7
  have f7x:(h.upd B6 (coV ln ⟨vh,vt,v3,v1,v2⟩) B6).fams.get B7 = some [B7]:=by rw [upd_fams]; exact f7
  refine drW_giveN (aw_storeN (B:=B6) (ls:=coV ln ⟨vh,vt,v3,v1,v2⟩) (by simp (disch:=first|omega|decide) only [rUz,rDz,infoL,Nat.reduceSub,t6]) (by simp (disch:=first|omega|decide) only [rUz,rDz,infoL,Nat.reduceSub]) sA (by omega) rfl b6 f6 rfl) ?_ ?_
  ·try simp (disch:=first|decide|rfl) only [again_nil,again_skip,again_free]
   rw [again_same (v:=.agg ⟨[ua,ub]⟩) (by simp (disch:=first|omega|decide) only [rUz,rDz,infoL,Nat.reduceSub,t16,b16x,prUt]) hvu]
   try simp (disch:=first|decide|rfl) only [again_nil,again_skip,again_free]
  simp (disch:=first|omega|decide) only [rUz,rDz,infoL,Nat.reduceSub]
  refine drW_giveN (aw_storeN (B:=B7) (ls:=[ua,ub]) (by simp (disch:=first|omega|decide) only [rUz,rDz,infoL,Nat.reduceSub,t7]) (by simp (disch:=first|omega|decide) only [rUz,rDz,infoL,Nat.reduceSub]) srU (by omega) rfl b7x f7x rfl) ?_ ?_
  ·try simp (disch:=first|decide|rfl) only [again_nil,again_skip,again_free]
  simp (disch:=first|omega|decide) only [rUz,rDz,infoL,Nat.reduceSub]
  refine S.ret ?_
  try simp only [seqK_ret,blockK_ret]
  subst hF
  simp only [finish,endMarks]
  rw [show Tryz.f9.results.toList = [.cell 6 34,.cell 7 36] from rfl]
  simp (disch:=first|omega|decide) only [resA,ev_tmp,tget_ne,tget_eq,get_ne,get_eq,upd_eq,upd_ne,ag_eq,ag_ne,result1,t6,t7,part_0 pA (coV_len ln ⟨vh,vt,v3,v1,v2⟩),prUt]
  have hcx:=(cx.upd (B:=B6) (f:=B6) (d:=coV ln ⟨vh,vt,v3,v1,v2⟩) (.inl (by omega))).upd (B:=B7) (f:=B7) (d:=[ua,ub]) (.inl (Nat.le_refl _))
  have hxa:=(xa.upd (B:=B6) (f':=B6) (c:=coV ln ⟨vh,vt,v3,v1,v2⟩) (.inl (by omega))).upd (B:=B7) (f':=B7) (c:=[ua,ub]) (.inl (Nat.le_refl _))
  have hxb:=(xb.upd (B:=B6) (f':=B6) (c:=coV ln ⟨vh,vt,v3,v1,v2⟩) (.inl (by omega))).upd (B:=B7) (f':=B7) (c:=[ua,ub]) (.inl (Nat.le_refl _))
  refine hK _ _ ((kp0.upd (by omega)).upd (by omega)) ⟨⟨vh,vt,v3,v1,v2⟩,⟨ln,held,tr,dv,sp,cl⟩,ua,ub,a,b,rfl,hcx.at,hcx.xa.at,hxa.at,hxb.at,hfz,htru,rfl,fun e=>?_⟩
  rw [show (⟨ln,held,tr,dv,sp,cl⟩:Co).dv = dv from rfl] at e
  rw [e] at hdv1
  simp at hdv1
 obtain ⟨hkm,hl1⟩:(k:Int) < m.tmod 5 ∧ 1 < (held.length:Int):=by simpa only [Bool.and_eq_true,decide_eq_true_eq] using e
 have hdl:a.length = tr.length ∧ b.length = tr.length:=by
  have hx:=htru
  unfold truthB datedB at hx
  simp only [Bool.and_eq_true] at hx
  exact lens_iff.1 hx.1.1
 have hk3:k ≤ 3:=by have:=Int.tmod_lt_of_pos m (by omega:(0:Int) < 5); omega
 have hkp:=hos.dk.kp
 have n16:=hos.n16
 clear e hkm t130
 repeat refine S.seq ?_
 refine S.skip ?_
 simp (disch:=first|omega|decide) only [rUz]
 repeat refine S.seq ?_
 refine S.block ?_
 repeat refine S.seq ?_
 refine S.region ?_
 simp (disch:=first|omega|decide) only [rUz,t1,t17]
 refine wr_brings (fid:=30) (first:=#[]) (captured:=#[]) (Post:=fun u h'=>(∃ n,u = iv n ∧ 0 ≤ n ∧ n ≤ 65535) ∧ h = h') rfl (hoff _ _ _ rfl) (by simp (disch:=first|omega|decide) only [rUz]; exact word_y S h wv ws (hw.mono hkp) hwl (2 * (k:Int) + 8) (by omega)) ?_
 rintro u g - ⟨⟨w,rfl,w0,w1⟩,rfl⟩
 simp (disch:=first|omega|decide) only [rUz,t1,t17]
 refine wr_brings (fid:=30) (first:=#[]) (captured:=#[]) (Post:=fun u h'=>(∃ n,u = iv n ∧ 0 ≤ n ∧ n ≤ 65535) ∧ h = h') rfl (hoff _ _ _ rfl) (by simp (disch:=first|omega|decide) only [rUz]; exact word_y S h wv ws (hw.mono hkp) hwl (2 * (k:Int) + 9) (by omega)) ?_
 rintro u g - ⟨⟨x,rfl,x0,x1⟩,rfl⟩
 simp (disch:=first|omega|decide) only [rUz]
 repeat refine S.seq ?_
 refine S.region ?_
 simp (disch:=first|omega|decide) only [rUz,t0,lh]
 refine optR_of' (bin_rem (i:=w) (j:=(held.length:Int)) (by simp (disch:=first|omega|decide) only [rUz]) (by simp (disch:=first|omega|decide) only [rUz]) (by omega)) ?_
 obtain ⟨se,hse⟩:∃ z,z = Int.tmod w ((held.length:Int)):=⟨_,rfl⟩
 have bse:0 ≤ se ∧ se < (held.length:Int):=by rw [hse]; exact ⟨Int.tmod_nonneg _ (by omega),Int.tmod_lt_of_pos _ (by omega)⟩
 rw [← hse]
 simp (disch:=first|omega|decide) only [rUz]
 have bq4:0 ≤ Int.tdiv w 4 ∧ Int.tdiv w 4 ≤ 65535:=by rw [Int.tdiv_eq_ediv_of_nonneg (by omega)]; omega
 refine optR_of' (bin_quo (i:=w) (j:=4) (by simp (disch:=first|omega|decide) only [rUz]) (by simp (disch:=first|omega|decide) only [rUz]) (by omega) (by omega) (by omega)) ?_
 obtain ⟨q4,hq4⟩:∃ z,z = Int.tdiv w 4:=⟨_,rfl⟩
 rw [← hq4] at bq4 ⊢
 clear hq4
 simp (disch:=first|omega|decide) only [rUz]
 refine optR_of' (bin_rem (i:=q4) (j:=20) (by simp (disch:=first|omega|decide) only [rUz]) (by simp (disch:=first|omega|decide) only [rUz]) (by omega)) ?_
 obtain ⟨a20,ha20⟩:∃ z,z = Int.tmod q4 20:=⟨_,rfl⟩
 have ba20:0 ≤ a20 ∧ a20 < 20:=by rw [ha20]; exact ⟨Int.tmod_nonneg _ (by omega),Int.tmod_lt_of_pos _ (by omega)⟩
 rw [← ha20]
 simp (disch:=first|omega|decide) only [rUz,rd_build,List.map_cons,List.map_nil,brT,wr_alloc zrT]
 refine wr_storeN (B:=h.nx) (c:=[iv 0,iv 0,iv 0,iv 0,iv 0,iv 0,iv 0]) (fam:=h.nx) (k:=h.nx) (l:=[iv se,iv 0,iv (1 + a20),iv 0,iv 0,iv 0,iv 0]) (by simp (disch:=first|omega|decide) only [rUz]) (by simp (disch:=first|omega|decide) only [rUz]) srT (by omega) rfl (ag_eq rfl) (af_eq rfl) rfl ?_
 have kX:Kp h ((h.add [iv 0,iv 0,iv 0,iv 0,iv 0,iv 0,iv 0]).upd h.nx [iv se,iv 0,iv (1 + a20),iv 0,iv 0,iv 0,iv 0] h.nx):=Kp.refl.add.upd (Nat.le_refl _)
 obtain ⟨B20,hB20⟩:∃ z,z = h.nx:=⟨_,rfl⟩
 have hb20:((h.add [iv 0,iv 0,iv 0,iv 0,iv 0,iv 0,iv 0]).upd h.nx [iv se,iv 0,iv (1 + a20),iv 0,iv 0,iv 0,iv 0] h.nx).bl.get B20 = some (.cells [iv se,iv 0,iv (1 + a20),iv 0,iv 0,iv 0,iv 0] B20 false):=by subst hB20; exact upd_eq _ _ _
 have hf20:((h.add [iv 0,iv 0,iv 0,iv 0,iv 0,iv 0,iv 0]).upd h.nx [iv se,iv 0,iv (1 + a20),iv 0,iv 0,iv 0,iv 0] h.nx).fams.get B20 = some [B20]:=by subst hB20; rw [upd_fams]; exact af_eq rfl
 have hn20:B20 < ((h.add [iv 0,iv 0,iv 0,iv 0,iv 0,iv 0,iv 0]).upd h.nx [iv se,iv 0,iv (1 + a20),iv 0,iv 0,iv 0,iv 0] h.nx).nx:=by show B20 < h.nx + 1; omega
 simp (disch:=first|omega|decide) only [rUz]
 rw [← hB20]
 rw [← hB20] at kX hb20 hf20 hn20
 generalize (h.add [iv 0,iv 0,iv 0,iv 0,iv 0,iv 0,iv 0]).upd B20 [iv se,iv 0,iv (1 + a20),iv 0,iv 0,iv 0,iv 0] B20 = X1 at kX hb20 hf20 hn20 ⊢
 have h20:h.nx ≤ B20:=by omega
 repeat refine S.seq ?_
 refine S.drawnL [(false,0),(false,1),(false,3),(false,0),(false,8),(false,0),(false,32),(false,96),(false,248),(false,511),(false,0),(false,1024),(false,4095),(false,8191),(true,16383)] (by kernel_rfl) (by kernel_rfl) (by kernel_rfl) ?_
 simp (disch:=first|omega|decide) only [rUz,rDz,infoL,Nat.reduceSub,hb20,fieldAddr_ptr frT0 s3,p3]
 have bq128:0 ≤ Int.tdiv w 128 ∧ Int.tdiv w 128 ≤ 65535:=by rw [Int.tdiv_eq_ediv_of_nonneg (by omega)]; omega
 rw [bin_quo (i:=w) (j:=128) (by simp (disch:=first|omega|decide) only [rUz]) (by simp (disch:=first|omega|decide) only [rUz]) (by omega) (by omega) (by omega)]
 obtain ⟨q128,hq128⟩:∃ z,z = Int.tdiv w 128:=⟨_,rfl⟩
 rw [← hq128] at bq128 ⊢
 simp (disch:=first|omega|decide) only [rUz,rDz,infoL,Nat.reduceSub,t0,lh]
 rw [bin_rem (i:=q128) (j:=(held.length:Int) - 1) (by simp (disch:=first|omega|decide) only [rUz]) (by simp (disch:=first|omega|decide) only [rUz]) (by omega)]
 obtain ⟨rr,hrr⟩:∃ z,z = Int.tmod q128 ((held.length:Int) - 1):=⟨_,rfl⟩
 have brr:0 ≤ rr ∧ rr < (held.length:Int) - 1:=by rw [hrr]; exact ⟨Int.tmod_nonneg _ (by omega),Int.tmod_lt_of_pos _ (by omega)⟩
 rw [← hrr]
 simp (disch:=first|omega|decide) only [rUz,rDz,infoL,Nat.reduceSub,t0,lh]
 rw [bin_rem (i:=se + 1 + rr) (j:=(held.length:Int)) (by simp (disch:=first|omega|decide) only [rUz]) (by simp (disch:=first|omega|decide) only [rUz]) (by omega)]
 have hbu:=buyer_ok (se:=se) (r:=rr) (L:=(held.length:Int)) (by omega) bse.1 bse.2 brr.1 brr.2
 obtain ⟨bu,hbue⟩:∃ z,z = Int.tmod (se + 1 + rr) (held.length:Int):=⟨_,rfl⟩
 rw [← hbue] at hbu ⊢
 clear hbue hrr brr hq128 bq128
 simp (disch:=first|omega|decide) only [rUz,rDz,infoL,Nat.reduceSub,fieldAddr_ptr frT1 s3]
 refine drW_store (B:=B20) (off:=1) (c:=[iv se,iv 0,iv (1 + a20),iv 0,iv 0,iv 0,iv 0]) (fam:=B20) (k0:=B20) (kd:=.i64) (z:=bu) (by simp (disch:=first|omega|decide) only [rUz,rDz,infoL,Nat.reduceSub]) (by simp (disch:=first|omega|decide) only [rUz,rDz,infoL,Nat.reduceSub]) s3' hb20 hf20 (by show 1 < 7; omega) ?_ ?_
 ·try simp (disch:=first|decide|rfl) only [again_nil,again_skip,again_free]
 simp (disch:=first|omega|decide) only [rUz,rDz,infoL,Nat.reduceSub]
 have hb20b:(X1.upd B20 ([iv se,iv 0,iv (1 + a20),iv 0,iv 0,iv 0,iv 0].set 1 (iv bu)) B20).bl.get B20 = some (.cells [iv se,iv bu,iv (1 + a20),iv 0,iv 0,iv 0,iv 0] B20 false):=upd_eq _ _ _
 have hf20b:(X1.upd B20 ([iv se,iv 0,iv (1 + a20),iv 0,iv 0,iv 0,iv 0].set 1 (iv bu)) B20).fams.get B20 = some [B20]:=by rw [upd_fams]; exact hf20
 have kX2:Kp h (X1.upd B20 ([iv se,iv 0,iv (1 + a20),iv 0,iv 0,iv 0,iv 0].set 1 (iv bu)) B20):=kX.upd h20
 have hn20b:B20 < (X1.upd B20 ([iv se,iv 0,iv (1 + a20),iv 0,iv 0,iv 0,iv 0].set 1 (iv bu)) B20).nx:=hn20
 generalize X1.upd B20 ([iv se,iv 0,iv (1 + a20),iv 0,iv 0,iv 0,iv 0].set 1 (iv bu)) B20 = X2 at hb20b hf20b kX2 hn20b ⊢
 clear hb20 hf20 kX hn20
 clear X1
 repeat refine S.seq ?_
 refine S.region ?_
 simp (disch:=first|omega|decide) only [rUz]
 refine optR_of' (bin_rem (i:=x) (j:=12) (by simp (disch:=first|omega|decide) only [rUz]) (by simp (disch:=first|omega|decide) only [rUz]) (by omega)) ?_
 obtain ⟨s,hs⟩:∃ z,z = Int.tmod x 12:=⟨_,rfl⟩
 have bs:0 ≤ s ∧ s < 12:=by rw [hs]; exact ⟨Int.tmod_nonneg _ (by omega),Int.tmod_lt_of_pos _ (by omega)⟩
 rw [← hs]
 simp (disch:=first|omega|decide) only [rUz]
 repeat refine S.seq ?_
 refine S.region ?_
 simp (disch:=first|omega|decide) only [rUz]
 have bq16:0 ≤ Int.tdiv x 16 ∧ Int.tdiv x 16 ≤ 65535:=by rw [Int.tdiv_eq_ediv_of_nonneg (by omega)]; omega
 refine optR_of' (bin_quo (i:=x) (j:=16) (by simp (disch:=first|omega|decide) only [rUz]) (by simp (disch:=first|omega|decide) only [rUz]) (by omega) (by omega) (by omega)) ?_
 obtain ⟨q16,hq16⟩:∃ z,z = Int.tdiv x 16:=⟨_,rfl⟩
 rw [← hq16] at bq16 ⊢
 clear hq16
 simp (disch:=first|omega|decide) only [rUz]
 refine optR_of' (bin_rem (i:=q16) (j:=4) (by simp (disch:=first|omega|decide) only [rUz]) (by simp (disch:=first|omega|decide) only [rUz]) (by omega)) ?_
 obtain ⟨c4,hc4⟩:∃ z,z = Int.tmod q16 4:=⟨_,rfl⟩
 have bc4:0 ≤ c4 ∧ c4 < 4:=by rw [hc4]; exact ⟨Int.tmod_nonneg _ (by omega),Int.tmod_lt_of_pos _ (by omega)⟩
 rw [← hc4]
 simp (disch:=first|omega|decide) only [rUz,w_min,rd_min]
 refine optR_of' (v:=iv (min2 11 (s + c4))) (call2_congr_c (t':=T.set 173 .leaf 172 (iv (s + c4))) (u:=iv 11) (v:=iv (s + c4)) (by simp (disch:=first|omega|decide) only [rUz]) (by kernel_rfl) (by kernel_rfl)) ?_
 obtain ⟨d,hd⟩:∃ z,z = min2 11 (s + c4):=⟨_,rfl⟩
 have bd:=min2_le 11 (s + c4)
 rw [← hd] at bd ⊢
 clear hd
 simp (disch:=first|omega|decide) only [rUz]
 repeat refine S.seq ?_
 refine S.region ?_
 simp (disch:=first|omega|decide) only [rUz]
 have bq64:0 ≤ Int.tdiv x 64 ∧ Int.tdiv x 64 ≤ 65535:=by rw [Int.tdiv_eq_ediv_of_nonneg (by omega)]; omega
 refine optR_of' (bin_quo (i:=x) (j:=64) (by simp (disch:=first|omega|decide) only [rUz]) (by simp (disch:=first|omega|decide) only [rUz]) (by omega) (by omega) (by omega)) ?_
 obtain ⟨q64,hq64⟩:∃ z,z = Int.tdiv x 64:=⟨_,rfl⟩
 rw [← hq64] at bq64 ⊢
 clear hq64
 simp (disch:=first|omega|decide) only [rUz]
 refine optR_of' (bin_rem (i:=q64) (j:=2) (by simp (disch:=first|omega|decide) only [rUz]) (by simp (disch:=first|omega|decide) only [rUz]) (by omega)) ?_
 obtain ⟨u1,hu1⟩:∃ z,z = Int.tmod q64 2:=⟨_,rfl⟩
 have bu1:0 ≤ u1 ∧ u1 < 2:=by rw [hu1]; exact ⟨Int.tmod_nonneg _ (by omega),Int.tmod_lt_of_pos _ (by omega)⟩
 rw [← hu1]
 simp (disch:=first|omega|decide) only [rUz,w_max,rd_max]
 refine optR_of' (v:=iv (max2 0 (s - u1))) (call2_congr_c (t':=T.set 179 .leaf 178 (iv (s - u1))) (u:=iv 0) (v:=iv (s - u1)) (by simp (disch:=first|omega|decide) only [rUz]) (by kernel_rfl) (by kernel_rfl)) ?_
 obtain ⟨slo,hslo⟩:∃ z,z = max2 0 (s - u1):=⟨_,rfl⟩
 have bslo:=max2_ge 0 (s - u1)
 rw [← hslo] at bslo ⊢
 clear hslo
 simp (disch:=first|omega|decide) only [rUz]
 have bp128:0 ≤ Int.tdiv x 128 ∧ Int.tdiv x 128 ≤ 65535:=by rw [Int.tdiv_eq_ediv_of_nonneg (by omega)]; omega
 refine optR_of' (bin_quo (i:=x) (j:=128) (by simp (disch:=first|omega|decide) only [rUz]) (by simp (disch:=first|omega|decide) only [rUz]) (by omega) (by omega) (by omega)) ?_
 obtain ⟨p128,hp128⟩:∃ z,z = Int.tdiv x 128:=⟨_,rfl⟩
 rw [← hp128] at bp128 ⊢
 clear hp128
 simp (disch:=first|omega|decide) only [rUz]
 refine optR_of' (bin_rem (i:=p128) (j:=2) (by simp (disch:=first|omega|decide) only [rUz]) (by simp (disch:=first|omega|decide) only [rUz]) (by omega)) ?_
 obtain ⟨u2,hu2⟩:∃ z,z = Int.tmod p128 2:=⟨_,rfl⟩
 have bu2:0 ≤ u2 ∧ u2 < 2:=by rw [hu2]; exact ⟨Int.tmod_nonneg _ (by omega),Int.tmod_lt_of_pos _ (by omega)⟩
 rw [← hu2]
 simp (disch:=first|omega|decide) only [rUz,w_min,rd_min]
 refine optR_of' (v:=iv (min2 11 (s + u2))) (call2_congr_c (t':=T.set 185 .leaf 184 (iv (s + u2))) (u:=iv 11) (v:=iv (s + u2)) (by simp (disch:=first|omega|decide) only [rUz]) (by kernel_rfl) (by kernel_rfl)) ?_
 obtain ⟨shi,hshi⟩:∃ z,z = min2 11 (s + u2):=⟨_,rfl⟩
 have bshi:=min2_le 11 (s + u2)
 rw [← hshi] at bshi ⊢
 clear hshi
 simp (disch:=first|omega|decide) only [rUz,rd_build,List.map_cons,List.map_nil,brR,fieldAddr_ptr frT3 SrR]
 refine wr_storeR (B:=B20) (off:=3) (s:=2) (c:=[iv se,iv bu,iv (1 + a20),iv 0,iv 0,iv 0,iv 0]) (fam:=B20) (k0:=B20) (ls:=c2 (slo,shi)) (by simp (disch:=first|omega|decide) only [rUz]) (by simp (disch:=first|omega|decide) only [rUz]) srR (by omega) rfl hb20b hf20b (by show 3 + 2 ≤ 7; omega) (c':=[iv se,iv bu,iv (1 + a20),iv slo,iv shi,iv 0,iv 0]) rfl ?_
 have hb20c:(X2.upd B20 [iv se,iv bu,iv (1 + a20),iv slo,iv shi,iv 0,iv 0] B20).bl.get B20 = some (.cells [iv se,iv bu,iv (1 + a20),iv slo,iv shi,iv 0,iv 0] B20 false):=upd_eq _ _ _
 have hf20c:(X2.upd B20 [iv se,iv bu,iv (1 + a20),iv slo,iv shi,iv 0,iv 0] B20).fams.get B20 = some [B20]:=by rw [upd_fams]; exact hf20b
 have kX3:Kp h (X2.upd B20 [iv se,iv bu,iv (1 + a20),iv slo,iv shi,iv 0,iv 0] B20):=kX2.upd h20
 have hn20c:B20 < (X2.upd B20 [iv se,iv bu,iv (1 + a20),iv slo,iv shi,iv 0,iv 0] B20).nx:=hn20b
 simp (disch:=first|omega|decide) only [rUz]
 generalize X2.upd B20 [iv se,iv bu,iv (1 + a20),iv slo,iv shi,iv 0,iv 0] B20 = X3 at hb20c hf20c kX3 hn20c ⊢
 clear hb20b hf20b kX2 hn20b
 clear X2
 repeat refine S.seq ?_
 refine S.region ?_
 simp (disch:=first|omega|decide) only [rUz]
 have bq256:0 ≤ Int.tdiv x 256 ∧ Int.tdiv x 256 ≤ 65535:=by rw [Int.tdiv_eq_ediv_of_nonneg (by omega)]; omega
 refine optR_of' (bin_quo (i:=x) (j:=256) (by simp (disch:=first|omega|decide) only [rUz]) (by simp (disch:=first|omega|decide) only [rUz]) (by omega) (by omega) (by omega)) ?_
 obtain ⟨q256,hq256⟩:∃ z,z = Int.tdiv x 256:=⟨_,rfl⟩
 rw [← hq256] at bq256 ⊢
 clear hq256
 simp (disch:=first|omega|decide) only [rUz]
 refine optR_of' (bin_rem (i:=q256) (j:=2) (by simp (disch:=first|omega|decide) only [rUz]) (by simp (disch:=first|omega|decide) only [rUz]) (by omega)) ?_
 obtain ⟨u3,hu3⟩:∃ z,z = Int.tmod q256 2:=⟨_,rfl⟩
 have bu3:0 ≤ u3 ∧ u3 < 2:=by rw [hu3]; exact ⟨Int.tmod_nonneg _ (by omega),Int.tmod_lt_of_pos _ (by omega)⟩
 rw [← hu3]
 simp (disch:=first|omega|decide) only [rUz,w_max,rd_max]
 refine optR_of' (v:=iv (max2 0 (d - u3))) (call2_congr_c (t':=T.set 193 .leaf 192 (iv (d - u3))) (u:=iv 0) (v:=iv (d - u3)) (by simp (disch:=first|omega|decide) only [rUz]) (by kernel_rfl) (by kernel_rfl)) ?_
 obtain ⟨dlo,hdlo⟩:∃ z,z = max2 0 (d - u3):=⟨_,rfl⟩
 have bdlo:=max2_ge 0 (d - u3)
 rw [← hdlo] at bdlo ⊢
 clear hdlo
 simp (disch:=first|omega|decide) only [rUz]
 have bq512:0 ≤ Int.tdiv x 512 ∧ Int.tdiv x 512 ≤ 65535:=by rw [Int.tdiv_eq_ediv_of_nonneg (by omega)]; omega
 refine optR_of' (bin_quo (i:=x) (j:=512) (by simp (disch:=first|omega|decide) only [rUz]) (by simp (disch:=first|omega|decide) only [rUz]) (by omega) (by omega) (by omega)) ?_
 obtain ⟨q512,hq512⟩:∃ z,z = Int.tdiv x 512:=⟨_,rfl⟩
 rw [← hq512] at bq512 ⊢
 clear hq512
 simp (disch:=first|omega|decide) only [rUz]
 refine optR_of' (bin_rem (i:=q512) (j:=2) (by simp (disch:=first|omega|decide) only [rUz]) (by simp (disch:=first|omega|decide) only [rUz]) (by omega)) ?_
 obtain ⟨u4,hu4⟩:∃ z,z = Int.tmod q512 2:=⟨_,rfl⟩
 have bu4:0 ≤ u4 ∧ u4 < 2:=by rw [hu4]; exact ⟨Int.tmod_nonneg _ (by omega),Int.tmod_lt_of_pos _ (by omega)⟩
 rw [← hu4]
 simp (disch:=first|omega|decide) only [rUz,w_min,rd_min]
 refine optR_of' (v:=iv (min2 11 (d + u4))) (call2_congr_c (t':=T.set 199 .leaf 198 (iv (d + u4))) (u:=iv 11) (v:=iv (d + u4)) (by simp (disch:=first|omega|decide) only [rUz]) (by kernel_rfl) (by kernel_rfl)) ?_
 obtain ⟨dhi,hdhi⟩:∃ z,z = min2 11 (d + u4):=⟨_,rfl⟩
 have bdhi:=min2_le 11 (d + u4)
 rw [← hdhi] at bdhi ⊢
 clear hdhi
 simp (disch:=first|omega|decide) only [rUz,rd_build,List.map_cons,List.map_nil,brR,fieldAddr_ptr frT4 SrR]
 refine wr_storeR (B:=B20) (off:=5) (s:=2) (c:=[iv se,iv bu,iv (1 + a20),iv slo,iv shi,iv 0,iv 0]) (fam:=B20) (k0:=B20) (ls:=c2 (dlo,dhi)) (by simp (disch:=first|omega|decide) only [rUz]) (by simp (disch:=first|omega|decide) only [rUz]) srR (by omega) rfl hb20c hf20c (by show 5 + 2 ≤ 7; omega) (c':=[iv se,iv bu,iv (1 + a20),iv slo,iv shi,iv dlo,iv dhi]) rfl ?_
 have hb20d:(X3.upd B20 [iv se,iv bu,iv (1 + a20),iv slo,iv shi,iv dlo,iv dhi] B20).bl.get B20 = some (.cells [iv se,iv bu,iv (1 + a20),iv slo,iv shi,iv dlo,iv dhi] B20 false):=upd_eq _ _ _
 have hf20d:(X3.upd B20 [iv se,iv bu,iv (1 + a20),iv slo,iv shi,iv dlo,iv dhi] B20).fams.get B20 = some [B20]:=by rw [upd_fams]; exact hf20c
 have kX4:Kp h (X3.upd B20 [iv se,iv bu,iv (1 + a20),iv slo,iv shi,iv dlo,iv dhi] B20):=kX3.upd h20
 have hn20d:B20 < (X3.upd B20 [iv se,iv bu,iv (1 + a20),iv slo,iv shi,iv dlo,iv dhi] B20).nx:=hn20c
 simp (disch:=first|omega|decide) only [rUz]
 generalize X3.upd B20 [iv se,iv bu,iv (1 + a20),iv slo,iv shi,iv dlo,iv dhi] B20 = X4 at hb20d hf20d kX4 hn20d ⊢
 clear hb20c hf20c kX3 hn20c
 clear X3
 have ds:=sOf bs
 have dd:=dOf bs bc4 bd
 have hokx:okTr ln ⟨se,bu,1 + a20,(slo,shi),(dlo,dhi)⟩ = true:=by rw [hln]; exact okx bse hbu ba20 ds dd bu1 bu2 bu3 bu4 bslo bshi bdlo bdhi
 obtain ⟨tx,htx⟩:∃ z:Tr,z = ⟨se,bu,1 + a20,(slo,shi),(dlo,dhi)⟩:=⟨_,rfl⟩
 have hb20:X4.bl.get B20 = some (.cells (c7 tx) B20 false):=by subst htx; exact hb20d
 rw [← htx] at hokx
 have hn20:=hn20d
 clear hb20d hf20d hn20d htx bse ba20 bslo bshi bdlo bdhi bu1 bu2 bu3 bu4 bq4 bq16 bq64 bp128 bq256 bq512 bc4 bs bd hbu x0 x1 w0 w1 hse ha20 hs hc4 hu1 hu2 hu3 hu4
 have hosX:=hos.kp kX4
 have b8X:=hosX.b8
 repeat refine S.seq ?_
 refine S.region ?_
 simp (disch:=first|omega|decide) only [rUz,t8,b8X,part_0 pA (coV_len ln ⟨vh,vt,v3,v1,v2⟩),wr_alloc zA]
 refine wr_storeN (B:=X4.nx) (c:=[iv 0,nl,nl,nl,nl,nl]) (fam:=X4.nx) (k:=X4.nx) (l:=coV ln ⟨vh,vt,v3,v1,v2⟩) (by simp (disch:=first|omega|decide) only [rUz]) (by simp (disch:=first|omega|decide) only [rUz]) sA (by omega) rfl (ag_eq rfl) (af_eq rfl) rfl ?_
 obtain ⟨B23,hB23⟩:∃ z,z = X4.nx:=⟨_,rfl⟩
 have kY:Kp X4 ((X4.add [iv 0,nl,nl,nl,nl,nl]).upd X4.nx (coV ln ⟨vh,vt,v3,v1,v2⟩) X4.nx):=Kp.refl.add.upd (Nat.le_refl _)
 have hb23:((X4.add [iv 0,nl,nl,nl,nl,nl]).upd X4.nx (coV ln ⟨vh,vt,v3,v1,v2⟩) X4.nx).bl.get B23 = some (.cells (coV ln ⟨vh,vt,v3,v1,v2⟩) B23 false):=by subst hB23; exact upd_eq _ _ _
 have hf23:((X4.add [iv 0,nl,nl,nl,nl,nl]).upd X4.nx (coV ln ⟨vh,vt,v3,v1,v2⟩) X4.nx).fams.get B23 = some [B23]:=by subst hB23; rw [upd_fams]; exact af_eq rfl
 have hn23:B23 < ((X4.add [iv 0,nl,nl,nl,nl,nl]).upd X4.nx (coV ln ⟨vh,vt,v3,v1,v2⟩) X4.nx).nx:=by show B23 < X4.nx + 1; omega
 simp (disch:=first|omega|decide) only [rUz]
 rw [← hB23]
 rw [← hB23] at kY hb23 hf23 hn23
 generalize (X4.add [iv 0,nl,nl,nl,nl,nl]).upd B23 (coV ln ⟨vh,vt,v3,v1,v2⟩) B23 = X5 at kY hb23 hf23 hn23 ⊢
 have kX5:=kX4.trans kY
 have hb205:=(kY.get hn20).trans hb20
 have hn205:B20 < X5.nx:=Nat.lt_of_lt_of_le hn20 kY.1
 have h23:h.nx ≤ B23:=by have:=kX4.1; omega
 have h2023:B20 < B23:=by omega
 have os5:=hos.kp kX5
 have n8:=os5.dk.n8
 have l78:=os5.dk.l78
 have l8:=os5.l8
 have n16:=os5.n16
 clear hosX b8X hb20 kY hB23 kX4 hn20
 clear X4
 repeat refine S.seq ?_
 refine S.drawnM [(true,0),(false,0),(false,2),(true,7),(false,0),(true,16),(true,63),(false,127),(true,255)] 0 [] (by kernel_rfl) (by kernel_rfl) (by kernel_rfl) (by kernel_rfl) (by kernel_rfl) ?_
 generalize hJJ:(fun (t:T Value) (h:AHeap)=>_) = KJ
 suffices hJ:∀ t h' vw,Kp h h' → B23 < h'.nx → h'.bl.get B23 = some (.cells (coV ln ⟨vh,vw,v3,v1,v2⟩) B23 false) → SlX B7 B8 B16 h' 7 vw ((tr ++ [tx]).map c7) → TX hv wv m B6 B7 B8 B16 k t → tget t 21 = iv s → tget t 22 = iv d → tget t 23 = ptr0 B23 → KJ t h' = true by
  clear hJJ hn he hK
  have hv5:SlAt X5 7 vt (tr.map c7):=os5.cx.xb.at
  have hb8:=os5.b8
  have hvE:veq vt vt = true:=veq_row hv5
  have hlen5:(tr.map c7).length + 1 < bigNat:=by rw [List.length_map]; show _ < 1000000; omega
  have hsz5:∀ d,d ∈ tr.map c7 → d.length = 7:=fun d hd=>by
   obtain ⟨y,_,rfl⟩:=List.mem_map.1 hd
   rfl
  have hend:∀ (X X':AHeap) (w':Value),Kp X5 X → RNew X5.nx X' 7 w' (tr.map c7 ++ [c7 tx]) → Sm X5.nx X X' → ∃ q m z,w' = .slice q m z ∧ X'.bl.get B23 = some (.cells (coV ln ⟨vh,vt,v3,v1,v2⟩) B23 false) ∧ X'.fams.get B23 = some [B23] ∧
    (∀ w'',w'' = w' → Kp h (X'.upd B23 ((coV ln ⟨vh,vt,v3,v1,v2⟩).set 2 w'') B23) ∧ B23 < (X'.upd B23 ((coV ln ⟨vh,vt,v3,v1,v2⟩).set 2 w'') B23).nx ∧ (X'.upd B23 ((coV ln ⟨vh,vt,v3,v1,v2⟩).set 2 w'') B23).bl.get B23 = some (.cells (coV ln ⟨vh,w'',v3,v1,v2⟩) B23 false) ∧ SlX B7 B8 B16 (X'.upd B23 ((coV ln ⟨vh,vt,v3,v1,v2⟩).set 2 w'') B23) 7 w'' ((tr ++ [tx]).map c7)):=by
   intro X X' w' kX hR hS
   have kX':Kp X5 X':=hS.kp (Nat.le_refl _) kX
   obtain ⟨b,z,f,hw',_⟩:=hR.2.2
   refine ⟨_,_,_,hw',(kX'.get hn23).trans hb23,(kX'.fget hn23).trans hf23,?_⟩
   rintro w'' rfl
   refine ⟨(kX5.trans kX').upd h23,Nat.lt_of_lt_of_le hn23 kX'.1,upd_eq _ _ _,?_⟩
   rw [List.map_append]; exact (hR.upd hn23).slX (by omega) (by omega) (by omega)
  simp (disch:=first|omega|decide) only [rUz,rMz,infoL,Nat.reduceSub]
  refine dm_pick rfl ?_
  simp (disch:=first|omega|decide) only [rUz,rMz,infoL,Nat.reduceSub,t8,hb8,hb205,fieldAddr_ptr fA2 lrT,qrT,co2,prT7]
  refine dm_pick rfl ?_
  simp (disch:=first|omega|decide) only [rUz,rMz,infoL,Nat.reduceSub,t8,hb8,hb205,fieldAddr_ptr fA2 lrT,qrT,co2,prT7]
  refine dm_pick rfl ?_
  simp (disch:=first|omega|decide) only [rUz,rMz,infoL,Nat.reduceSub,t8,hb8,hb205,fieldAddr_ptr fA2 lrT,qrT,co2,prT7]
  refine dm_two rfl rfl ?_ ?_
  ·skip
   have k0:Kp X5 (X5.add []):=Kp.refl.add
   refine dmW_some (v:=.slice (some ⟨X5.nx,0,none⟩) 0 0) (h':=X5.add []) rfl rfl (aw_lit0 slrT srT zrT rfl) (Nat.le_of_ble_eq_true rfl) ?_ ?_
   ·try simp (disch:=first|decide|rfl) only [again_nil,again_skip,again_free]
    rw [again_same (v:=.agg ⟨c7 tx⟩) (by simp (disch:=first|omega|decide) only [rUz,rDz,infoL,Nat.reduceSub,(k0.get hn205).trans hb205,prT7]) (veq7 tx)]
    try simp (disch:=first|decide|rfl) only [again_nil,again_skip,again_free]
    rw [again_same (v:=vt) (by simp (disch:=first|omega|decide) only [rUz,rDz,infoL,Nat.reduceSub,t8,(k0.get n8).trans hb8,fieldAddr_ptr fA2 lrT,qrT,co2]) hvE]
    try simp (disch:=first|decide|rfl) only [again_nil,again_skip,again_free]
   simp (disch:=first|omega|decide) only [rUz,rMz,infoL,Nat.reduceSub]
   refine dm_two rfl rfl ?_ ?_
   ·skip
    refine dmW_copyE (b:=X5.nx) (v:=vt) (cs:=tr.map c7) rfl rfl slrT urT (by simp (disch:=first|omega|decide) only [rUz,rMz,infoL,Nat.reduceSub]) (by simp (disch:=first|omega|decide) only [rUz,rMz,infoL,Nat.reduceSub]) srT (by exact ag_eq rfl) (by exact af_eq rfl) (by show X5.nx < X5.nx + 1; omega) (SlAt.mono hv5 k0) nrT (by omega) (Nat.le_of_ble_eq_true rfl) ?_
    intro y1 Y1 hcp
    have k1:Kp X5 Y1:=hcp.kp k0 (Nat.le_refl _)
    refine ⟨?_,?_⟩
    ·try simp (disch:=first|decide|rfl) only [again_nil,again_skip,again_free]
     rw [again_same (v:=.agg ⟨c7 tx⟩) (by simp (disch:=first|omega|decide) only [rUz,rDz,infoL,Nat.reduceSub,(k1.get hn205).trans hb205,prT7]) (veq7 tx)]
     try simp (disch:=first|decide|rfl) only [again_nil,again_skip,again_free]
    simp (disch:=first|omega|decide) only [rUz,rMz,infoL,Nat.reduceSub]
    refine dm_one rfl rfl ?_
    have k2:Kp X5 (Y1.add (c7 tx)):=k1.add
    refine dmW_some (v:=.slice (some ⟨Y1.nx,0,none⟩) 1 1) (h':=Y1.add (c7 tx)) rfl rfl (aw_lit1 slrT srT zrT rfl (by omega) (u:=.agg ⟨c7 tx⟩) (l:=c7 tx) (by simp (disch:=first|omega|decide) only [rUz,rMz,infoL,Nat.reduceSub]) rfl (fill7 tx)) (Nat.le_of_ble_eq_true rfl) ?_ ?_
    ·try simp (disch:=first|decide|rfl) only [again_nil,again_skip,again_free]
     rw [again_same (v:=vt) (by simp (disch:=first|omega|decide) only [rUz,rDz,infoL,Nat.reduceSub,t8,(k2.get n8).trans hb8,fieldAddr_ptr fA2 lrT,qrT,co2]) hvE]
     try simp (disch:=first|decide|rfl) only [again_nil,again_skip,again_free]
    simp (disch:=first|omega|decide) only [rUz,rMz,infoL,Nat.reduceSub]
    refine dm_one rfl rfl ?_
    refine dmW_appC (lo:=X5.nx) (F:=X5.nx) (v:=y1) (cs:=tr.map c7) (bx:=Y1.nx) (cx:=1) rfl rfl slrT urT (by simp (disch:=first|omega|decide) only [rUz,rMz,infoL,Nat.reduceSub]) (by simp (disch:=first|omega|decide) only [rUz,rMz,infoL,Nat.reduceSub]) ((hcp.appC (by omega) (Nat.lt_succ_self _) hsz5).mono Kp.refl.add) (k2.1) srT (c7_len tx) (ag_eq rfl) nrT hlen5 (Nat.le_of_ble_eq_true rfl) ?_
    intro y3 Y3 hR hS
    refine ⟨?_,?_⟩
    ·try simp (disch:=first|decide|rfl) only [again_nil,again_skip,again_free]
    obtain ⟨q,m',z,hw',e1,e2,e3⟩:=hend _ _ _ k2 hR hS
    subst hw'
    simp (disch:=first|omega|decide) only [rUz,rMz,infoL,Nat.reduceSub,fieldAddr_ptr fA2 lrT]
    refine dm_one rfl rfl ?_
    refine dmW_none rfl rfl (aw_store1 (B:=B23) (off:=2) (v:=.slice q m' z) (by simp (disch:=first|omega|decide) only [rUz,rMz,infoL,Nat.reduceSub]) (by simp (disch:=first|omega|decide) only [rUz,rMz,infoL,Nat.reduceSub]) lrT2 rfl rfl e1 e2 (by show 2 < 6; omega)) ?_ ?_
    ·try simp (disch:=first|decide|rfl) only [again_nil,again_skip,again_free]
    simp (disch:=first|omega|decide) only [rUz,rMz,infoL,Nat.reduceSub]
    obtain ⟨f1,f2,f3,f4⟩:=e3 _ rfl
    refine hJ _ _ _ f1 f2 f3 f4 ⟨⟨?_,?_,?_,?_,?_,?_⟩,?_,?_⟩ ?_ ?_ ?_
    all_goals (first|rfl|(simp (disch:=first|omega|decide) only [rUz,t0,t1,t2,t6,t7,t8,t16,t17]; done)|(simp (disch:=first|omega|decide) only [rUz,t0,t1,t2,t6,t7,t8,t16,t17]; rfl))
   ·skip
    have k1:Kp X5 ((X5.add []).add (c7 tx)):=k0.add
    refine dmW_some (v:=.slice (some ⟨(X5.add []).nx,0,none⟩) 1 1) (h':=(X5.add []).add (c7 tx)) rfl rfl (aw_lit1 slrT srT zrT rfl (by omega) (u:=.agg ⟨c7 tx⟩) (l:=c7 tx) (by simp (disch:=first|omega|decide) only [rUz,rMz,infoL,Nat.reduceSub]) rfl (fill7 tx)) (Nat.le_of_ble_eq_true rfl) ?_ ?_
    ·try simp (disch:=first|decide|rfl) only [again_nil,again_skip,again_free]
     rw [again_same (v:=vt) (by simp (disch:=first|omega|decide) only [rUz,rDz,infoL,Nat.reduceSub,t8,(k1.get n8).trans hb8,fieldAddr_ptr fA2 lrT,qrT,co2]) hvE]
     try simp (disch:=first|decide|rfl) only [again_nil,again_skip,again_free]
    simp (disch:=first|omega|decide) only [rUz,rMz,infoL,Nat.reduceSub]
    refine dm_one rfl rfl ?_
    refine dmW_copyE (b:=X5.nx) (v:=vt) (cs:=tr.map c7) rfl rfl slrT urT (by simp (disch:=first|omega|decide) only [rUz,rMz,infoL,Nat.reduceSub]) (by simp (disch:=first|omega|decide) only [rUz,rMz,infoL,Nat.reduceSub]) srT (by rw [ag_ne (by simp only [add_nx]; omega)]; exact ag_eq rfl) (by rw [af_ne (by simp only [add_nx]; omega)]; exact af_eq rfl) (by show X5.nx < X5.nx + 1 + 1; omega) (SlAt.mono hv5 k1) nrT (by omega) (Nat.le_of_ble_eq_true rfl) ?_
    intro y2 Y2 hcp
    have k2:Kp X5 Y2:=hcp.kp k1 (Nat.le_refl _)
    refine ⟨?_,?_⟩
    ·try simp (disch:=first|decide|rfl) only [again_nil,again_skip,again_free]
     rw [again_same (v:=.agg ⟨c7 tx⟩) (by simp (disch:=first|omega|decide) only [rUz,rDz,infoL,Nat.reduceSub,(k2.get hn205).trans hb205,prT7]) (veq7 tx)]
     try simp (disch:=first|decide|rfl) only [again_nil,again_skip,again_free]
    simp (disch:=first|omega|decide) only [rUz,rMz,infoL,Nat.reduceSub]
    refine dm_one rfl rfl ?_
    refine dmW_appC (lo:=X5.nx) (F:=X5.nx) (v:=y2) (cs:=tr.map c7) (bx:=(X5.add []).nx) (cx:=1) rfl rfl slrT urT (by simp (disch:=first|omega|decide) only [rUz,rMz,infoL,Nat.reduceSub]) (by simp (disch:=first|omega|decide) only [rUz,rMz,infoL,Nat.reduceSub]) (hcp.appC (by omega) (by simp only [add_nx]; omega) hsz5) (k2.1) srT (c7_len tx) ((hcp.bl _ (by simp only [add_nx]; omega) (by simp only [add_nx]; omega)).trans (ag_eq rfl)) nrT hlen5 (Nat.le_of_ble_eq_true rfl) ?_
    intro y3 Y3 hR hS
    refine ⟨?_,?_⟩
    ·try simp (disch:=first|decide|rfl) only [again_nil,again_skip,again_free]
    obtain ⟨q,m',z,hw',e1,e2,e3⟩:=hend _ _ _ k2 hR hS
    subst hw'
    simp (disch:=first|omega|decide) only [rUz,rMz,infoL,Nat.reduceSub,fieldAddr_ptr fA2 lrT]
    refine dm_one rfl rfl ?_
    refine dmW_none rfl rfl (aw_store1 (B:=B23) (off:=2) (v:=.slice q m' z) (by simp (disch:=first|omega|decide) only [rUz,rMz,infoL,Nat.reduceSub]) (by simp (disch:=first|omega|decide) only [rUz,rMz,infoL,Nat.reduceSub]) lrT2 rfl rfl e1 e2 (by show 2 < 6; omega)) ?_ ?_
    ·try simp (disch:=first|decide|rfl) only [again_nil,again_skip,again_free]
    simp (disch:=first|omega|decide) only [rUz,rMz,infoL,Nat.reduceSub]
    obtain ⟨f1,f2,f3,f4⟩:=e3 _ rfl
    refine hJ _ _ _ f1 f2 f3 f4 ⟨⟨?_,?_,?_,?_,?_,?_⟩,?_,?_⟩ ?_ ?_ ?_
    all_goals (first|rfl|(simp (disch:=first|omega|decide) only [rUz,t0,t1,t2,t6,t7,t8,t16,t17]; done)|(simp (disch:=first|omega|decide) only [rUz,t0,t1,t2,t6,t7,t8,t16,t17]; rfl))
  ·skip
   have k0:Kp X5 (X5.add (c7 tx)):=Kp.refl.add
   refine dmW_some (v:=.slice (some ⟨X5.nx,0,none⟩) 1 1) (h':=X5.add (c7 tx)) rfl rfl (aw_lit1 slrT srT zrT rfl (by omega) (u:=.agg ⟨c7 tx⟩) (l:=c7 tx) (by simp (disch:=first|omega|decide) only [rUz,rMz,infoL,Nat.reduceSub]) rfl (fill7 tx)) (Nat.le_of_ble_eq_true rfl) ?_ ?_
   ·try simp (disch:=first|decide|rfl) only [again_nil,again_skip,again_free]
    rw [again_same (v:=vt) (by simp (disch:=first|omega|decide) only [rUz,rDz,infoL,Nat.reduceSub,t8,(k0.get n8).trans hb8,fieldAddr_ptr fA2 lrT,qrT,co2]) hvE]
    try simp (disch:=first|decide|rfl) only [again_nil,again_skip,again_free]
   simp (disch:=first|omega|decide) only [rUz,rMz,infoL,Nat.reduceSub]
   refine dm_one rfl rfl ?_
   have k1:Kp X5 ((X5.add (c7 tx)).add []):=k0.add
   refine dmW_some (v:=.slice (some ⟨(X5.add (c7 tx)).nx,0,none⟩) 0 0) (h':=(X5.add (c7 tx)).add []) rfl rfl (aw_lit0 slrT srT zrT rfl) (Nat.le_of_ble_eq_true rfl) ?_ ?_
   ·try simp (disch:=first|decide|rfl) only [again_nil,again_skip,again_free]
    rw [again_same (v:=.agg ⟨c7 tx⟩) (by simp (disch:=first|omega|decide) only [rUz,rDz,infoL,Nat.reduceSub,(k1.get hn205).trans hb205,prT7]) (veq7 tx)]
    try simp (disch:=first|decide|rfl) only [again_nil,again_skip,again_free]
    rw [again_same (v:=vt) (by simp (disch:=first|omega|decide) only [rUz,rDz,infoL,Nat.reduceSub,t8,(k1.get n8).trans hb8,fieldAddr_ptr fA2 lrT,qrT,co2]) hvE]
    try simp (disch:=first|decide|rfl) only [again_nil,again_skip,again_free]
   simp (disch:=first|omega|decide) only [rUz,rMz,infoL,Nat.reduceSub]
   refine dm_one rfl rfl ?_
   refine dmW_copyE (b:=(X5.add (c7 tx)).nx) (v:=vt) (cs:=tr.map c7) rfl rfl slrT urT (by simp (disch:=first|omega|decide) only [rUz,rMz,infoL,Nat.reduceSub]) (by simp (disch:=first|omega|decide) only [rUz,rMz,infoL,Nat.reduceSub]) srT (by exact ag_eq rfl) (by exact af_eq rfl) (by show X5.nx + 1 < X5.nx + 1 + 1; omega) (SlAt.mono hv5 k1) nrT (by omega) (Nat.le_of_ble_eq_true rfl) ?_
   intro y2 Y2 hcp
   have k2:Kp X5 Y2:=hcp.kp k1 (by simp only [add_nx]; omega)
   refine ⟨?_,?_⟩
   ·try simp (disch:=first|decide|rfl) only [again_nil,again_skip,again_free]
    rw [again_same (v:=.agg ⟨c7 tx⟩) (by simp (disch:=first|omega|decide) only [rUz,rDz,infoL,Nat.reduceSub,(k2.get hn205).trans hb205,prT7]) (veq7 tx)]
    try simp (disch:=first|decide|rfl) only [again_nil,again_skip,again_free]
   simp (disch:=first|omega|decide) only [rUz,rMz,infoL,Nat.reduceSub]
   refine dm_one rfl rfl ?_
   refine dmW_appC (lo:=X5.nx) (F:=(X5.add (c7 tx)).nx) (v:=y2) (cs:=tr.map c7) (bx:=X5.nx) (cx:=1) rfl rfl slrT urT (by simp (disch:=first|omega|decide) only [rUz,rMz,infoL,Nat.reduceSub]) (by simp (disch:=first|omega|decide) only [rUz,rMz,infoL,Nat.reduceSub]) (hcp.appC (by simp only [add_nx]; omega) (by simp only [add_nx]; omega) hsz5) (k2.1) srT (c7_len tx) ((hcp.bl _ (by simp only [add_nx]; omega) (by simp only [add_nx]; omega)).trans (by rw [ag_ne (by simp only [add_nx]; omega)]; exact ag_eq rfl)) nrT hlen5 (Nat.le_of_ble_eq_true rfl) ?_
   intro y3 Y3 hR hS
   refine ⟨?_,?_⟩
   ·try simp (disch:=first|decide|rfl) only [again_nil,again_skip,again_free]
   obtain ⟨q,m',z,hw',e1,e2,e3⟩:=hend _ _ _ k2 hR hS
   subst hw'
   simp (disch:=first|omega|decide) only [rUz,rMz,infoL,Nat.reduceSub,fieldAddr_ptr fA2 lrT]
   refine dm_one rfl rfl ?_
   refine dmW_none rfl rfl (aw_store1 (B:=B23) (off:=2) (v:=.slice q m' z) (by simp (disch:=first|omega|decide) only [rUz,rMz,infoL,Nat.reduceSub]) (by simp (disch:=first|omega|decide) only [rUz,rMz,infoL,Nat.reduceSub]) lrT2 rfl rfl e1 e2 (by show 2 < 6; omega)) ?_ ?_
   ·try simp (disch:=first|decide|rfl) only [again_nil,again_skip,again_free]
   simp (disch:=first|omega|decide) only [rUz,rMz,infoL,Nat.reduceSub]
   obtain ⟨f1,f2,f3,f4⟩:=e3 _ rfl
   refine hJ _ _ _ f1 f2 f3 f4 ⟨⟨?_,?_,?_,?_,?_,?_⟩,?_,?_⟩ ?_ ?_ ?_
   all_goals (first|rfl|(simp (disch:=first|omega|decide) only [rUz,t0,t1,t2,t6,t7,t8,t16,t17]; done)|(simp (disch:=first|omega|decide) only [rUz,t0,t1,t2,t6,t7,t8,t16,t17]; rfl))
 clear hb23 hf23 hn23 kX5 hb205 hn205 os5 n8 l78 l8 n16 t0 t1 t2 t6 t7 t8 t16 t17
 clear X5
 try clear t
 intro t h3 vw k3 hn23 hb23 hxw ⟨⟨t0,t1,t2,t6,t7,t8⟩,t16,t17⟩ t21 t22 t23
 subst hJJ
 simp only [seqK_normal]

 repeat refine S.seq ?_
 refine S.drawnM [(false,0),(false,1),(true,3),(false,0),(true,8),(true,31),(false,0),(false,64),(true,255),(false,0),(true,512),(true,2047),(false,4095),(true,0),(true,16383)] 8192 [13] (by kernel_rfl) (by kernel_rfl) (by kernel_rfl) (by kernel_rfl) (by kernel_rfl) ?_
 generalize hJJ:(fun (t:T Value) (h:AHeap)=>_) = KJ
 suffices hJ:∀ t h' ua' ub' B24,Kp h3 h' → B16 < B24 ∧ B24 < h'.nx → h'.bl.get B24 = some (.cells [ua',ub'] B24 false) → SlX B7 B8 B16 h' 1 ua' ((a ++ [s]).map fun n=>[iv n]) → SlX B7 B8 B16 h' 1 ub' ((b ++ [d]).map fun n=>[iv n]) → TX hv wv m B6 B7 B8 B16 k t → tget t 23 = ptr0 B23 → tget t 24 = ptr0 B24 → KJ t h' = true by
  clear hJJ hn he hK
  have osR:=(hos.kp k3).kp (Kp.refl.res:Kp h3 h3.res)
  have kR:Kp h3 h3.res:=Kp.refl.res
  obtain ⟨B24,hB24⟩:∃ z,z = h3.nx:=⟨_,rfl⟩
  have f24:h3.res.fams.get B24 = some []:=by subst hB24; exact res_fe rfl
  have n24:h3.res.nx = B24 + 1:=by subst hB24; rfl
  have hb16:=((hos.kp k3).b16)
  have n16:=osR.n16
  have l8:=osR.l8
  have l78:=osR.dk.l78
  have hlA:a.length ≤ 1000:=by have:=hdl.1; omega
  have hlB:b.length ≤ 1000:=by have:=hdl.2; omega
  have hlA2:(a.map fun n=>[iv n]).length + 1 < bigNat:=by rw [List.length_map]; show _ < 1000000; omega
  have hlB2:(b.map fun n=>[iv n]).length + 1 < bigNat:=by rw [List.length_map]; show _ < 1000000; omega
  have ueA:=osR.xa.veq
  have ueB:=osR.xb.veq
  simp (disch:=first|omega|decide) only [rUz,rMz,infoL,Nat.reduceSub,t16,res_bl,hb16,fieldAddr_ptr frU0 lI,qI]
  refine dm_pick rfl ?_
  simp (disch:=first|omega|decide) only [rUz,rMz,infoL,Nat.reduceSub,t16,t21,t22,res_bl,hb16,fieldAddr_ptr frU1 lI,qI]
  refine dm_pick rfl ?_
  simp (disch:=first|omega|decide) only [rUz,rMz,infoL,Nat.reduceSub,t16,t21,t22,res_bl,hb16,fieldAddr_ptr frU1 lI,qI]
  refine dm_pick rfl ?_
  simp (disch:=first|omega|decide) only [rUz,rMz,infoL,Nat.reduceSub,t16,t21,t22,res_bl,hb16,fieldAddr_ptr frU1 lI,qI]
  refine dm_pick rfl ?_
  simp (disch:=first|omega|decide) only [rUz,rMz,infoL,Nat.reduceSub,t16,t21,t22,res_bl,hb16,fieldAddr_ptr frU1 lI,qI]
  rw [← hB24]
  have hb16R:=osR.b16
  have hB16lt:B16 < B24:=by have:=(hos.kp k3).n16; omega
  generalize h3.res = R0 at osR kR f24 n24 n16 hb16R ⊢
  clear hb16
  refine dm_three rfl rfl ?_ ?_ ?_
  ·skip
   refine dmW_brings (fid:=29) (first:=#[]) (captured:=#[]) (Post:=fun u h'=>AppC R0.nx h' 1 u (a.map fun n=>[iv n]) R0.nx) rfl rfl (by simp (disch:=first|omega|decide) only [rUz,rMz,infoL,Nat.reduceSub]) (hoff _ _ _ rfl) (by simp (disch:=first|omega|decide) only [rUz,rMz,infoL,Nat.reduceSub]; exact listC_y S R0 ua a ((osR.kp (Kp.refl:Kp R0 R0)).xa.at) hlA) (Nat.le_of_ble_eq_true rfl) ?_
   intro vA X1 q1 hA1
   have k1:=(Kp.refl:Kp R0 R0).trans q1
   refine ⟨?_,?_⟩
   ·try simp (disch:=first|decide|rfl) only [again_nil,again_skip,again_free]
    rw [again_same (v:=ub) (by simp (disch:=first|omega|decide) only [rUz,rDz,infoL,Nat.reduceSub,t16,(k1.get n16).trans hb16R,fieldAddr_ptr frU1 lI,qI]) ueB]
    try simp (disch:=first|decide|rfl) only [again_nil,again_skip,again_free]
   simp (disch:=first|omega|decide) only [rUz,rMz,infoL,Nat.reduceSub]
   refine dm_two rfl rfl ?_ ?_
   ·skip
    refine dmW_some (v:=.slice (some ⟨X1.nx,0,none⟩) 1 1) (h':=X1.add [iv s]) rfl rfl (aw_lit1 slI s3' z3 rfl (by omega) (u:=iv s) (l:=[iv s]) (by simp (disch:=first|omega|decide) only [rUz,rMz,infoL,Nat.reduceSub]) rfl rfl) (Nat.le_of_ble_eq_true rfl) ?_ ?_
    ·have k2:Kp R0 (X1.add [iv s]):=k1.add
     try simp (disch:=first|decide|rfl) only [again_nil,again_skip,again_free]
     rw [again_same (v:=ub) (by simp (disch:=first|omega|decide) only [rUz,rDz,infoL,Nat.reduceSub,t16,(k2.get n16).trans hb16R,fieldAddr_ptr frU1 lI,qI]) ueB]
     try simp (disch:=first|decide|rfl) only [again_nil,again_skip,again_free]
     rw [again_same (v:=ua) (by simp (disch:=first|omega|decide) only [rUz,rDz,infoL,Nat.reduceSub,t16,(k2.get n16).trans hb16R,fieldAddr_ptr frU0 lI,qI]) ueA]
     try simp (disch:=first|decide|rfl) only [again_nil,again_skip,again_free]
    have q2:Kp X1 (X1.add [iv s]):=Kp.refl.add
    obtain ⟨b4,hb4_⟩:∃ z,z = X1.nx:=⟨_,rfl⟩
    have gb42:(X1.add [iv s]).bl.get b4 = some (.cells [iv s] b4 false):=by subst hb4_; exact ag_eq rfl
    have nb42:b4 < (X1.add [iv s]).nx:=by show b4 < X1.nx + 1; omega
    rw [← hb4_]
    generalize X1.add [iv s] = X2 at q2 gb42 nb42 ⊢
    have k2:=k1.trans q2
    have hA2:=hA1.mono q2
    have leA2:R0.nx ≤ X2.nx:=Nat.le_trans q1.1 q2.1
    simp (disch:=first|omega|decide) only [rUz,rMz,infoL,Nat.reduceSub]
    refine dm_two rfl rfl ?_ ?_
    ·skip
     refine dmW_appC2 (lo:=R0.nx) (F:=R0.nx) (v:=vA) (cs:=a.map fun n=>[iv n]) (bx:=b4) (cx:=1) rfl rfl slI uI (by simp (disch:=first|omega|decide) only [rUz,rMz,infoL,Nat.reduceSub]) (by simp (disch:=first|omega|decide) only [rUz,rMz,infoL,Nat.reduceSub]) hA2 leA2 s3' rfl gb42 nI hlA2 (Nat.le_of_ble_eq_true rfl) ?_
     intro wA X3 hR3 hS3 keep3
     have k3:Kp R0 X3:=hS3.kp (Kp.refl:Kp R0 R0).1 k2
     refine ⟨?_,?_⟩
     ·try simp (disch:=first|decide|rfl) only [again_nil,again_skip,again_free]
      rw [again_same (v:=ub) (by simp (disch:=first|omega|decide) only [rUz,rDz,infoL,Nat.reduceSub,t16,(k3.get n16).trans hb16R,fieldAddr_ptr frU1 lI,qI]) ueB]
      try simp (disch:=first|decide|rfl) only [again_nil,again_skip,again_free]
     simp (disch:=first|omega|decide) only [rUz,rMz,infoL,Nat.reduceSub]
     refine dm_two rfl rfl ?_ ?_
     ·skip
      refine dmW_brings (fid:=29) (first:=#[]) (captured:=#[]) (Post:=fun u h'=>AppC X3.nx h' 1 u (b.map fun n=>[iv n]) X3.nx) rfl rfl (by simp (disch:=first|omega|decide) only [rUz,rMz,infoL,Nat.reduceSub]) (hoff _ _ _ rfl) (by simp (disch:=first|omega|decide) only [rUz,rMz,infoL,Nat.reduceSub]; exact listC_y S X3 ub b ((osR.kp k3).xb.at) hlB) (Nat.le_of_ble_eq_true rfl) ?_
      intro vB X4 q4 hB4
      have k4:=k3.trans q4
      refine ⟨?_,?_⟩
      ·try simp (disch:=first|decide|rfl) only [again_nil,again_skip,again_free]
      have hR4:=hR3.kp q4
      simp (disch:=first|omega|decide) only [rUz,rMz,infoL,Nat.reduceSub]
      refine dm_one rfl rfl ?_
      refine dmW_some (v:=.slice (some ⟨X4.nx,0,none⟩) 1 1) (h':=X4.add [iv d]) rfl rfl (aw_lit1 slI s3' z3 rfl (by omega) (u:=iv d) (l:=[iv d]) (by simp (disch:=first|omega|decide) only [rUz,rMz,infoL,Nat.reduceSub]) rfl rfl) (Nat.le_of_ble_eq_true rfl) ?_ ?_
      ·have k5:Kp R0 (X4.add [iv d]):=k4.add
       try simp (disch:=first|decide|rfl) only [again_nil,again_skip,again_free]
       rw [again_same (v:=ub) (by simp (disch:=first|omega|decide) only [rUz,rDz,infoL,Nat.reduceSub,t16,(k5.get n16).trans hb16R,fieldAddr_ptr frU1 lI,qI]) ueB]
       try simp (disch:=first|decide|rfl) only [again_nil,again_skip,again_free]
       rw [again_same (v:=ua) (by simp (disch:=first|omega|decide) only [rUz,rDz,infoL,Nat.reduceSub,t16,(k5.get n16).trans hb16R,fieldAddr_ptr frU0 lI,qI]) ueA]
       try simp (disch:=first|decide|rfl) only [again_nil,again_skip,again_free]
      have q5:Kp X4 (X4.add [iv d]):=Kp.refl.add
      obtain ⟨b10,hb10_⟩:∃ z,z = X4.nx:=⟨_,rfl⟩
      have gb105:(X4.add [iv d]).bl.get b10 = some (.cells [iv d] b10 false):=by subst hb10_; exact ag_eq rfl
      have nb105:b10 < (X4.add [iv d]).nx:=by show b10 < X4.nx + 1; omega
      rw [← hb10_]
      generalize X4.add [iv d] = X5 at q5 gb105 nb105 ⊢
      have k5:=k4.trans q5
      have hB5:=hB4.mono q5
      have leB5:X3.nx ≤ X5.nx:=Nat.le_trans q4.1 q5.1
      have kYX5:=q4.trans q5
      simp (disch:=first|omega|decide) only [rUz,rMz,infoL,Nat.reduceSub]
      refine dm_one rfl rfl ?_
      refine dmW_appC2 (lo:=X3.nx) (F:=X3.nx) (v:=vB) (cs:=b.map fun n=>[iv n]) (bx:=b10) (cx:=1) rfl rfl slI uI (by simp (disch:=first|omega|decide) only [rUz,rMz,infoL,Nat.reduceSub]) (by simp (disch:=first|omega|decide) only [rUz,rMz,infoL,Nat.reduceSub]) hB5 leB5 s3' rfl gb105 nI hlB2 (Nat.le_of_ble_eq_true rfl) ?_
      intro wB X6 hR6 hS6 keep6
      have k6:Kp R0 X6:=hS6.kp k3.1 k5
      refine ⟨?_,?_⟩
      ·try simp (disch:=first|decide|rfl) only [again_nil,again_skip,again_free]
      have hRA:=RNew.smB hR3 kYX5 hS6 (Nat.le_refl _)
      obtain ⟨a1,a2,a3,ha_⟩:=hRA.sl
      obtain ⟨e1,e2,e3,hb_⟩:=hR6.sl
      subst ha_ hb_
      have f24X:=(k6.fget (by omega:B24 < R0.nx)).trans f24
      simp (disch:=first|omega|decide) only [rUz,rMz,infoL,Nat.reduceSub,rd_build,List.map_cons,List.map_nil,brU]
      refine dm_one rfl rfl ?_
      refine dmW_alloc (r:=B24) (z:=.agg ⟨[nl,nl]⟩) rfl zrU f24X (Nat.le_of_ble_eq_true rfl) ?_ ?_
      ·try simp (disch:=first|decide|rfl) only [again_nil,again_skip,again_free]
       rw [again_same (v:=ub) (by simp (disch:=first|omega|decide) only [rUz,rDz,infoL,Nat.reduceSub,t16,putAt_ne,(k6.get n16).trans hb16R,fieldAddr_ptr frU1 lI,qI]) ueB]
       try simp (disch:=first|decide|rfl) only [again_nil,again_skip,again_free]
       rw [again_same (v:=ua) (by simp (disch:=first|omega|decide) only [rUz,rDz,infoL,Nat.reduceSub,t16,putAt_ne,(k6.get n16).trans hb16R,fieldAddr_ptr frU0 lI,qI]) ueA]
       try simp (disch:=first|decide|rfl) only [again_nil,again_skip,again_free]
      simp (disch:=first|omega|decide) only [rUz,rMz,infoL,Nat.reduceSub]
      refine dm_one rfl rfl ?_
      refine dmW_none rfl rfl (aw_storeN (B:=B24) (ls:=[.slice a1 a2 a3,.slice e1 e2 e3]) (by simp (disch:=first|omega|decide) only [rUz,rMz,infoL,Nat.reduceSub]) (by simp (disch:=first|omega|decide) only [rUz,rMz,infoL,Nat.reduceSub]) srU (by omega) rfl (by simp (disch:=first|omega|decide) only [putAt_eq]; rfl) (by simp (disch:=first|omega|decide) only [putAt_fe]; rfl) rfl) ?_ ?_
      ·try simp (disch:=first|decide|rfl) only [again_nil,again_skip,again_free]
      simp (disch:=first|omega|decide) only [rUz,rMz,infoL,Nat.reduceSub]
      have loa:R0.nx ≤ R0.nx:=(Kp.refl:Kp R0 R0).1
      have lob:R0.nx ≤ X3.nx:=k3.1
      refine hJ _ _ (.slice a1 a2 a3) (.slice e1 e2 e3) B24 (((kR.trans k6).putAt (by omega)).upd (by omega)) ?_ (upd_eq _ _ _) ?_ ?_ ⟨⟨?_,?_,?_,?_,?_,?_⟩,?_,?_⟩ ?_ ?_
      ·refine ⟨hB16lt,?_⟩; show B24 < X6.nx; have:=k6.1; omega
      ·rw [List.map_append]; exact ((hRA.putAt (r:=B24) (by omega)).upd (by omega)).slX (by omega) (by omega) (by omega)
      ·rw [List.map_append]; exact ((hR6.putAt (r:=B24) (by omega)).upd (by omega)).slX (by omega) (by omega) (by omega)
      all_goals (first|rfl|(simp (disch:=first|omega|decide) only [rUz,t0,t1,t2,t6,t7,t8,t16,t17,t23]; done)|(simp (disch:=first|omega|decide) only [rUz,t0,t1,t2,t6,t7,t8,t16,t17,t23]; rfl))
     ·skip
      refine dmW_some (v:=.slice (some ⟨X3.nx,0,none⟩) 1 1) (h':=X3.add [iv d]) rfl rfl (aw_lit1 slI s3' z3 rfl (by omega) (u:=iv d) (l:=[iv d]) (by simp (disch:=first|omega|decide) only [rUz,rMz,infoL,Nat.reduceSub]) rfl rfl) (Nat.le_of_ble_eq_true rfl) ?_ ?_
      ·have k4:Kp R0 (X3.add [iv d]):=k3.add
       try simp (disch:=first|decide|rfl) only [again_nil,again_skip,again_free]
       rw [again_same (v:=ub) (by simp (disch:=first|omega|decide) only [rUz,rDz,infoL,Nat.reduceSub,t16,(k4.get n16).trans hb16R,fieldAddr_ptr frU1 lI,qI]) ueB]
       try simp (disch:=first|decide|rfl) only [again_nil,again_skip,again_free]
       rw [again_same (v:=ua) (by simp (disch:=first|omega|decide) only [rUz,rDz,infoL,Nat.reduceSub,t16,(k4.get n16).trans hb16R,fieldAddr_ptr frU0 lI,qI]) ueA]
       try simp (disch:=first|decide|rfl) only [again_nil,again_skip,again_free]
      have q4:Kp X3 (X3.add [iv d]):=Kp.refl.add
      obtain ⟨b10,hb10_⟩:∃ z,z = X3.nx:=⟨_,rfl⟩
      have gb104:(X3.add [iv d]).bl.get b10 = some (.cells [iv d] b10 false):=by subst hb10_; exact ag_eq rfl
      have nb104:b10 < (X3.add [iv d]).nx:=by show b10 < X3.nx + 1; omega
      rw [← hb10_]
      generalize X3.add [iv d] = X4 at q4 gb104 nb104 ⊢
      have k4:=k3.trans q4
      have hR4:=hR3.kp q4
      simp (disch:=first|omega|decide) only [rUz,rMz,infoL,Nat.reduceSub]
      refine dm_one rfl rfl ?_
      refine dmW_brings (fid:=29) (first:=#[]) (captured:=#[]) (Post:=fun u h'=>AppC X4.nx h' 1 u (b.map fun n=>[iv n]) X4.nx) rfl rfl (by simp (disch:=first|omega|decide) only [rUz,rMz,infoL,Nat.reduceSub]) (hoff _ _ _ rfl) (by simp (disch:=first|omega|decide) only [rUz,rMz,infoL,Nat.reduceSub]; exact listC_y S X4 ub b ((osR.kp k4).xb.at) hlB) (Nat.le_of_ble_eq_true rfl) ?_
      intro vB X5 q5 hB5
      have k5:=k4.trans q5
      refine ⟨?_,?_⟩
      ·try simp (disch:=first|decide|rfl) only [again_nil,again_skip,again_free]
      have gb105:=(q5.get nb104).trans gb104
      have nb105:=Nat.lt_of_lt_of_le nb104 q5.1
      have hR5:=hR4.kp q5
      simp (disch:=first|omega|decide) only [rUz,rMz,infoL,Nat.reduceSub]
      refine dm_one rfl rfl ?_
      refine dmW_appC2 (lo:=X4.nx) (F:=X4.nx) (v:=vB) (cs:=b.map fun n=>[iv n]) (bx:=b10) (cx:=1) rfl rfl slI uI (by simp (disch:=first|omega|decide) only [rUz,rMz,infoL,Nat.reduceSub]) (by simp (disch:=first|omega|decide) only [rUz,rMz,infoL,Nat.reduceSub]) hB5 q5.1 s3' rfl gb105 nI hlB2 (Nat.le_of_ble_eq_true rfl) ?_
      intro wB X6 hR6 hS6 keep6
      have k6:Kp R0 X6:=hS6.kp k4.1 k5
      refine ⟨?_,?_⟩
      ·try simp (disch:=first|decide|rfl) only [again_nil,again_skip,again_free]
      have hRA:=RNew.smB hR4 q5 hS6 (Nat.le_refl _)
      obtain ⟨a1,a2,a3,ha_⟩:=hRA.sl
      obtain ⟨e1,e2,e3,hb_⟩:=hR6.sl
      subst ha_ hb_
      have f24X:=(k6.fget (by omega:B24 < R0.nx)).trans f24
      simp (disch:=first|omega|decide) only [rUz,rMz,infoL,Nat.reduceSub,rd_build,List.map_cons,List.map_nil,brU]
      refine dm_one rfl rfl ?_
      refine dmW_alloc (r:=B24) (z:=.agg ⟨[nl,nl]⟩) rfl zrU f24X (Nat.le_of_ble_eq_true rfl) ?_ ?_
      ·try simp (disch:=first|decide|rfl) only [again_nil,again_skip,again_free]
       rw [again_same (v:=ub) (by simp (disch:=first|omega|decide) only [rUz,rDz,infoL,Nat.reduceSub,t16,putAt_ne,(k6.get n16).trans hb16R,fieldAddr_ptr frU1 lI,qI]) ueB]
       try simp (disch:=first|decide|rfl) only [again_nil,again_skip,again_free]
       rw [again_same (v:=ua) (by simp (disch:=first|omega|decide) only [rUz,rDz,infoL,Nat.reduceSub,t16,putAt_ne,(k6.get n16).trans hb16R,fieldAddr_ptr frU0 lI,qI]) ueA]
       try simp (disch:=first|decide|rfl) only [again_nil,again_skip,again_free]
      simp (disch:=first|omega|decide) only [rUz,rMz,infoL,Nat.reduceSub]
      refine dm_one rfl rfl ?_
      refine dmW_none rfl rfl (aw_storeN (B:=B24) (ls:=[.slice a1 a2 a3,.slice e1 e2 e3]) (by simp (disch:=first|omega|decide) only [rUz,rMz,infoL,Nat.reduceSub]) (by simp (disch:=first|omega|decide) only [rUz,rMz,infoL,Nat.reduceSub]) srU (by omega) rfl (by simp (disch:=first|omega|decide) only [putAt_eq]; rfl) (by simp (disch:=first|omega|decide) only [putAt_fe]; rfl) rfl) ?_ ?_
      ·try simp (disch:=first|decide|rfl) only [again_nil,again_skip,again_free]
      simp (disch:=first|omega|decide) only [rUz,rMz,infoL,Nat.reduceSub]
      have loa:R0.nx ≤ R0.nx:=(Kp.refl:Kp R0 R0).1
      have lob:R0.nx ≤ X4.nx:=k4.1
      refine hJ _ _ (.slice a1 a2 a3) (.slice e1 e2 e3) B24 (((kR.trans k6).putAt (by omega)).upd (by omega)) ?_ (upd_eq _ _ _) ?_ ?_ ⟨⟨?_,?_,?_,?_,?_,?_⟩,?_,?_⟩ ?_ ?_
      ·refine ⟨hB16lt,?_⟩; show B24 < X6.nx; have:=k6.1; omega
      ·rw [List.map_append]; exact ((hRA.putAt (r:=B24) (by omega)).upd (by omega)).slX (by omega) (by omega) (by omega)
      ·rw [List.map_append]; exact ((hR6.putAt (r:=B24) (by omega)).upd (by omega)).slX (by omega) (by omega) (by omega)
      all_goals (first|rfl|(simp (disch:=first|omega|decide) only [rUz,t0,t1,t2,t6,t7,t8,t16,t17,t23]; done)|(simp (disch:=first|omega|decide) only [rUz,t0,t1,t2,t6,t7,t8,t16,t17,t23]; rfl))
    ·skip
     refine dmW_some (v:=.slice (some ⟨X2.nx,0,none⟩) 1 1) (h':=X2.add [iv d]) rfl rfl (aw_lit1 slI s3' z3 rfl (by omega) (u:=iv d) (l:=[iv d]) (by simp (disch:=first|omega|decide) only [rUz,rMz,infoL,Nat.reduceSub]) rfl rfl) (Nat.le_of_ble_eq_true rfl) ?_ ?_
     ·have k3:Kp R0 (X2.add [iv d]):=k2.add
      try simp (disch:=first|decide|rfl) only [again_nil,again_skip,again_free]
      rw [again_same (v:=ub) (by simp (disch:=first|omega|decide) only [rUz,rDz,infoL,Nat.reduceSub,t16,(k3.get n16).trans hb16R,fieldAddr_ptr frU1 lI,qI]) ueB]
      try simp (disch:=first|decide|rfl) only [again_nil,again_skip,again_free]
      rw [again_same (v:=ua) (by simp (disch:=first|omega|decide) only [rUz,rDz,infoL,Nat.reduceSub,t16,(k3.get n16).trans hb16R,fieldAddr_ptr frU0 lI,qI]) ueA]
      try simp (disch:=first|decide|rfl) only [again_nil,again_skip,again_free]
     have q3:Kp X2 (X2.add [iv d]):=Kp.refl.add
     obtain ⟨b10,hb10_⟩:∃ z,z = X2.nx:=⟨_,rfl⟩
     have gb103:(X2.add [iv d]).bl.get b10 = some (.cells [iv d] b10 false):=by subst hb10_; exact ag_eq rfl
     have nb103:b10 < (X2.add [iv d]).nx:=by show b10 < X2.nx + 1; omega
     rw [← hb10_]
     generalize X2.add [iv d] = X3 at q3 gb103 nb103 ⊢
     have k3:=k2.trans q3
     have hA3:=hA2.mono q3
     have leA3:R0.nx ≤ X3.nx:=Nat.le_trans leA2 q3.1
     have gb43:=(q3.get nb42).trans gb42
     have nb43:=Nat.lt_of_lt_of_le nb42 q3.1
     have ne10:b10 ≠ R0.nx:=by obtain ⟨_,_,_,_,_,_,_,nF,_⟩:=hA2.at_; have:=q3.1; omega
     simp (disch:=first|omega|decide) only [rUz,rMz,infoL,Nat.reduceSub]
     refine dm_one rfl rfl ?_
     refine dmW_appC2 (lo:=R0.nx) (F:=R0.nx) (v:=vA) (cs:=a.map fun n=>[iv n]) (bx:=b4) (cx:=1) rfl rfl slI uI (by simp (disch:=first|omega|decide) only [rUz,rMz,infoL,Nat.reduceSub]) (by simp (disch:=first|omega|decide) only [rUz,rMz,infoL,Nat.reduceSub]) hA3 leA3 s3' rfl gb43 nI hlA2 (Nat.le_of_ble_eq_true rfl) ?_
     intro wA X4 hR4 hS4 keep4
     have k4:Kp R0 X4:=hS4.kp (Kp.refl:Kp R0 R0).1 k3
     refine ⟨?_,?_⟩
     ·try simp (disch:=first|decide|rfl) only [again_nil,again_skip,again_free]
      rw [again_same (v:=ub) (by simp (disch:=first|omega|decide) only [rUz,rDz,infoL,Nat.reduceSub,t16,(k4.get n16).trans hb16R,fieldAddr_ptr frU1 lI,qI]) ueB]
      try simp (disch:=first|decide|rfl) only [again_nil,again_skip,again_free]
     have gb104:=keep4 _ _ _ _ nb103 gb103 ne10
     have nb104:b10 < X4.nx:=Nat.lt_of_lt_of_le nb103 hS4.1
     simp (disch:=first|omega|decide) only [rUz,rMz,infoL,Nat.reduceSub]
     refine dm_one rfl rfl ?_
     refine dmW_brings (fid:=29) (first:=#[]) (captured:=#[]) (Post:=fun u h'=>AppC X4.nx h' 1 u (b.map fun n=>[iv n]) X4.nx) rfl rfl (by simp (disch:=first|omega|decide) only [rUz,rMz,infoL,Nat.reduceSub]) (hoff _ _ _ rfl) (by simp (disch:=first|omega|decide) only [rUz,rMz,infoL,Nat.reduceSub]; exact listC_y S X4 ub b ((osR.kp k4).xb.at) hlB) (Nat.le_of_ble_eq_true rfl) ?_
     intro vB X5 q5 hB5
     have k5:=k4.trans q5
     refine ⟨?_,?_⟩
     ·try simp (disch:=first|decide|rfl) only [again_nil,again_skip,again_free]
     have gb105:=(q5.get nb104).trans gb104
     have nb105:=Nat.lt_of_lt_of_le nb104 q5.1
     have hR5:=hR4.kp q5
     simp (disch:=first|omega|decide) only [rUz,rMz,infoL,Nat.reduceSub]
     refine dm_one rfl rfl ?_
     refine dmW_appC2 (lo:=X4.nx) (F:=X4.nx) (v:=vB) (cs:=b.map fun n=>[iv n]) (bx:=b10) (cx:=1) rfl rfl slI uI (by simp (disch:=first|omega|decide) only [rUz,rMz,infoL,Nat.reduceSub]) (by simp (disch:=first|omega|decide) only [rUz,rMz,infoL,Nat.reduceSub]) hB5 q5.1 s3' rfl gb105 nI hlB2 (Nat.le_of_ble_eq_true rfl) ?_
     intro wB X6 hR6 hS6 keep6
     have k6:Kp R0 X6:=hS6.kp k4.1 k5
     refine ⟨?_,?_⟩
     ·try simp (disch:=first|decide|rfl) only [again_nil,again_skip,again_free]
     have hRA:=RNew.smB hR4 q5 hS6 (Nat.le_refl _)
     obtain ⟨a1,a2,a3,ha_⟩:=hRA.sl
     obtain ⟨e1,e2,e3,hb_⟩:=hR6.sl
     subst ha_ hb_
     have f24X:=(k6.fget (by omega:B24 < R0.nx)).trans f24
     simp (disch:=first|omega|decide) only [rUz,rMz,infoL,Nat.reduceSub,rd_build,List.map_cons,List.map_nil,brU]
     refine dm_one rfl rfl ?_
     refine dmW_alloc (r:=B24) (z:=.agg ⟨[nl,nl]⟩) rfl zrU f24X (Nat.le_of_ble_eq_true rfl) ?_ ?_
     ·try simp (disch:=first|decide|rfl) only [again_nil,again_skip,again_free]
      rw [again_same (v:=ub) (by simp (disch:=first|omega|decide) only [rUz,rDz,infoL,Nat.reduceSub,t16,putAt_ne,(k6.get n16).trans hb16R,fieldAddr_ptr frU1 lI,qI]) ueB]
      try simp (disch:=first|decide|rfl) only [again_nil,again_skip,again_free]
      rw [again_same (v:=ua) (by simp (disch:=first|omega|decide) only [rUz,rDz,infoL,Nat.reduceSub,t16,putAt_ne,(k6.get n16).trans hb16R,fieldAddr_ptr frU0 lI,qI]) ueA]
      try simp (disch:=first|decide|rfl) only [again_nil,again_skip,again_free]
     simp (disch:=first|omega|decide) only [rUz,rMz,infoL,Nat.reduceSub]
     refine dm_one rfl rfl ?_
     refine dmW_none rfl rfl (aw_storeN (B:=B24) (ls:=[.slice a1 a2 a3,.slice e1 e2 e3]) (by simp (disch:=first|omega|decide) only [rUz,rMz,infoL,Nat.reduceSub]) (by simp (disch:=first|omega|decide) only [rUz,rMz,infoL,Nat.reduceSub]) srU (by omega) rfl (by simp (disch:=first|omega|decide) only [putAt_eq]; rfl) (by simp (disch:=first|omega|decide) only [putAt_fe]; rfl) rfl) ?_ ?_
     ·try simp (disch:=first|decide|rfl) only [again_nil,again_skip,again_free]
     simp (disch:=first|omega|decide) only [rUz,rMz,infoL,Nat.reduceSub]
     have loa:R0.nx ≤ R0.nx:=(Kp.refl:Kp R0 R0).1
     have lob:R0.nx ≤ X4.nx:=k4.1
     refine hJ _ _ (.slice a1 a2 a3) (.slice e1 e2 e3) B24 (((kR.trans k6).putAt (by omega)).upd (by omega)) ?_ (upd_eq _ _ _) ?_ ?_ ⟨⟨?_,?_,?_,?_,?_,?_⟩,?_,?_⟩ ?_ ?_
     ·refine ⟨hB16lt,?_⟩; show B24 < X6.nx; have:=k6.1; omega
     ·rw [List.map_append]; exact ((hRA.putAt (r:=B24) (by omega)).upd (by omega)).slX (by omega) (by omega) (by omega)
     ·rw [List.map_append]; exact ((hR6.putAt (r:=B24) (by omega)).upd (by omega)).slX (by omega) (by omega) (by omega)
     all_goals (first|rfl|(simp (disch:=first|omega|decide) only [rUz,t0,t1,t2,t6,t7,t8,t16,t17,t23]; done)|(simp (disch:=first|omega|decide) only [rUz,t0,t1,t2,t6,t7,t8,t16,t17,t23]; rfl))
   ·skip
    refine dmW_some (v:=.slice (some ⟨X1.nx,0,none⟩) 1 1) (h':=X1.add [iv d]) rfl rfl (aw_lit1 slI s3' z3 rfl (by omega) (u:=iv d) (l:=[iv d]) (by simp (disch:=first|omega|decide) only [rUz,rMz,infoL,Nat.reduceSub]) rfl rfl) (Nat.le_of_ble_eq_true rfl) ?_ ?_
    ·have k2:Kp R0 (X1.add [iv d]):=k1.add
     try simp (disch:=first|decide|rfl) only [again_nil,again_skip,again_free]
     rw [again_same (v:=ub) (by simp (disch:=first|omega|decide) only [rUz,rDz,infoL,Nat.reduceSub,t16,(k2.get n16).trans hb16R,fieldAddr_ptr frU1 lI,qI]) ueB]
     try simp (disch:=first|decide|rfl) only [again_nil,again_skip,again_free]
     rw [again_same (v:=ua) (by simp (disch:=first|omega|decide) only [rUz,rDz,infoL,Nat.reduceSub,t16,(k2.get n16).trans hb16R,fieldAddr_ptr frU0 lI,qI]) ueA]
     try simp (disch:=first|decide|rfl) only [again_nil,again_skip,again_free]
    have q2:Kp X1 (X1.add [iv d]):=Kp.refl.add
    obtain ⟨b10,hb10_⟩:∃ z,z = X1.nx:=⟨_,rfl⟩
    have gb102:(X1.add [iv d]).bl.get b10 = some (.cells [iv d] b10 false):=by subst hb10_; exact ag_eq rfl
    have nb102:b10 < (X1.add [iv d]).nx:=by show b10 < X1.nx + 1; omega
    rw [← hb10_]
    generalize X1.add [iv d] = X2 at q2 gb102 nb102 ⊢
    have k2:=k1.trans q2
    have hA2:=hA1.mono q2
    have leA2:R0.nx ≤ X2.nx:=Nat.le_trans q1.1 q2.1
    have ne10:b10 ≠ R0.nx:=by obtain ⟨_,_,_,_,_,_,_,nF,_⟩:=hA1.at_; have:=q2.1; omega
    simp (disch:=first|omega|decide) only [rUz,rMz,infoL,Nat.reduceSub]
    refine dm_one rfl rfl ?_
    refine dmW_some (v:=.slice (some ⟨X2.nx,0,none⟩) 1 1) (h':=X2.add [iv s]) rfl rfl (aw_lit1 slI s3' z3 rfl (by omega) (u:=iv s) (l:=[iv s]) (by simp (disch:=first|omega|decide) only [rUz,rMz,infoL,Nat.reduceSub]) rfl rfl) (Nat.le_of_ble_eq_true rfl) ?_ ?_
    ·have k3:Kp R0 (X2.add [iv s]):=k2.add
     try simp (disch:=first|decide|rfl) only [again_nil,again_skip,again_free]
     rw [again_same (v:=ub) (by simp (disch:=first|omega|decide) only [rUz,rDz,infoL,Nat.reduceSub,t16,(k3.get n16).trans hb16R,fieldAddr_ptr frU1 lI,qI]) ueB]
     try simp (disch:=first|decide|rfl) only [again_nil,again_skip,again_free]
     rw [again_same (v:=ua) (by simp (disch:=first|omega|decide) only [rUz,rDz,infoL,Nat.reduceSub,t16,(k3.get n16).trans hb16R,fieldAddr_ptr frU0 lI,qI]) ueA]
     try simp (disch:=first|decide|rfl) only [again_nil,again_skip,again_free]
    have q3:Kp X2 (X2.add [iv s]):=Kp.refl.add
    obtain ⟨b4,hb4_⟩:∃ z,z = X2.nx:=⟨_,rfl⟩
    have gb43:(X2.add [iv s]).bl.get b4 = some (.cells [iv s] b4 false):=by subst hb4_; exact ag_eq rfl
    have nb43:b4 < (X2.add [iv s]).nx:=by show b4 < X2.nx + 1; omega
    rw [← hb4_]
    generalize X2.add [iv s] = X3 at q3 gb43 nb43 ⊢
    have k3:=k2.trans q3
    have hA3:=hA2.mono q3
    have leA3:R0.nx ≤ X3.nx:=Nat.le_trans leA2 q3.1
    have gb103:=(q3.get nb102).trans gb102
    have nb103:=Nat.lt_of_lt_of_le nb102 q3.1
    simp (disch:=first|omega|decide) only [rUz,rMz,infoL,Nat.reduceSub]
    refine dm_one rfl rfl ?_
    refine dmW_appC2 (lo:=R0.nx) (F:=R0.nx) (v:=vA) (cs:=a.map fun n=>[iv n]) (bx:=b4) (cx:=1) rfl rfl slI uI (by simp (disch:=first|omega|decide) only [rUz,rMz,infoL,Nat.reduceSub]) (by simp (disch:=first|omega|decide) only [rUz,rMz,infoL,Nat.reduceSub]) hA3 leA3 s3' rfl gb43 nI hlA2 (Nat.le_of_ble_eq_true rfl) ?_
    intro wA X4 hR4 hS4 keep4
    have k4:Kp R0 X4:=hS4.kp (Kp.refl:Kp R0 R0).1 k3
    refine ⟨?_,?_⟩
    ·try simp (disch:=first|decide|rfl) only [again_nil,again_skip,again_free]
     rw [again_same (v:=ub) (by simp (disch:=first|omega|decide) only [rUz,rDz,infoL,Nat.reduceSub,t16,(k4.get n16).trans hb16R,fieldAddr_ptr frU1 lI,qI]) ueB]
     try simp (disch:=first|decide|rfl) only [again_nil,again_skip,again_free]
    have gb104:=keep4 _ _ _ _ nb103 gb103 ne10
    have nb104:b10 < X4.nx:=Nat.lt_of_lt_of_le nb103 hS4.1
    simp (disch:=first|omega|decide) only [rUz,rMz,infoL,Nat.reduceSub]
    refine dm_one rfl rfl ?_
    refine dmW_brings (fid:=29) (first:=#[]) (captured:=#[]) (Post:=fun u h'=>AppC X4.nx h' 1 u (b.map fun n=>[iv n]) X4.nx) rfl rfl (by simp (disch:=first|omega|decide) only [rUz,rMz,infoL,Nat.reduceSub]) (hoff _ _ _ rfl) (by simp (disch:=first|omega|decide) only [rUz,rMz,infoL,Nat.reduceSub]; exact listC_y S X4 ub b ((osR.kp k4).xb.at) hlB) (Nat.le_of_ble_eq_true rfl) ?_
    intro vB X5 q5 hB5
    have k5:=k4.trans q5
    refine ⟨?_,?_⟩
    ·try simp (disch:=first|decide|rfl) only [again_nil,again_skip,again_free]
    have gb105:=(q5.get nb104).trans gb104
    have nb105:=Nat.lt_of_lt_of_le nb104 q5.1
    have hR5:=hR4.kp q5
    simp (disch:=first|omega|decide) only [rUz,rMz,infoL,Nat.reduceSub]
    refine dm_one rfl rfl ?_
    refine dmW_appC2 (lo:=X4.nx) (F:=X4.nx) (v:=vB) (cs:=b.map fun n=>[iv n]) (bx:=b10) (cx:=1) rfl rfl slI uI (by simp (disch:=first|omega|decide) only [rUz,rMz,infoL,Nat.reduceSub]) (by simp (disch:=first|omega|decide) only [rUz,rMz,infoL,Nat.reduceSub]) hB5 q5.1 s3' rfl gb105 nI hlB2 (Nat.le_of_ble_eq_true rfl) ?_
    intro wB X6 hR6 hS6 keep6
    have k6:Kp R0 X6:=hS6.kp k4.1 k5
    refine ⟨?_,?_⟩
    ·try simp (disch:=first|decide|rfl) only [again_nil,again_skip,again_free]
    have hRA:=RNew.smB hR4 q5 hS6 (Nat.le_refl _)
    obtain ⟨a1,a2,a3,ha_⟩:=hRA.sl
    obtain ⟨e1,e2,e3,hb_⟩:=hR6.sl
    subst ha_ hb_
    have f24X:=(k6.fget (by omega:B24 < R0.nx)).trans f24
    simp (disch:=first|omega|decide) only [rUz,rMz,infoL,Nat.reduceSub,rd_build,List.map_cons,List.map_nil,brU]
    refine dm_one rfl rfl ?_
    refine dmW_alloc (r:=B24) (z:=.agg ⟨[nl,nl]⟩) rfl zrU f24X (Nat.le_of_ble_eq_true rfl) ?_ ?_
    ·try simp (disch:=first|decide|rfl) only [again_nil,again_skip,again_free]
     rw [again_same (v:=ub) (by simp (disch:=first|omega|decide) only [rUz,rDz,infoL,Nat.reduceSub,t16,putAt_ne,(k6.get n16).trans hb16R,fieldAddr_ptr frU1 lI,qI]) ueB]
     try simp (disch:=first|decide|rfl) only [again_nil,again_skip,again_free]
     rw [again_same (v:=ua) (by simp (disch:=first|omega|decide) only [rUz,rDz,infoL,Nat.reduceSub,t16,putAt_ne,(k6.get n16).trans hb16R,fieldAddr_ptr frU0 lI,qI]) ueA]
     try simp (disch:=first|decide|rfl) only [again_nil,again_skip,again_free]
    simp (disch:=first|omega|decide) only [rUz,rMz,infoL,Nat.reduceSub]
    refine dm_one rfl rfl ?_
    refine dmW_none rfl rfl (aw_storeN (B:=B24) (ls:=[.slice a1 a2 a3,.slice e1 e2 e3]) (by simp (disch:=first|omega|decide) only [rUz,rMz,infoL,Nat.reduceSub]) (by simp (disch:=first|omega|decide) only [rUz,rMz,infoL,Nat.reduceSub]) srU (by omega) rfl (by simp (disch:=first|omega|decide) only [putAt_eq]; rfl) (by simp (disch:=first|omega|decide) only [putAt_fe]; rfl) rfl) ?_ ?_
    ·try simp (disch:=first|decide|rfl) only [again_nil,again_skip,again_free]
    simp (disch:=first|omega|decide) only [rUz,rMz,infoL,Nat.reduceSub]
    have loa:R0.nx ≤ R0.nx:=(Kp.refl:Kp R0 R0).1
    have lob:R0.nx ≤ X4.nx:=k4.1
    refine hJ _ _ (.slice a1 a2 a3) (.slice e1 e2 e3) B24 (((kR.trans k6).putAt (by omega)).upd (by omega)) ?_ (upd_eq _ _ _) ?_ ?_ ⟨⟨?_,?_,?_,?_,?_,?_⟩,?_,?_⟩ ?_ ?_
    ·refine ⟨hB16lt,?_⟩; show B24 < X6.nx; have:=k6.1; omega
    ·rw [List.map_append]; exact ((hRA.putAt (r:=B24) (by omega)).upd (by omega)).slX (by omega) (by omega) (by omega)
    ·rw [List.map_append]; exact ((hR6.putAt (r:=B24) (by omega)).upd (by omega)).slX (by omega) (by omega) (by omega)
    all_goals (first|rfl|(simp (disch:=first|omega|decide) only [rUz,t0,t1,t2,t6,t7,t8,t16,t17,t23]; done)|(simp (disch:=first|omega|decide) only [rUz,t0,t1,t2,t6,t7,t8,t16,t17,t23]; rfl))
  ·skip
   refine dmW_some (v:=.slice (some ⟨R0.nx,0,none⟩) 1 1) (h':=R0.add [iv s]) rfl rfl (aw_lit1 slI s3' z3 rfl (by omega) (u:=iv s) (l:=[iv s]) (by simp (disch:=first|omega|decide) only [rUz,rMz,infoL,Nat.reduceSub]) rfl rfl) (Nat.le_of_ble_eq_true rfl) ?_ ?_
   ·have k1:Kp R0 (R0.add [iv s]):=(Kp.refl:Kp R0 R0).add
    try simp (disch:=first|decide|rfl) only [again_nil,again_skip,again_free]
    rw [again_same (v:=ub) (by simp (disch:=first|omega|decide) only [rUz,rDz,infoL,Nat.reduceSub,t16,(k1.get n16).trans hb16R,fieldAddr_ptr frU1 lI,qI]) ueB]
    try simp (disch:=first|decide|rfl) only [again_nil,again_skip,again_free]
    rw [again_same (v:=ua) (by simp (disch:=first|omega|decide) only [rUz,rDz,infoL,Nat.reduceSub,t16,(k1.get n16).trans hb16R,fieldAddr_ptr frU0 lI,qI]) ueA]
    try simp (disch:=first|decide|rfl) only [again_nil,again_skip,again_free]
   have q1:Kp R0 (R0.add [iv s]):=Kp.refl.add
   obtain ⟨b4,hb4_⟩:∃ z,z = R0.nx:=⟨_,rfl⟩
   have gb41:(R0.add [iv s]).bl.get b4 = some (.cells [iv s] b4 false):=by subst hb4_; exact ag_eq rfl
   have nb41:b4 < (R0.add [iv s]).nx:=by show b4 < R0.nx + 1; omega
   rw [← hb4_]
   generalize R0.add [iv s] = X1 at q1 gb41 nb41 ⊢
   have k1:=(Kp.refl:Kp R0 R0).trans q1
   simp (disch:=first|omega|decide) only [rUz,rMz,infoL,Nat.reduceSub]
   refine dm_two rfl rfl ?_ ?_
   ·skip
    refine dmW_brings (fid:=29) (first:=#[]) (captured:=#[]) (Post:=fun u h'=>AppC X1.nx h' 1 u (a.map fun n=>[iv n]) X1.nx) rfl rfl (by simp (disch:=first|omega|decide) only [rUz,rMz,infoL,Nat.reduceSub]) (hoff _ _ _ rfl) (by simp (disch:=first|omega|decide) only [rUz,rMz,infoL,Nat.reduceSub]; exact listC_y S X1 ua a ((osR.kp k1).xa.at) hlA) (Nat.le_of_ble_eq_true rfl) ?_
    intro vA X2 q2 hA2
    have k2:=k1.trans q2
    refine ⟨?_,?_⟩
    ·try simp (disch:=first|decide|rfl) only [again_nil,again_skip,again_free]
     rw [again_same (v:=ub) (by simp (disch:=first|omega|decide) only [rUz,rDz,infoL,Nat.reduceSub,t16,(k2.get n16).trans hb16R,fieldAddr_ptr frU1 lI,qI]) ueB]
     try simp (disch:=first|decide|rfl) only [again_nil,again_skip,again_free]
    have gb42:=(q2.get nb41).trans gb41
    have nb42:=Nat.lt_of_lt_of_le nb41 q2.1
    simp (disch:=first|omega|decide) only [rUz,rMz,infoL,Nat.reduceSub]
    refine dm_two rfl rfl ?_ ?_
    ·skip
     refine dmW_appC2 (lo:=X1.nx) (F:=X1.nx) (v:=vA) (cs:=a.map fun n=>[iv n]) (bx:=b4) (cx:=1) rfl rfl slI uI (by simp (disch:=first|omega|decide) only [rUz,rMz,infoL,Nat.reduceSub]) (by simp (disch:=first|omega|decide) only [rUz,rMz,infoL,Nat.reduceSub]) hA2 q2.1 s3' rfl gb42 nI hlA2 (Nat.le_of_ble_eq_true rfl) ?_
     intro wA X3 hR3 hS3 keep3
     have k3:Kp R0 X3:=hS3.kp k1.1 k2
     refine ⟨?_,?_⟩
     ·try simp (disch:=first|decide|rfl) only [again_nil,again_skip,again_free]
      rw [again_same (v:=ub) (by simp (disch:=first|omega|decide) only [rUz,rDz,infoL,Nat.reduceSub,t16,(k3.get n16).trans hb16R,fieldAddr_ptr frU1 lI,qI]) ueB]
      try simp (disch:=first|decide|rfl) only [again_nil,again_skip,again_free]
     simp (disch:=first|omega|decide) only [rUz,rMz,infoL,Nat.reduceSub]
     refine dm_two rfl rfl ?_ ?_
     ·skip
      refine dmW_brings (fid:=29) (first:=#[]) (captured:=#[]) (Post:=fun u h'=>AppC X3.nx h' 1 u (b.map fun n=>[iv n]) X3.nx) rfl rfl (by simp (disch:=first|omega|decide) only [rUz,rMz,infoL,Nat.reduceSub]) (hoff _ _ _ rfl) (by simp (disch:=first|omega|decide) only [rUz,rMz,infoL,Nat.reduceSub]; exact listC_y S X3 ub b ((osR.kp k3).xb.at) hlB) (Nat.le_of_ble_eq_true rfl) ?_
      intro vB X4 q4 hB4
      have k4:=k3.trans q4
      refine ⟨?_,?_⟩
      ·try simp (disch:=first|decide|rfl) only [again_nil,again_skip,again_free]
      have hR4:=hR3.kp q4
      simp (disch:=first|omega|decide) only [rUz,rMz,infoL,Nat.reduceSub]
      refine dm_one rfl rfl ?_
      refine dmW_some (v:=.slice (some ⟨X4.nx,0,none⟩) 1 1) (h':=X4.add [iv d]) rfl rfl (aw_lit1 slI s3' z3 rfl (by omega) (u:=iv d) (l:=[iv d]) (by simp (disch:=first|omega|decide) only [rUz,rMz,infoL,Nat.reduceSub]) rfl rfl) (Nat.le_of_ble_eq_true rfl) ?_ ?_
      ·have k5:Kp R0 (X4.add [iv d]):=k4.add
       try simp (disch:=first|decide|rfl) only [again_nil,again_skip,again_free]
       rw [again_same (v:=ub) (by simp (disch:=first|omega|decide) only [rUz,rDz,infoL,Nat.reduceSub,t16,(k5.get n16).trans hb16R,fieldAddr_ptr frU1 lI,qI]) ueB]
       try simp (disch:=first|decide|rfl) only [again_nil,again_skip,again_free]
       rw [again_same (v:=ua) (by simp (disch:=first|omega|decide) only [rUz,rDz,infoL,Nat.reduceSub,t16,(k5.get n16).trans hb16R,fieldAddr_ptr frU0 lI,qI]) ueA]
       try simp (disch:=first|decide|rfl) only [again_nil,again_skip,again_free]
      have q5:Kp X4 (X4.add [iv d]):=Kp.refl.add
      obtain ⟨b10,hb10_⟩:∃ z,z = X4.nx:=⟨_,rfl⟩
      have gb105:(X4.add [iv d]).bl.get b10 = some (.cells [iv d] b10 false):=by subst hb10_; exact ag_eq rfl
      have nb105:b10 < (X4.add [iv d]).nx:=by show b10 < X4.nx + 1; omega
      rw [← hb10_]
      generalize X4.add [iv d] = X5 at q5 gb105 nb105 ⊢
      have k5:=k4.trans q5
      have hB5:=hB4.mono q5
      have leB5:X3.nx ≤ X5.nx:=Nat.le_trans q4.1 q5.1
      have kYX5:=q4.trans q5
      simp (disch:=first|omega|decide) only [rUz,rMz,infoL,Nat.reduceSub]
      refine dm_one rfl rfl ?_
      refine dmW_appC2 (lo:=X3.nx) (F:=X3.nx) (v:=vB) (cs:=b.map fun n=>[iv n]) (bx:=b10) (cx:=1) rfl rfl slI uI (by simp (disch:=first|omega|decide) only [rUz,rMz,infoL,Nat.reduceSub]) (by simp (disch:=first|omega|decide) only [rUz,rMz,infoL,Nat.reduceSub]) hB5 leB5 s3' rfl gb105 nI hlB2 (Nat.le_of_ble_eq_true rfl) ?_
      intro wB X6 hR6 hS6 keep6
      have k6:Kp R0 X6:=hS6.kp k3.1 k5
      refine ⟨?_,?_⟩
      ·try simp (disch:=first|decide|rfl) only [again_nil,again_skip,again_free]
      have hRA:=RNew.smB hR3 kYX5 hS6 (Nat.le_refl _)
      obtain ⟨a1,a2,a3,ha_⟩:=hRA.sl
      obtain ⟨e1,e2,e3,hb_⟩:=hR6.sl
      subst ha_ hb_
      have f24X:=(k6.fget (by omega:B24 < R0.nx)).trans f24
      simp (disch:=first|omega|decide) only [rUz,rMz,infoL,Nat.reduceSub,rd_build,List.map_cons,List.map_nil,brU]
      refine dm_one rfl rfl ?_
      refine dmW_alloc (r:=B24) (z:=.agg ⟨[nl,nl]⟩) rfl zrU f24X (Nat.le_of_ble_eq_true rfl) ?_ ?_
      ·try simp (disch:=first|decide|rfl) only [again_nil,again_skip,again_free]
       rw [again_same (v:=ub) (by simp (disch:=first|omega|decide) only [rUz,rDz,infoL,Nat.reduceSub,t16,putAt_ne,(k6.get n16).trans hb16R,fieldAddr_ptr frU1 lI,qI]) ueB]
       try simp (disch:=first|decide|rfl) only [again_nil,again_skip,again_free]
       rw [again_same (v:=ua) (by simp (disch:=first|omega|decide) only [rUz,rDz,infoL,Nat.reduceSub,t16,putAt_ne,(k6.get n16).trans hb16R,fieldAddr_ptr frU0 lI,qI]) ueA]
       try simp (disch:=first|decide|rfl) only [again_nil,again_skip,again_free]
      simp (disch:=first|omega|decide) only [rUz,rMz,infoL,Nat.reduceSub]
      refine dm_one rfl rfl ?_
      refine dmW_none rfl rfl (aw_storeN (B:=B24) (ls:=[.slice a1 a2 a3,.slice e1 e2 e3]) (by simp (disch:=first|omega|decide) only [rUz,rMz,infoL,Nat.reduceSub]) (by simp (disch:=first|omega|decide) only [rUz,rMz,infoL,Nat.reduceSub]) srU (by omega) rfl (by simp (disch:=first|omega|decide) only [putAt_eq]; rfl) (by simp (disch:=first|omega|decide) only [putAt_fe]; rfl) rfl) ?_ ?_
      ·try simp (disch:=first|decide|rfl) only [again_nil,again_skip,again_free]
      simp (disch:=first|omega|decide) only [rUz,rMz,infoL,Nat.reduceSub]
      have loa:R0.nx ≤ X1.nx:=k1.1
      have lob:R0.nx ≤ X3.nx:=k3.1
      refine hJ _ _ (.slice a1 a2 a3) (.slice e1 e2 e3) B24 (((kR.trans k6).putAt (by omega)).upd (by omega)) ?_ (upd_eq _ _ _) ?_ ?_ ⟨⟨?_,?_,?_,?_,?_,?_⟩,?_,?_⟩ ?_ ?_
      ·refine ⟨hB16lt,?_⟩; show B24 < X6.nx; have:=k6.1; omega
      ·rw [List.map_append]; exact ((hRA.putAt (r:=B24) (by omega)).upd (by omega)).slX (by omega) (by omega) (by omega)
      ·rw [List.map_append]; exact ((hR6.putAt (r:=B24) (by omega)).upd (by omega)).slX (by omega) (by omega) (by omega)
      all_goals (first|rfl|(simp (disch:=first|omega|decide) only [rUz,t0,t1,t2,t6,t7,t8,t16,t17,t23]; done)|(simp (disch:=first|omega|decide) only [rUz,t0,t1,t2,t6,t7,t8,t16,t17,t23]; rfl))
     ·skip
      refine dmW_some (v:=.slice (some ⟨X3.nx,0,none⟩) 1 1) (h':=X3.add [iv d]) rfl rfl (aw_lit1 slI s3' z3 rfl (by omega) (u:=iv d) (l:=[iv d]) (by simp (disch:=first|omega|decide) only [rUz,rMz,infoL,Nat.reduceSub]) rfl rfl) (Nat.le_of_ble_eq_true rfl) ?_ ?_
      ·have k4:Kp R0 (X3.add [iv d]):=k3.add
       try simp (disch:=first|decide|rfl) only [again_nil,again_skip,again_free]
       rw [again_same (v:=ub) (by simp (disch:=first|omega|decide) only [rUz,rDz,infoL,Nat.reduceSub,t16,(k4.get n16).trans hb16R,fieldAddr_ptr frU1 lI,qI]) ueB]
       try simp (disch:=first|decide|rfl) only [again_nil,again_skip,again_free]
       rw [again_same (v:=ua) (by simp (disch:=first|omega|decide) only [rUz,rDz,infoL,Nat.reduceSub,t16,(k4.get n16).trans hb16R,fieldAddr_ptr frU0 lI,qI]) ueA]
       try simp (disch:=first|decide|rfl) only [again_nil,again_skip,again_free]
      have q4:Kp X3 (X3.add [iv d]):=Kp.refl.add
      obtain ⟨b10,hb10_⟩:∃ z,z = X3.nx:=⟨_,rfl⟩
      have gb104:(X3.add [iv d]).bl.get b10 = some (.cells [iv d] b10 false):=by subst hb10_; exact ag_eq rfl
      have nb104:b10 < (X3.add [iv d]).nx:=by show b10 < X3.nx + 1; omega
      rw [← hb10_]
      generalize X3.add [iv d] = X4 at q4 gb104 nb104 ⊢
      have k4:=k3.trans q4
      have hR4:=hR3.kp q4
      simp (disch:=first|omega|decide) only [rUz,rMz,infoL,Nat.reduceSub]
      refine dm_one rfl rfl ?_
      refine dmW_brings (fid:=29) (first:=#[]) (captured:=#[]) (Post:=fun u h'=>AppC X4.nx h' 1 u (b.map fun n=>[iv n]) X4.nx) rfl rfl (by simp (disch:=first|omega|decide) only [rUz,rMz,infoL,Nat.reduceSub]) (hoff _ _ _ rfl) (by simp (disch:=first|omega|decide) only [rUz,rMz,infoL,Nat.reduceSub]; exact listC_y S X4 ub b ((osR.kp k4).xb.at) hlB) (Nat.le_of_ble_eq_true rfl) ?_
      intro vB X5 q5 hB5
      have k5:=k4.trans q5
      refine ⟨?_,?_⟩
      ·try simp (disch:=first|decide|rfl) only [again_nil,again_skip,again_free]
      have gb105:=(q5.get nb104).trans gb104
      have nb105:=Nat.lt_of_lt_of_le nb104 q5.1
      have hR5:=hR4.kp q5
      simp (disch:=first|omega|decide) only [rUz,rMz,infoL,Nat.reduceSub]
      refine dm_one rfl rfl ?_
      refine dmW_appC2 (lo:=X4.nx) (F:=X4.nx) (v:=vB) (cs:=b.map fun n=>[iv n]) (bx:=b10) (cx:=1) rfl rfl slI uI (by simp (disch:=first|omega|decide) only [rUz,rMz,infoL,Nat.reduceSub]) (by simp (disch:=first|omega|decide) only [rUz,rMz,infoL,Nat.reduceSub]) hB5 q5.1 s3' rfl gb105 nI hlB2 (Nat.le_of_ble_eq_true rfl) ?_
      intro wB X6 hR6 hS6 keep6
      have k6:Kp R0 X6:=hS6.kp k4.1 k5
      refine ⟨?_,?_⟩
      ·try simp (disch:=first|decide|rfl) only [again_nil,again_skip,again_free]
      have hRA:=RNew.smB hR4 q5 hS6 (Nat.le_refl _)
      obtain ⟨a1,a2,a3,ha_⟩:=hRA.sl
      obtain ⟨e1,e2,e3,hb_⟩:=hR6.sl
      subst ha_ hb_
      have f24X:=(k6.fget (by omega:B24 < R0.nx)).trans f24
      simp (disch:=first|omega|decide) only [rUz,rMz,infoL,Nat.reduceSub,rd_build,List.map_cons,List.map_nil,brU]
      refine dm_one rfl rfl ?_
      refine dmW_alloc (r:=B24) (z:=.agg ⟨[nl,nl]⟩) rfl zrU f24X (Nat.le_of_ble_eq_true rfl) ?_ ?_
      ·try simp (disch:=first|decide|rfl) only [again_nil,again_skip,again_free]
       rw [again_same (v:=ub) (by simp (disch:=first|omega|decide) only [rUz,rDz,infoL,Nat.reduceSub,t16,putAt_ne,(k6.get n16).trans hb16R,fieldAddr_ptr frU1 lI,qI]) ueB]
       try simp (disch:=first|decide|rfl) only [again_nil,again_skip,again_free]
       rw [again_same (v:=ua) (by simp (disch:=first|omega|decide) only [rUz,rDz,infoL,Nat.reduceSub,t16,putAt_ne,(k6.get n16).trans hb16R,fieldAddr_ptr frU0 lI,qI]) ueA]
       try simp (disch:=first|decide|rfl) only [again_nil,again_skip,again_free]
      simp (disch:=first|omega|decide) only [rUz,rMz,infoL,Nat.reduceSub]
      refine dm_one rfl rfl ?_
      refine dmW_none rfl rfl (aw_storeN (B:=B24) (ls:=[.slice a1 a2 a3,.slice e1 e2 e3]) (by simp (disch:=first|omega|decide) only [rUz,rMz,infoL,Nat.reduceSub]) (by simp (disch:=first|omega|decide) only [rUz,rMz,infoL,Nat.reduceSub]) srU (by omega) rfl (by simp (disch:=first|omega|decide) only [putAt_eq]; rfl) (by simp (disch:=first|omega|decide) only [putAt_fe]; rfl) rfl) ?_ ?_
      ·try simp (disch:=first|decide|rfl) only [again_nil,again_skip,again_free]
      simp (disch:=first|omega|decide) only [rUz,rMz,infoL,Nat.reduceSub]
      have loa:R0.nx ≤ X1.nx:=k1.1
      have lob:R0.nx ≤ X4.nx:=k4.1
      refine hJ _ _ (.slice a1 a2 a3) (.slice e1 e2 e3) B24 (((kR.trans k6).putAt (by omega)).upd (by omega)) ?_ (upd_eq _ _ _) ?_ ?_ ⟨⟨?_,?_,?_,?_,?_,?_⟩,?_,?_⟩ ?_ ?_
      ·refine ⟨hB16lt,?_⟩; show B24 < X6.nx; have:=k6.1; omega
      ·rw [List.map_append]; exact ((hRA.putAt (r:=B24) (by omega)).upd (by omega)).slX (by omega) (by omega) (by omega)
      ·rw [List.map_append]; exact ((hR6.putAt (r:=B24) (by omega)).upd (by omega)).slX (by omega) (by omega) (by omega)
      all_goals (first|rfl|(simp (disch:=first|omega|decide) only [rUz,t0,t1,t2,t6,t7,t8,t16,t17,t23]; done)|(simp (disch:=first|omega|decide) only [rUz,t0,t1,t2,t6,t7,t8,t16,t17,t23]; rfl))
    ·skip
     refine dmW_some (v:=.slice (some ⟨X2.nx,0,none⟩) 1 1) (h':=X2.add [iv d]) rfl rfl (aw_lit1 slI s3' z3 rfl (by omega) (u:=iv d) (l:=[iv d]) (by simp (disch:=first|omega|decide) only [rUz,rMz,infoL,Nat.reduceSub]) rfl rfl) (Nat.le_of_ble_eq_true rfl) ?_ ?_
     ·have k3:Kp R0 (X2.add [iv d]):=k2.add
      try simp (disch:=first|decide|rfl) only [again_nil,again_skip,again_free]
      rw [again_same (v:=ub) (by simp (disch:=first|omega|decide) only [rUz,rDz,infoL,Nat.reduceSub,t16,(k3.get n16).trans hb16R,fieldAddr_ptr frU1 lI,qI]) ueB]
      try simp (disch:=first|decide|rfl) only [again_nil,again_skip,again_free]
      rw [again_same (v:=ua) (by simp (disch:=first|omega|decide) only [rUz,rDz,infoL,Nat.reduceSub,t16,(k3.get n16).trans hb16R,fieldAddr_ptr frU0 lI,qI]) ueA]
      try simp (disch:=first|decide|rfl) only [again_nil,again_skip,again_free]
     have q3:Kp X2 (X2.add [iv d]):=Kp.refl.add
     obtain ⟨b10,hb10_⟩:∃ z,z = X2.nx:=⟨_,rfl⟩
     have gb103:(X2.add [iv d]).bl.get b10 = some (.cells [iv d] b10 false):=by subst hb10_; exact ag_eq rfl
     have nb103:b10 < (X2.add [iv d]).nx:=by show b10 < X2.nx + 1; omega
     rw [← hb10_]
     generalize X2.add [iv d] = X3 at q3 gb103 nb103 ⊢
     have k3:=k2.trans q3
     have hA3:=hA2.mono q3
     have leA3:X1.nx ≤ X3.nx:=Nat.le_trans q2.1 q3.1
     have gb43:=(q3.get nb42).trans gb42
     have nb43:=Nat.lt_of_lt_of_le nb42 q3.1
     have ne10:b10 ≠ X1.nx:=by obtain ⟨_,_,_,_,_,_,_,nF,_⟩:=hA2.at_; have:=q3.1; omega
     simp (disch:=first|omega|decide) only [rUz,rMz,infoL,Nat.reduceSub]
     refine dm_one rfl rfl ?_
     refine dmW_appC2 (lo:=X1.nx) (F:=X1.nx) (v:=vA) (cs:=a.map fun n=>[iv n]) (bx:=b4) (cx:=1) rfl rfl slI uI (by simp (disch:=first|omega|decide) only [rUz,rMz,infoL,Nat.reduceSub]) (by simp (disch:=first|omega|decide) only [rUz,rMz,infoL,Nat.reduceSub]) hA3 leA3 s3' rfl gb43 nI hlA2 (Nat.le_of_ble_eq_true rfl) ?_
     intro wA X4 hR4 hS4 keep4
     have k4:Kp R0 X4:=hS4.kp k1.1 k3
     refine ⟨?_,?_⟩
     ·try simp (disch:=first|decide|rfl) only [again_nil,again_skip,again_free]
      rw [again_same (v:=ub) (by simp (disch:=first|omega|decide) only [rUz,rDz,infoL,Nat.reduceSub,t16,(k4.get n16).trans hb16R,fieldAddr_ptr frU1 lI,qI]) ueB]
      try simp (disch:=first|decide|rfl) only [again_nil,again_skip,again_free]
     have gb104:=keep4 _ _ _ _ nb103 gb103 ne10
     have nb104:b10 < X4.nx:=Nat.lt_of_lt_of_le nb103 hS4.1
     simp (disch:=first|omega|decide) only [rUz,rMz,infoL,Nat.reduceSub]
     refine dm_one rfl rfl ?_
     refine dmW_brings (fid:=29) (first:=#[]) (captured:=#[]) (Post:=fun u h'=>AppC X4.nx h' 1 u (b.map fun n=>[iv n]) X4.nx) rfl rfl (by simp (disch:=first|omega|decide) only [rUz,rMz,infoL,Nat.reduceSub]) (hoff _ _ _ rfl) (by simp (disch:=first|omega|decide) only [rUz,rMz,infoL,Nat.reduceSub]; exact listC_y S X4 ub b ((osR.kp k4).xb.at) hlB) (Nat.le_of_ble_eq_true rfl) ?_
     intro vB X5 q5 hB5
     have k5:=k4.trans q5
     refine ⟨?_,?_⟩
     ·try simp (disch:=first|decide|rfl) only [again_nil,again_skip,again_free]
     have gb105:=(q5.get nb104).trans gb104
     have nb105:=Nat.lt_of_lt_of_le nb104 q5.1
     have hR5:=hR4.kp q5
     simp (disch:=first|omega|decide) only [rUz,rMz,infoL,Nat.reduceSub]
     refine dm_one rfl rfl ?_
     refine dmW_appC2 (lo:=X4.nx) (F:=X4.nx) (v:=vB) (cs:=b.map fun n=>[iv n]) (bx:=b10) (cx:=1) rfl rfl slI uI (by simp (disch:=first|omega|decide) only [rUz,rMz,infoL,Nat.reduceSub]) (by simp (disch:=first|omega|decide) only [rUz,rMz,infoL,Nat.reduceSub]) hB5 q5.1 s3' rfl gb105 nI hlB2 (Nat.le_of_ble_eq_true rfl) ?_
     intro wB X6 hR6 hS6 keep6
     have k6:Kp R0 X6:=hS6.kp k4.1 k5
     refine ⟨?_,?_⟩
     ·try simp (disch:=first|decide|rfl) only [again_nil,again_skip,again_free]
     have hRA:=RNew.smB hR4 q5 hS6 (Nat.le_refl _)
     obtain ⟨a1,a2,a3,ha_⟩:=hRA.sl
     obtain ⟨e1,e2,e3,hb_⟩:=hR6.sl
     subst ha_ hb_
     have f24X:=(k6.fget (by omega:B24 < R0.nx)).trans f24
     simp (disch:=first|omega|decide) only [rUz,rMz,infoL,Nat.reduceSub,rd_build,List.map_cons,List.map_nil,brU]
     refine dm_one rfl rfl ?_
     refine dmW_alloc (r:=B24) (z:=.agg ⟨[nl,nl]⟩) rfl zrU f24X (Nat.le_of_ble_eq_true rfl) ?_ ?_
     ·try simp (disch:=first|decide|rfl) only [again_nil,again_skip,again_free]
      rw [again_same (v:=ub) (by simp (disch:=first|omega|decide) only [rUz,rDz,infoL,Nat.reduceSub,t16,putAt_ne,(k6.get n16).trans hb16R,fieldAddr_ptr frU1 lI,qI]) ueB]
      try simp (disch:=first|decide|rfl) only [again_nil,again_skip,again_free]
      rw [again_same (v:=ua) (by simp (disch:=first|omega|decide) only [rUz,rDz,infoL,Nat.reduceSub,t16,putAt_ne,(k6.get n16).trans hb16R,fieldAddr_ptr frU0 lI,qI]) ueA]
      try simp (disch:=first|decide|rfl) only [again_nil,again_skip,again_free]
     simp (disch:=first|omega|decide) only [rUz,rMz,infoL,Nat.reduceSub]
     refine dm_one rfl rfl ?_
     refine dmW_none rfl rfl (aw_storeN (B:=B24) (ls:=[.slice a1 a2 a3,.slice e1 e2 e3]) (by simp (disch:=first|omega|decide) only [rUz,rMz,infoL,Nat.reduceSub]) (by simp (disch:=first|omega|decide) only [rUz,rMz,infoL,Nat.reduceSub]) srU (by omega) rfl (by simp (disch:=first|omega|decide) only [putAt_eq]; rfl) (by simp (disch:=first|omega|decide) only [putAt_fe]; rfl) rfl) ?_ ?_
     ·try simp (disch:=first|decide|rfl) only [again_nil,again_skip,again_free]
     simp (disch:=first|omega|decide) only [rUz,rMz,infoL,Nat.reduceSub]
     have loa:R0.nx ≤ X1.nx:=k1.1
     have lob:R0.nx ≤ X4.nx:=k4.1
     refine hJ _ _ (.slice a1 a2 a3) (.slice e1 e2 e3) B24 (((kR.trans k6).putAt (by omega)).upd (by omega)) ?_ (upd_eq _ _ _) ?_ ?_ ⟨⟨?_,?_,?_,?_,?_,?_⟩,?_,?_⟩ ?_ ?_
     ·refine ⟨hB16lt,?_⟩; show B24 < X6.nx; have:=k6.1; omega
     ·rw [List.map_append]; exact ((hRA.putAt (r:=B24) (by omega)).upd (by omega)).slX (by omega) (by omega) (by omega)
     ·rw [List.map_append]; exact ((hR6.putAt (r:=B24) (by omega)).upd (by omega)).slX (by omega) (by omega) (by omega)
     all_goals (first|rfl|(simp (disch:=first|omega|decide) only [rUz,t0,t1,t2,t6,t7,t8,t16,t17,t23]; done)|(simp (disch:=first|omega|decide) only [rUz,t0,t1,t2,t6,t7,t8,t16,t17,t23]; rfl))
   ·skip
    refine dmW_some (v:=.slice (some ⟨X1.nx,0,none⟩) 1 1) (h':=X1.add [iv d]) rfl rfl (aw_lit1 slI s3' z3 rfl (by omega) (u:=iv d) (l:=[iv d]) (by simp (disch:=first|omega|decide) only [rUz,rMz,infoL,Nat.reduceSub]) rfl rfl) (Nat.le_of_ble_eq_true rfl) ?_ ?_
    ·have k2:Kp R0 (X1.add [iv d]):=k1.add
     try simp (disch:=first|decide|rfl) only [again_nil,again_skip,again_free]
     rw [again_same (v:=ub) (by simp (disch:=first|omega|decide) only [rUz,rDz,infoL,Nat.reduceSub,t16,(k2.get n16).trans hb16R,fieldAddr_ptr frU1 lI,qI]) ueB]
     try simp (disch:=first|decide|rfl) only [again_nil,again_skip,again_free]
     rw [again_same (v:=ua) (by simp (disch:=first|omega|decide) only [rUz,rDz,infoL,Nat.reduceSub,t16,(k2.get n16).trans hb16R,fieldAddr_ptr frU0 lI,qI]) ueA]
     try simp (disch:=first|decide|rfl) only [again_nil,again_skip,again_free]
    have q2:Kp X1 (X1.add [iv d]):=Kp.refl.add
    obtain ⟨b10,hb10_⟩:∃ z,z = X1.nx:=⟨_,rfl⟩
    have gb102:(X1.add [iv d]).bl.get b10 = some (.cells [iv d] b10 false):=by subst hb10_; exact ag_eq rfl
    have nb102:b10 < (X1.add [iv d]).nx:=by show b10 < X1.nx + 1; omega
    rw [← hb10_]
    generalize X1.add [iv d] = X2 at q2 gb102 nb102 ⊢
    have k2:=k1.trans q2
    have gb42:=(q2.get nb41).trans gb41
    have nb42:=Nat.lt_of_lt_of_le nb41 q2.1
    simp (disch:=first|omega|decide) only [rUz,rMz,infoL,Nat.reduceSub]
    refine dm_one rfl rfl ?_
    refine dmW_brings (fid:=29) (first:=#[]) (captured:=#[]) (Post:=fun u h'=>AppC X2.nx h' 1 u (a.map fun n=>[iv n]) X2.nx) rfl rfl (by simp (disch:=first|omega|decide) only [rUz,rMz,infoL,Nat.reduceSub]) (hoff _ _ _ rfl) (by simp (disch:=first|omega|decide) only [rUz,rMz,infoL,Nat.reduceSub]; exact listC_y S X2 ua a ((osR.kp k2).xa.at) hlA) (Nat.le_of_ble_eq_true rfl) ?_
    intro vA X3 q3 hA3
    have k3:=k2.trans q3
    refine ⟨?_,?_⟩
    ·try simp (disch:=first|decide|rfl) only [again_nil,again_skip,again_free]
     rw [again_same (v:=ub) (by simp (disch:=first|omega|decide) only [rUz,rDz,infoL,Nat.reduceSub,t16,(k3.get n16).trans hb16R,fieldAddr_ptr frU1 lI,qI]) ueB]
     try simp (disch:=first|decide|rfl) only [again_nil,again_skip,again_free]
    have gb43:=(q3.get nb42).trans gb42
    have nb43:=Nat.lt_of_lt_of_le nb42 q3.1
    have gb103:=(q3.get nb102).trans gb102
    have nb103:=Nat.lt_of_lt_of_le nb102 q3.1
    simp (disch:=first|omega|decide) only [rUz,rMz,infoL,Nat.reduceSub]
    refine dm_one rfl rfl ?_
    refine dmW_appC2 (lo:=X2.nx) (F:=X2.nx) (v:=vA) (cs:=a.map fun n=>[iv n]) (bx:=b4) (cx:=1) rfl rfl slI uI (by simp (disch:=first|omega|decide) only [rUz,rMz,infoL,Nat.reduceSub]) (by simp (disch:=first|omega|decide) only [rUz,rMz,infoL,Nat.reduceSub]) hA3 q3.1 s3' rfl gb43 nI hlA2 (Nat.le_of_ble_eq_true rfl) ?_
    intro wA X4 hR4 hS4 keep4
    have k4:Kp R0 X4:=hS4.kp k2.1 k3
    refine ⟨?_,?_⟩
    ·try simp (disch:=first|decide|rfl) only [again_nil,again_skip,again_free]
     rw [again_same (v:=ub) (by simp (disch:=first|omega|decide) only [rUz,rDz,infoL,Nat.reduceSub,t16,(k4.get n16).trans hb16R,fieldAddr_ptr frU1 lI,qI]) ueB]
     try simp (disch:=first|decide|rfl) only [again_nil,again_skip,again_free]
    have ne10:b10 ≠ X2.nx:=by have:=nb102; omega
    have gb104:=keep4 _ _ _ _ nb103 gb103 ne10
    have nb104:b10 < X4.nx:=Nat.lt_of_lt_of_le nb103 hS4.1
    simp (disch:=first|omega|decide) only [rUz,rMz,infoL,Nat.reduceSub]
    refine dm_one rfl rfl ?_
    refine dmW_brings (fid:=29) (first:=#[]) (captured:=#[]) (Post:=fun u h'=>AppC X4.nx h' 1 u (b.map fun n=>[iv n]) X4.nx) rfl rfl (by simp (disch:=first|omega|decide) only [rUz,rMz,infoL,Nat.reduceSub]) (hoff _ _ _ rfl) (by simp (disch:=first|omega|decide) only [rUz,rMz,infoL,Nat.reduceSub]; exact listC_y S X4 ub b ((osR.kp k4).xb.at) hlB) (Nat.le_of_ble_eq_true rfl) ?_
    intro vB X5 q5 hB5
    have k5:=k4.trans q5
    refine ⟨?_,?_⟩
    ·try simp (disch:=first|decide|rfl) only [again_nil,again_skip,again_free]
    have gb105:=(q5.get nb104).trans gb104
    have nb105:=Nat.lt_of_lt_of_le nb104 q5.1
    have hR5:=hR4.kp q5
    simp (disch:=first|omega|decide) only [rUz,rMz,infoL,Nat.reduceSub]
    refine dm_one rfl rfl ?_
    refine dmW_appC2 (lo:=X4.nx) (F:=X4.nx) (v:=vB) (cs:=b.map fun n=>[iv n]) (bx:=b10) (cx:=1) rfl rfl slI uI (by simp (disch:=first|omega|decide) only [rUz,rMz,infoL,Nat.reduceSub]) (by simp (disch:=first|omega|decide) only [rUz,rMz,infoL,Nat.reduceSub]) hB5 q5.1 s3' rfl gb105 nI hlB2 (Nat.le_of_ble_eq_true rfl) ?_
    intro wB X6 hR6 hS6 keep6
    have k6:Kp R0 X6:=hS6.kp k4.1 k5
    refine ⟨?_,?_⟩
    ·try simp (disch:=first|decide|rfl) only [again_nil,again_skip,again_free]
    have hRA:=RNew.smB hR4 q5 hS6 (Nat.le_refl _)
    obtain ⟨a1,a2,a3,ha_⟩:=hRA.sl
    obtain ⟨e1,e2,e3,hb_⟩:=hR6.sl
    subst ha_ hb_
    have f24X:=(k6.fget (by omega:B24 < R0.nx)).trans f24
    simp (disch:=first|omega|decide) only [rUz,rMz,infoL,Nat.reduceSub,rd_build,List.map_cons,List.map_nil,brU]
    refine dm_one rfl rfl ?_
    refine dmW_alloc (r:=B24) (z:=.agg ⟨[nl,nl]⟩) rfl zrU f24X (Nat.le_of_ble_eq_true rfl) ?_ ?_
    ·try simp (disch:=first|decide|rfl) only [again_nil,again_skip,again_free]
     rw [again_same (v:=ub) (by simp (disch:=first|omega|decide) only [rUz,rDz,infoL,Nat.reduceSub,t16,putAt_ne,(k6.get n16).trans hb16R,fieldAddr_ptr frU1 lI,qI]) ueB]
     try simp (disch:=first|decide|rfl) only [again_nil,again_skip,again_free]
     rw [again_same (v:=ua) (by simp (disch:=first|omega|decide) only [rUz,rDz,infoL,Nat.reduceSub,t16,putAt_ne,(k6.get n16).trans hb16R,fieldAddr_ptr frU0 lI,qI]) ueA]
     try simp (disch:=first|decide|rfl) only [again_nil,again_skip,again_free]
    simp (disch:=first|omega|decide) only [rUz,rMz,infoL,Nat.reduceSub]
    refine dm_one rfl rfl ?_
    refine dmW_none rfl rfl (aw_storeN (B:=B24) (ls:=[.slice a1 a2 a3,.slice e1 e2 e3]) (by simp (disch:=first|omega|decide) only [rUz,rMz,infoL,Nat.reduceSub]) (by simp (disch:=first|omega|decide) only [rUz,rMz,infoL,Nat.reduceSub]) srU (by omega) rfl (by simp (disch:=first|omega|decide) only [putAt_eq]; rfl) (by simp (disch:=first|omega|decide) only [putAt_fe]; rfl) rfl) ?_ ?_
    ·try simp (disch:=first|decide|rfl) only [again_nil,again_skip,again_free]
    simp (disch:=first|omega|decide) only [rUz,rMz,infoL,Nat.reduceSub]
    have loa:R0.nx ≤ X2.nx:=k2.1
    have lob:R0.nx ≤ X4.nx:=k4.1
    refine hJ _ _ (.slice a1 a2 a3) (.slice e1 e2 e3) B24 (((kR.trans k6).putAt (by omega)).upd (by omega)) ?_ (upd_eq _ _ _) ?_ ?_ ⟨⟨?_,?_,?_,?_,?_,?_⟩,?_,?_⟩ ?_ ?_
    ·refine ⟨hB16lt,?_⟩; show B24 < X6.nx; have:=k6.1; omega
    ·rw [List.map_append]; exact ((hRA.putAt (r:=B24) (by omega)).upd (by omega)).slX (by omega) (by omega) (by omega)
    ·rw [List.map_append]; exact ((hR6.putAt (r:=B24) (by omega)).upd (by omega)).slX (by omega) (by omega) (by omega)
    all_goals (first|rfl|(simp (disch:=first|omega|decide) only [rUz,t0,t1,t2,t6,t7,t8,t16,t17,t23]; done)|(simp (disch:=first|omega|decide) only [rUz,t0,t1,t2,t6,t7,t8,t16,t17,t23]; rfl))
  ·skip
   refine dmW_some (v:=.slice (some ⟨R0.nx,0,none⟩) 1 1) (h':=R0.add [iv d]) rfl rfl (aw_lit1 slI s3' z3 rfl (by omega) (u:=iv d) (l:=[iv d]) (by simp (disch:=first|omega|decide) only [rUz,rMz,infoL,Nat.reduceSub]) rfl rfl) (Nat.le_of_ble_eq_true rfl) ?_ ?_
   ·have k1:Kp R0 (R0.add [iv d]):=(Kp.refl:Kp R0 R0).add
    try simp (disch:=first|decide|rfl) only [again_nil,again_skip,again_free]
    rw [again_same (v:=ub) (by simp (disch:=first|omega|decide) only [rUz,rDz,infoL,Nat.reduceSub,t16,(k1.get n16).trans hb16R,fieldAddr_ptr frU1 lI,qI]) ueB]
    try simp (disch:=first|decide|rfl) only [again_nil,again_skip,again_free]
    rw [again_same (v:=ua) (by simp (disch:=first|omega|decide) only [rUz,rDz,infoL,Nat.reduceSub,t16,(k1.get n16).trans hb16R,fieldAddr_ptr frU0 lI,qI]) ueA]
    try simp (disch:=first|decide|rfl) only [again_nil,again_skip,again_free]
   have q1:Kp R0 (R0.add [iv d]):=Kp.refl.add
   obtain ⟨b10,hb10_⟩:∃ z,z = R0.nx:=⟨_,rfl⟩
   have gb101:(R0.add [iv d]).bl.get b10 = some (.cells [iv d] b10 false):=by subst hb10_; exact ag_eq rfl
   have nb101:b10 < (R0.add [iv d]).nx:=by show b10 < R0.nx + 1; omega
   rw [← hb10_]
   generalize R0.add [iv d] = X1 at q1 gb101 nb101 ⊢
   have k1:=(Kp.refl:Kp R0 R0).trans q1
   simp (disch:=first|omega|decide) only [rUz,rMz,infoL,Nat.reduceSub]
   refine dm_two rfl rfl ?_ ?_
   ·skip
    refine dmW_brings (fid:=29) (first:=#[]) (captured:=#[]) (Post:=fun u h'=>AppC X1.nx h' 1 u (a.map fun n=>[iv n]) X1.nx) rfl rfl (by simp (disch:=first|omega|decide) only [rUz,rMz,infoL,Nat.reduceSub]) (hoff _ _ _ rfl) (by simp (disch:=first|omega|decide) only [rUz,rMz,infoL,Nat.reduceSub]; exact listC_y S X1 ua a ((osR.kp k1).xa.at) hlA) (Nat.le_of_ble_eq_true rfl) ?_
    intro vA X2 q2 hA2
    have k2:=k1.trans q2
    refine ⟨?_,?_⟩
    ·try simp (disch:=first|decide|rfl) only [again_nil,again_skip,again_free]
     rw [again_same (v:=ub) (by simp (disch:=first|omega|decide) only [rUz,rDz,infoL,Nat.reduceSub,t16,(k2.get n16).trans hb16R,fieldAddr_ptr frU1 lI,qI]) ueB]
     try simp (disch:=first|decide|rfl) only [again_nil,again_skip,again_free]
    have gb102:=(q2.get nb101).trans gb101
    have nb102:=Nat.lt_of_lt_of_le nb101 q2.1
    simp (disch:=first|omega|decide) only [rUz,rMz,infoL,Nat.reduceSub]
    refine dm_one rfl rfl ?_
    refine dmW_some (v:=.slice (some ⟨X2.nx,0,none⟩) 1 1) (h':=X2.add [iv s]) rfl rfl (aw_lit1 slI s3' z3 rfl (by omega) (u:=iv s) (l:=[iv s]) (by simp (disch:=first|omega|decide) only [rUz,rMz,infoL,Nat.reduceSub]) rfl rfl) (Nat.le_of_ble_eq_true rfl) ?_ ?_
    ·have k3:Kp R0 (X2.add [iv s]):=k2.add
     try simp (disch:=first|decide|rfl) only [again_nil,again_skip,again_free]
     rw [again_same (v:=ub) (by simp (disch:=first|omega|decide) only [rUz,rDz,infoL,Nat.reduceSub,t16,(k3.get n16).trans hb16R,fieldAddr_ptr frU1 lI,qI]) ueB]
     try simp (disch:=first|decide|rfl) only [again_nil,again_skip,again_free]
     rw [again_same (v:=ua) (by simp (disch:=first|omega|decide) only [rUz,rDz,infoL,Nat.reduceSub,t16,(k3.get n16).trans hb16R,fieldAddr_ptr frU0 lI,qI]) ueA]
     try simp (disch:=first|decide|rfl) only [again_nil,again_skip,again_free]
    have q3:Kp X2 (X2.add [iv s]):=Kp.refl.add
    obtain ⟨b4,hb4_⟩:∃ z,z = X2.nx:=⟨_,rfl⟩
    have gb43:(X2.add [iv s]).bl.get b4 = some (.cells [iv s] b4 false):=by subst hb4_; exact ag_eq rfl
    have nb43:b4 < (X2.add [iv s]).nx:=by show b4 < X2.nx + 1; omega
    rw [← hb4_]
    generalize X2.add [iv s] = X3 at q3 gb43 nb43 ⊢
    have k3:=k2.trans q3
    have hA3:=hA2.mono q3
    have leA3:X1.nx ≤ X3.nx:=Nat.le_trans q2.1 q3.1
    have gb103:=(q3.get nb102).trans gb102
    have nb103:=Nat.lt_of_lt_of_le nb102 q3.1
    simp (disch:=first|omega|decide) only [rUz,rMz,infoL,Nat.reduceSub]
    refine dm_one rfl rfl ?_
    refine dmW_appC2 (lo:=X1.nx) (F:=X1.nx) (v:=vA) (cs:=a.map fun n=>[iv n]) (bx:=b4) (cx:=1) rfl rfl slI uI (by simp (disch:=first|omega|decide) only [rUz,rMz,infoL,Nat.reduceSub]) (by simp (disch:=first|omega|decide) only [rUz,rMz,infoL,Nat.reduceSub]) hA3 leA3 s3' rfl gb43 nI hlA2 (Nat.le_of_ble_eq_true rfl) ?_
    intro wA X4 hR4 hS4 keep4
    have k4:Kp R0 X4:=hS4.kp k1.1 k3
    refine ⟨?_,?_⟩
    ·try simp (disch:=first|decide|rfl) only [again_nil,again_skip,again_free]
     rw [again_same (v:=ub) (by simp (disch:=first|omega|decide) only [rUz,rDz,infoL,Nat.reduceSub,t16,(k4.get n16).trans hb16R,fieldAddr_ptr frU1 lI,qI]) ueB]
     try simp (disch:=first|decide|rfl) only [again_nil,again_skip,again_free]
    have ne10:b10 ≠ X1.nx:=by have:=nb101; omega
    have gb104:=keep4 _ _ _ _ nb103 gb103 ne10
    have nb104:b10 < X4.nx:=Nat.lt_of_lt_of_le nb103 hS4.1
    simp (disch:=first|omega|decide) only [rUz,rMz,infoL,Nat.reduceSub]
    refine dm_one rfl rfl ?_
    refine dmW_brings (fid:=29) (first:=#[]) (captured:=#[]) (Post:=fun u h'=>AppC X4.nx h' 1 u (b.map fun n=>[iv n]) X4.nx) rfl rfl (by simp (disch:=first|omega|decide) only [rUz,rMz,infoL,Nat.reduceSub]) (hoff _ _ _ rfl) (by simp (disch:=first|omega|decide) only [rUz,rMz,infoL,Nat.reduceSub]; exact listC_y S X4 ub b ((osR.kp k4).xb.at) hlB) (Nat.le_of_ble_eq_true rfl) ?_
    intro vB X5 q5 hB5
    have k5:=k4.trans q5
    refine ⟨?_,?_⟩
    ·try simp (disch:=first|decide|rfl) only [again_nil,again_skip,again_free]
    have gb105:=(q5.get nb104).trans gb104
    have nb105:=Nat.lt_of_lt_of_le nb104 q5.1
    have hR5:=hR4.kp q5
    simp (disch:=first|omega|decide) only [rUz,rMz,infoL,Nat.reduceSub]
    refine dm_one rfl rfl ?_
    refine dmW_appC2 (lo:=X4.nx) (F:=X4.nx) (v:=vB) (cs:=b.map fun n=>[iv n]) (bx:=b10) (cx:=1) rfl rfl slI uI (by simp (disch:=first|omega|decide) only [rUz,rMz,infoL,Nat.reduceSub]) (by simp (disch:=first|omega|decide) only [rUz,rMz,infoL,Nat.reduceSub]) hB5 q5.1 s3' rfl gb105 nI hlB2 (Nat.le_of_ble_eq_true rfl) ?_
    intro wB X6 hR6 hS6 keep6
    have k6:Kp R0 X6:=hS6.kp k4.1 k5
    refine ⟨?_,?_⟩
    ·try simp (disch:=first|decide|rfl) only [again_nil,again_skip,again_free]
    have hRA:=RNew.smB hR4 q5 hS6 (Nat.le_refl _)
    obtain ⟨a1,a2,a3,ha_⟩:=hRA.sl
    obtain ⟨e1,e2,e3,hb_⟩:=hR6.sl
    subst ha_ hb_
    have f24X:=(k6.fget (by omega:B24 < R0.nx)).trans f24
    simp (disch:=first|omega|decide) only [rUz,rMz,infoL,Nat.reduceSub,rd_build,List.map_cons,List.map_nil,brU]
    refine dm_one rfl rfl ?_
    refine dmW_alloc (r:=B24) (z:=.agg ⟨[nl,nl]⟩) rfl zrU f24X (Nat.le_of_ble_eq_true rfl) ?_ ?_
    ·try simp (disch:=first|decide|rfl) only [again_nil,again_skip,again_free]
     rw [again_same (v:=ub) (by simp (disch:=first|omega|decide) only [rUz,rDz,infoL,Nat.reduceSub,t16,putAt_ne,(k6.get n16).trans hb16R,fieldAddr_ptr frU1 lI,qI]) ueB]
     try simp (disch:=first|decide|rfl) only [again_nil,again_skip,again_free]
     rw [again_same (v:=ua) (by simp (disch:=first|omega|decide) only [rUz,rDz,infoL,Nat.reduceSub,t16,putAt_ne,(k6.get n16).trans hb16R,fieldAddr_ptr frU0 lI,qI]) ueA]
     try simp (disch:=first|decide|rfl) only [again_nil,again_skip,again_free]
    simp (disch:=first|omega|decide) only [rUz,rMz,infoL,Nat.reduceSub]
    refine dm_one rfl rfl ?_
    refine dmW_none rfl rfl (aw_storeN (B:=B24) (ls:=[.slice a1 a2 a3,.slice e1 e2 e3]) (by simp (disch:=first|omega|decide) only [rUz,rMz,infoL,Nat.reduceSub]) (by simp (disch:=first|omega|decide) only [rUz,rMz,infoL,Nat.reduceSub]) srU (by omega) rfl (by simp (disch:=first|omega|decide) only [putAt_eq]; rfl) (by simp (disch:=first|omega|decide) only [putAt_fe]; rfl) rfl) ?_ ?_
    ·try simp (disch:=first|decide|rfl) only [again_nil,again_skip,again_free]
    simp (disch:=first|omega|decide) only [rUz,rMz,infoL,Nat.reduceSub]
    have loa:R0.nx ≤ X1.nx:=k1.1
    have lob:R0.nx ≤ X4.nx:=k4.1
    refine hJ _ _ (.slice a1 a2 a3) (.slice e1 e2 e3) B24 (((kR.trans k6).putAt (by omega)).upd (by omega)) ?_ (upd_eq _ _ _) ?_ ?_ ⟨⟨?_,?_,?_,?_,?_,?_⟩,?_,?_⟩ ?_ ?_
    ·refine ⟨hB16lt,?_⟩; show B24 < X6.nx; have:=k6.1; omega
    ·rw [List.map_append]; exact ((hRA.putAt (r:=B24) (by omega)).upd (by omega)).slX (by omega) (by omega) (by omega)
    ·rw [List.map_append]; exact ((hR6.putAt (r:=B24) (by omega)).upd (by omega)).slX (by omega) (by omega) (by omega)
    all_goals (first|rfl|(simp (disch:=first|omega|decide) only [rUz,t0,t1,t2,t6,t7,t8,t16,t17,t23]; done)|(simp (disch:=first|omega|decide) only [rUz,t0,t1,t2,t6,t7,t8,t16,t17,t23]; rfl))
   ·skip
    refine dmW_some (v:=.slice (some ⟨X1.nx,0,none⟩) 1 1) (h':=X1.add [iv s]) rfl rfl (aw_lit1 slI s3' z3 rfl (by omega) (u:=iv s) (l:=[iv s]) (by simp (disch:=first|omega|decide) only [rUz,rMz,infoL,Nat.reduceSub]) rfl rfl) (Nat.le_of_ble_eq_true rfl) ?_ ?_
    ·have k2:Kp R0 (X1.add [iv s]):=k1.add
     try simp (disch:=first|decide|rfl) only [again_nil,again_skip,again_free]
     rw [again_same (v:=ub) (by simp (disch:=first|omega|decide) only [rUz,rDz,infoL,Nat.reduceSub,t16,(k2.get n16).trans hb16R,fieldAddr_ptr frU1 lI,qI]) ueB]
     try simp (disch:=first|decide|rfl) only [again_nil,again_skip,again_free]
     rw [again_same (v:=ua) (by simp (disch:=first|omega|decide) only [rUz,rDz,infoL,Nat.reduceSub,t16,(k2.get n16).trans hb16R,fieldAddr_ptr frU0 lI,qI]) ueA]
     try simp (disch:=first|decide|rfl) only [again_nil,again_skip,again_free]
    have q2:Kp X1 (X1.add [iv s]):=Kp.refl.add
    obtain ⟨b4,hb4_⟩:∃ z,z = X1.nx:=⟨_,rfl⟩
    have gb42:(X1.add [iv s]).bl.get b4 = some (.cells [iv s] b4 false):=by subst hb4_; exact ag_eq rfl
    have nb42:b4 < (X1.add [iv s]).nx:=by show b4 < X1.nx + 1; omega
    rw [← hb4_]
    generalize X1.add [iv s] = X2 at q2 gb42 nb42 ⊢
    have k2:=k1.trans q2
    have gb102:=(q2.get nb101).trans gb101
    have nb102:=Nat.lt_of_lt_of_le nb101 q2.1
    simp (disch:=first|omega|decide) only [rUz,rMz,infoL,Nat.reduceSub]
    refine dm_one rfl rfl ?_
    refine dmW_brings (fid:=29) (first:=#[]) (captured:=#[]) (Post:=fun u h'=>AppC X2.nx h' 1 u (a.map fun n=>[iv n]) X2.nx) rfl rfl (by simp (disch:=first|omega|decide) only [rUz,rMz,infoL,Nat.reduceSub]) (hoff _ _ _ rfl) (by simp (disch:=first|omega|decide) only [rUz,rMz,infoL,Nat.reduceSub]; exact listC_y S X2 ua a ((osR.kp k2).xa.at) hlA) (Nat.le_of_ble_eq_true rfl) ?_
    intro vA X3 q3 hA3
    have k3:=k2.trans q3
    refine ⟨?_,?_⟩
    ·try simp (disch:=first|decide|rfl) only [again_nil,again_skip,again_free]
     rw [again_same (v:=ub) (by simp (disch:=first|omega|decide) only [rUz,rDz,infoL,Nat.reduceSub,t16,(k3.get n16).trans hb16R,fieldAddr_ptr frU1 lI,qI]) ueB]
     try simp (disch:=first|decide|rfl) only [again_nil,again_skip,again_free]
    have gb43:=(q3.get nb42).trans gb42
    have nb43:=Nat.lt_of_lt_of_le nb42 q3.1
    have gb103:=(q3.get nb102).trans gb102
    have nb103:=Nat.lt_of_lt_of_le nb102 q3.1
    simp (disch:=first|omega|decide) only [rUz,rMz,infoL,Nat.reduceSub]
    refine dm_one rfl rfl ?_
    refine dmW_appC2 (lo:=X2.nx) (F:=X2.nx) (v:=vA) (cs:=a.map fun n=>[iv n]) (bx:=b4) (cx:=1) rfl rfl slI uI (by simp (disch:=first|omega|decide) only [rUz,rMz,infoL,Nat.reduceSub]) (by simp (disch:=first|omega|decide) only [rUz,rMz,infoL,Nat.reduceSub]) hA3 q3.1 s3' rfl gb43 nI hlA2 (Nat.le_of_ble_eq_true rfl) ?_
    intro wA X4 hR4 hS4 keep4
    have k4:Kp R0 X4:=hS4.kp k2.1 k3
    refine ⟨?_,?_⟩
    ·try simp (disch:=first|decide|rfl) only [again_nil,again_skip,again_free]
     rw [again_same (v:=ub) (by simp (disch:=first|omega|decide) only [rUz,rDz,infoL,Nat.reduceSub,t16,(k4.get n16).trans hb16R,fieldAddr_ptr frU1 lI,qI]) ueB]
     try simp (disch:=first|decide|rfl) only [again_nil,again_skip,again_free]
    have ne10:b10 ≠ X2.nx:=by have:=nb102; omega
    have gb104:=keep4 _ _ _ _ nb103 gb103 ne10
    have nb104:b10 < X4.nx:=Nat.lt_of_lt_of_le nb103 hS4.1
    simp (disch:=first|omega|decide) only [rUz,rMz,infoL,Nat.reduceSub]
    refine dm_one rfl rfl ?_
    refine dmW_brings (fid:=29) (first:=#[]) (captured:=#[]) (Post:=fun u h'=>AppC X4.nx h' 1 u (b.map fun n=>[iv n]) X4.nx) rfl rfl (by simp (disch:=first|omega|decide) only [rUz,rMz,infoL,Nat.reduceSub]) (hoff _ _ _ rfl) (by simp (disch:=first|omega|decide) only [rUz,rMz,infoL,Nat.reduceSub]; exact listC_y S X4 ub b ((osR.kp k4).xb.at) hlB) (Nat.le_of_ble_eq_true rfl) ?_
    intro vB X5 q5 hB5
    have k5:=k4.trans q5
    refine ⟨?_,?_⟩
    ·try simp (disch:=first|decide|rfl) only [again_nil,again_skip,again_free]
    have gb105:=(q5.get nb104).trans gb104
    have nb105:=Nat.lt_of_lt_of_le nb104 q5.1
    have hR5:=hR4.kp q5
    simp (disch:=first|omega|decide) only [rUz,rMz,infoL,Nat.reduceSub]
    refine dm_one rfl rfl ?_
    refine dmW_appC2 (lo:=X4.nx) (F:=X4.nx) (v:=vB) (cs:=b.map fun n=>[iv n]) (bx:=b10) (cx:=1) rfl rfl slI uI (by simp (disch:=first|omega|decide) only [rUz,rMz,infoL,Nat.reduceSub]) (by simp (disch:=first|omega|decide) only [rUz,rMz,infoL,Nat.reduceSub]) hB5 q5.1 s3' rfl gb105 nI hlB2 (Nat.le_of_ble_eq_true rfl) ?_
    intro wB X6 hR6 hS6 keep6
    have k6:Kp R0 X6:=hS6.kp k4.1 k5
    refine ⟨?_,?_⟩
    ·try simp (disch:=first|decide|rfl) only [again_nil,again_skip,again_free]
    have hRA:=RNew.smB hR4 q5 hS6 (Nat.le_refl _)
    obtain ⟨a1,a2,a3,ha_⟩:=hRA.sl
    obtain ⟨e1,e2,e3,hb_⟩:=hR6.sl
    subst ha_ hb_
    have f24X:=(k6.fget (by omega:B24 < R0.nx)).trans f24
    simp (disch:=first|omega|decide) only [rUz,rMz,infoL,Nat.reduceSub,rd_build,List.map_cons,List.map_nil,brU]
    refine dm_one rfl rfl ?_
    refine dmW_alloc (r:=B24) (z:=.agg ⟨[nl,nl]⟩) rfl zrU f24X (Nat.le_of_ble_eq_true rfl) ?_ ?_
    ·try simp (disch:=first|decide|rfl) only [again_nil,again_skip,again_free]
     rw [again_same (v:=ub) (by simp (disch:=first|omega|decide) only [rUz,rDz,infoL,Nat.reduceSub,t16,putAt_ne,(k6.get n16).trans hb16R,fieldAddr_ptr frU1 lI,qI]) ueB]
     try simp (disch:=first|decide|rfl) only [again_nil,again_skip,again_free]
     rw [again_same (v:=ua) (by simp (disch:=first|omega|decide) only [rUz,rDz,infoL,Nat.reduceSub,t16,putAt_ne,(k6.get n16).trans hb16R,fieldAddr_ptr frU0 lI,qI]) ueA]
     try simp (disch:=first|decide|rfl) only [again_nil,again_skip,again_free]
    simp (disch:=first|omega|decide) only [rUz,rMz,infoL,Nat.reduceSub]
    refine dm_one rfl rfl ?_
    refine dmW_none rfl rfl (aw_storeN (B:=B24) (ls:=[.slice a1 a2 a3,.slice e1 e2 e3]) (by simp (disch:=first|omega|decide) only [rUz,rMz,infoL,Nat.reduceSub]) (by simp (disch:=first|omega|decide) only [rUz,rMz,infoL,Nat.reduceSub]) srU (by omega) rfl (by simp (disch:=first|omega|decide) only [putAt_eq]; rfl) (by simp (disch:=first|omega|decide) only [putAt_fe]; rfl) rfl) ?_ ?_
    ·try simp (disch:=first|decide|rfl) only [again_nil,again_skip,again_free]
    simp (disch:=first|omega|decide) only [rUz,rMz,infoL,Nat.reduceSub]
    have loa:R0.nx ≤ X2.nx:=k2.1
    have lob:R0.nx ≤ X4.nx:=k4.1
    refine hJ _ _ (.slice a1 a2 a3) (.slice e1 e2 e3) B24 (((kR.trans k6).putAt (by omega)).upd (by omega)) ?_ (upd_eq _ _ _) ?_ ?_ ⟨⟨?_,?_,?_,?_,?_,?_⟩,?_,?_⟩ ?_ ?_
    ·refine ⟨hB16lt,?_⟩; show B24 < X6.nx; have:=k6.1; omega
    ·rw [List.map_append]; exact ((hRA.putAt (r:=B24) (by omega)).upd (by omega)).slX (by omega) (by omega) (by omega)
    ·rw [List.map_append]; exact ((hR6.putAt (r:=B24) (by omega)).upd (by omega)).slX (by omega) (by omega) (by omega)
    all_goals (first|rfl|(simp (disch:=first|omega|decide) only [rUz,t0,t1,t2,t6,t7,t8,t16,t17,t23]; done)|(simp (disch:=first|omega|decide) only [rUz,t0,t1,t2,t6,t7,t8,t16,t17,t23]; rfl))
 clear t0 t1 t2 t6 t7 t8 t16 t17 t21 t22 t23
 try clear t
 intro t h5 ua' ub' B24 k5 ⟨h1624,hn24⟩ hb24 hxa hxb ⟨⟨t0,t1,t2,t6,t7,t8⟩,t16,t17⟩ t23 t24
 subst hJJ
 simp only [seqK_normal]
 have hb235:=(k5.get hn23).trans hb23
 have hxw5:=hxw.kp k5
 have os5:=hos.kp (k3.trans k5)
 have htok:tr.all (okTr ln) = true:=List.all_eq_true.2 fun y hy=>(Val.of_fault hfz).tok y hy
 have hf':faultZ ⟨ln,held,tr ++ [tx],dv,sp,cl⟩ = 0:=fault_of h1 h4 hok hln (by rw [List.length_append]; show tr.length + 1 ≤ 4; omega) (by rw [List.all_append,htok]; show (true && (okTr ln tx && true)) = true; rw [hokx]; rfl) hdvl hdv hspl hord hcll hcl
 have cx5:CoX B7 B8 B16 h5 ⟨vh,vw,v3,v1,v2⟩ ⟨ln,held,tr ++ [tx],dv,sp,cl⟩:=⟨os5.cx.xa,hxw5,os5.cx.xc,os5.cx.xd,os5.cx.xe⟩
 repeat refine S.seq ?_
 refine S.region ?_
 simp (disch:=first|omega|decide) only [rUz,t23,t24,hb235,hb24,part_0 pA (coV_len ln ⟨vh,vw,v3,v1,v2⟩),prUt]
 refine wr_brings (fid:=10) (first:=#[]) (captured:=#[]) (Post:=fun u _=>u = .bool (truthB ⟨ln,held,tr ++ [tx],dv,sp,cl⟩ (a ++ [s]) (b ++ [d]))) rfl (hoff _ _ _ rfl) (by simp (disch:=first|omega|decide) only [rUz]; exact istruth_y S hoff h5 ⟨vh,vw,v3,v1,v2⟩ ⟨ln,held,tr ++ [tx],dv,sp,cl⟩ cx5.at (Val.of_fault hf') ua' ub' (a ++ [s]) (b ++ [d]) (SlAt.ints hxa.at) (SlAt.ints hxb.at)) ?_
 rintro u g hkg rfl
 simp (disch:=first|omega|decide) only [rUz]
 have osG:=os5.kp hkg
 have hb23G:=(hkg.get (Nat.lt_of_lt_of_le hn23 k5.1)).trans hb235
 have hb24G:=(hkg.get hn24).trans hb24
 have cxG:=cx5.kp hkg
 have hxaG:=hxa.kp hkg
 have hxbG:=hxb.kp hkg
 clear hb23 hb235 hb24 hxw hxw5 os5 cx5 hxa hxb hos
 cases htr':truthB ⟨ln,held,tr ++ [tx],dv,sp,cl⟩ (a ++ [s]) (b ++ [d]) with
 | false =>
  repeat refine S.seq ?_
  refine S.cond (v:=false) (by first|rfl|(simp (disch:=first|omega|decide) only [rUz,↓reduceIte,Nat.reduceEqDiff,Nat.reduceAdd,htr'] <;> rfl)) (fun e=>by cases e) (fun _=>?_)
  repeat refine S.seq ?_
  refine S.skip ?_
  simp (disch:=first|omega|decide) only [rUz]
  repeat refine S.seq ?_
  refine S.region ?_
  simp (disch:=first|omega|decide) only [rUz,t17]
  refine hn (k + 1) _ _ (by omega) ⟨vt,ua,ub,tr,a,b,⟨⟨?_,?_,?_,?_,?_,?_⟩,?_,?_⟩,osG,hfz,htru,by omega,by omega⟩
  all_goals (first|rfl|(simp (disch:=first|omega|decide) only [rUz,t0,t1,t2,t6,t7,t8,t16]; done)|(simp (disch:=first|omega|decide) only [rUz,t0,t1,t2,t6,t7,t8,t16]; rfl))
 | true =>
  repeat refine S.seq ?_
  refine S.cond (v:=true) (by first|rfl|(simp (disch:=first|omega|decide) only [rUz,↓reduceIte,Nat.reduceEqDiff,Nat.reduceAdd,htr'] <;> rfl)) (fun _=>?_) (fun e=>by cases e)
  have hvu:veq (.agg ⟨[ua',ub']⟩) (.agg ⟨[ua',ub']⟩) = true:=by simp only [veq,veqA,veqL,hxaG.veq,hxbG.veq,Bool.and_self]
  have l8:=osG.l8
  have hb24Z:(g.upd B8 (coV ln ⟨vh,vw,v3,v1,v2⟩) B8).bl.get B24 = some (.cells [ua',ub'] B24 false):=by rw [upd_ne _ _ _ (by omega)]; exact hb24G
  have b16Z:(g.upd B8 (coV ln ⟨vh,vw,v3,v1,v2⟩) B8).bl.get B16 = some (.cells [ua,ub] B16 false):=by rw [upd_ne _ _ _ (by omega)]; exact osG.b16
  have f16Z:(g.upd B8 (coV ln ⟨vh,vw,v3,v1,v2⟩) B8).fams.get B16 = some [B16]:=by rw [upd_fams]; exact osG.f16
  repeat refine S.seq ?_
  refine S.drawnL [(false,0),(false,0),(true,1),(true,7)] (by kernel_rfl) (by kernel_rfl) (by kernel_rfl) ?_
  simp (disch:=first|omega|decide) only [rUz,rDz,infoL,Nat.reduceSub,t23,t24,hb23G,hb24G,part_0 pA (coV_len ln ⟨vh,vw,v3,v1,v2⟩),prUt]
  refine drW_giveN (aw_storeN (B:=B8) (ls:=coV ln ⟨vh,vw,v3,v1,v2⟩) (by simp (disch:=first|omega|decide) only [rUz,rDz,infoL,Nat.reduceSub,t8]) (by simp (disch:=first|omega|decide) only [rUz,rDz,infoL,Nat.reduceSub]) sA (by omega) rfl osG.b8 osG.dk.f8 rfl) ?_ ?_
  ·try simp (disch:=first|decide|rfl) only [again_nil,again_skip,again_free]
   rw [again_same (v:=.agg ⟨[ua',ub']⟩) (by simp (disch:=first|omega|decide) only [rUz,rDz,infoL,Nat.reduceSub,t24,hb24Z,prUt]) hvu]
   try simp (disch:=first|decide|rfl) only [again_nil,again_skip,again_free]
  simp (disch:=first|omega|decide) only [rUz,rDz,infoL,Nat.reduceSub]
  refine drW_giveN (aw_storeN (B:=B16) (ls:=[ua',ub']) (by simp (disch:=first|omega|decide) only [rUz,rDz,infoL,Nat.reduceSub,t16]) (by simp (disch:=first|omega|decide) only [rUz,rDz,infoL,Nat.reduceSub]) srU (by omega) rfl b16Z f16Z rfl) ?_ ?_
  ·try simp (disch:=first|decide|rfl) only [again_nil,again_skip,again_free]
  simp (disch:=first|omega|decide) only [rUz,rDz,infoL,Nat.reduceSub]
  repeat refine S.seq ?_
  refine S.region ?_
  simp (disch:=first|omega|decide) only [rUz,t17]
  refine hn (k + 1) _ _ (by omega) ⟨vw,ua',ub',tr ++ [tx],a ++ [s],b ++ [d],⟨⟨?_,?_,?_,?_,?_,?_⟩,?_,?_⟩,osG.next cxG hxaG hxbG,hf',htr',by rw [List.length_append]; show tr.length + 1 ≤ k + 1; omega,by omega⟩
  all_goals (first|rfl|(simp (disch:=first|omega|decide) only [rUz,t0,t1,t2,t6,t7,t8,t16]; done)|(simp (disch:=first|omega|decide) only [rUz,t0,t1,t2,t6,t7,t8,t16]; rfl))
end Go.Proofs.Cp
