import Derived.Test.YtefjnhpghgahbaaGreatCq4
import Derived.Test.YtefjnhpghgahbaaGreatEvE
/- Dates, courses, a company at work. -/
namespace Go.Proofs.Cp
open Go Go.Ev
set_option linter.unusedSimpArgs false

theorem slCr:slOf Tryz.prog 92 = some 127:=by kernel_rfl
theorem isCr:isSlTy Tryz.prog 92 = true:=by kernel_rfl
theorem slCd:slOf Tryz.prog 91 = some 127:=by kernel_rfl
theorem isCd:isSlTy Tryz.prog 91 = true:=by kernel_rfl
theorem iDt0:((Tryz.prog.info? 127).map fun ei=>(Nat.blt ei.bytes bigNat,ei.size)) = some (true,2):=by kernel_rfl
theorem iDt:∃ ei,Tryz.prog.info? 127 = some ei ∧ Nat.blt ei.bytes bigNat = true ∧ ei.size = 2:=by
 have h:=iDt0
 cases hi:Tryz.prog.info? 127 with
 | none=>rw [hi] at h; cases h
 | some ei =>
  rw [hi] at h
  simp only [Option.map_some,Option.some.injEq,Prod.mk.injEq] at h
  exact ⟨ei,rfl,h.1,h.2⟩
theorem sl_row {h:AHeap} {n:Nat} {v:Value} {cs:List (List Value)} (k:SlAt h n v cs):∃ q m z,v = .slice q m z:=by
 rcases k with ⟨_,rfl|rfl⟩|⟨b,cap,f,ro,_,rfl,_⟩
 ·exact ⟨_,_,_,rfl⟩
 ·exact ⟨_,_,_,rfl⟩
 ·exact ⟨_,_,_,rfl⟩
theorem sl_int {h:AHeap} {v:Value} {l:List Int} (k:IAt h v l):∃ q m z,v = .slice q m z:=by
 rcases k with ⟨_,rfl|rfl|⟨b,c,rfl⟩⟩|⟨b,c,f,ro,rfl,_⟩
 ·exact ⟨_,_,_,rfl⟩
 ·exact ⟨_,_,_,rfl⟩
 ·exact ⟨_,_,_,rfl⟩
 ·exact ⟨_,_,_,rfl⟩
theorem bWk0 (hs:Int) (q1 q2 q3 q4 q5:Option Addr) (a1 b1 a2 b2 a3 b3 a4 b4 a5 b5 r:Nat):rBuild Tryz.prog 122 [(0,.agg ⟨[iv hs,.slice q1 a1 b1,.slice q2 a2 b2,.slice q3 a3 b3,.slice q4 a4 b4,.slice q5 a5 b5]⟩),(1,.map (some r))] = some (.agg ⟨[iv hs,.slice q1 a1 b1,.slice q2 a2 b2,.slice q3 a3 b3,.slice q4 a4 b4,.slice q5 a5 b5,.map (some r)]⟩):=by kernel_rfl
theorem bWk {h:AHeap} {v:Vs} {c:Co} (k:CoAt h v c) (hs:Int) (r:Nat):rBuild Tryz.prog 122 [(0,.agg ⟨coV hs v⟩),(1,.map (some r))] = some (.agg ⟨wkV hs v r⟩):=by
 obtain ⟨a,b,c',d,e⟩:=v
 obtain ⟨q1,m1,z1,h1⟩:=sl_int k.held
 obtain ⟨q2,m2,z2,h2⟩:=sl_row k.tr
 obtain ⟨q3,m3,z3,h3⟩:=sl_row k.dv
 obtain ⟨q4,m4,z4,h4⟩:=sl_row k.sp
 obtain ⟨q5,m5,z5,h5⟩:=sl_row k.cl
 simp only at h1 h2 h3 h4 h5
 subst h1 h2 h3 h4 h5
 exact bWk0 hs q1 q2 q3 q4 q5 m1 z1 m2 z2 m3 z3 m4 z4 m5 z5 r
structure Crs (h:AHeap) (B:Nat) (ds:List R2):Prop where
 lt:B < h.nx
 bl:h.bl.get B = some (.cells (ds.map c2).flatten B false)
theorem Crs.kp {h h':AHeap} {B:Nat} {ds:List R2} (k:Crs h B ds) (a:Kp h h'):Crs h' B ds:=⟨Nat.lt_of_lt_of_le k.lt a.1,(a.get k.lt).trans k.bl⟩
theorem Crs.frm {h h':AHeap} {B r:Nat} {ds:List R2} (k:Crs h B ds) (a:Fr h r h') (hne:B ≠ r):Crs h' B ds:=⟨Nat.lt_of_lt_of_le k.lt a.le,(a.bl B k.lt hne).trans k.bl⟩
abbrev crV (B n:Nat):Value:=.slice (some ⟨B,0,none⟩) n n
theorem Crs.idx {B:Nat} {ds:List R2} {a:TypeId} (h1:slOf Tryz.prog a = some 127) {i:Nat} {d:R2} (hi:ds[i]? = some d) :
  rIndexAddr Tryz.prog a (crV B ds.length) (iv (i:Int)) = some (.pointer (some ⟨B,i * 2,none⟩)) ∧ partL Tryz.prog 127 (ds.map c2).flatten (i * 2) = some (.agg ⟨c2 d⟩) ∧ (ds.map c2).flatten[i * 2]? = some (iv d.1) ∧ (ds.map c2).flatten[i * 2 + 1]? = some (iv d.2):=by
 have hlt:=(List.getElem?_eq_some_iff.1 hi).1
 have hm:(ds.map c2)[i]? = some (c2 d):=by rw [List.getElem?_map,hi]; rfl
 have hsz:∀ c,c ∈ ds.map c2 → c.length = 2:=fun c hc=>by
  obtain ⟨y,_,rfl⟩:=List.mem_map.1 hc
  rfl
 obtain ⟨u4,u5⟩:=flat_part hsz hm
 have g0:=flat_get hsz (j:=0) hm (x:=iv d.1) rfl
 rw [Nat.add_zero] at g0
 refine ⟨?_,part_at pDt u4 (Nat.ble_eq_true_of_le (by show i * 2 + 2 ≤ _; exact u5)),g0,flat_get hsz (j:=1) hm rfl⟩
 rw [indexAddr_sl h1 sDt hlt,Nat.zero_add]

variable {pr:Prim} {R:ExT}
set_option maxHeartbeats 8000000 in
theorem dates_y (S:Ev.Steps Tryz.prog pr R) (hoff:Off pr) (h0:AHeap) (v:Vs) (c:Co) (hc:CoAt h0 v c) (hsz:(c.cl.length:Int) ≤ 1000000) (s d:Int) :
  Brings Tryz.prog R 86 [.agg ⟨coV c.hs v⟩,iv s,iv d] h0 fun u _=>u = .agg ⟨c2 (s,regP c.cl d)⟩:=by
 refine brings_of (fn:=Tryz.f86) (c:=(Tryz.f86.body).getD .skip) (by kernel_rfl) rfl (by kernel_rfl) rfl (fun K hK=>?_)
 generalize hF:finish Tryz.prog Tryz.f86 K = KF
 simp only [Tryz.f86,Option.getD_some,argsT,setArgs,fV1_eq,T.setK_eq,id]
 repeat refine S.seq ?_
 refine S.region ?_
 simp (disch:=first|omega|decide) only [rUz,wr_alloc zDt]
 obtain ⟨B3,hB3⟩:∃ x,x = h0.nx:=⟨_,rfl⟩
 obtain ⟨B6,hB6⟩:∃ x,x = h0.nx + 1:=⟨_,rfl⟩
 have hb3:((h0.add (coV c.hs v)).add [iv 0,iv 0]).bl.get B3 = some (.cells (coV c.hs v) B3 false):=by simp (disch:=first|omega|(simp only [nZ] <;> omega)|decide) only [ag_ne]; subst hB3; exact ag_eq rfl
 have hb6:((h0.add (coV c.hs v)).add [iv 0,iv 0]).bl.get B6 = some (.cells [iv 0,iv 0] B6 false):=by subst hB6; exact ag_eq rfl
 have hf6:((h0.add (coV c.hs v)).add [iv 0,iv 0]).fams.get B6 = some [B6]:=by subst hB6; exact af_eq rfl
 have hk1:Kp h0 ((h0.add (coV c.hs v)).add [iv 0,iv 0]):=Kp.refl.add.add
 have hn6:B6 < ((h0.add (coV c.hs v)).add [iv 0,iv 0]).nx:=by show B6 < h0.nx + 2; omega
 have o6:h0.nx ≤ B6:=by omega
 rw [← hB6,← hB3]
 generalize (h0.add (coV c.hs v)).add [iv 0,iv 0] = H at hb3 hb6 hf6 hk1 hn6 ⊢
 repeat refine S.seq ?_
 refine S.region ?_
 simp (disch:=first|omega|decide) only [rUz,hb3,part_0 pB (coV_len c.hs v)]
 refine wr_brings (fid:=46) (first:=#[]) (captured:=#[]) (Post:=fun u _=>u = iv (regP c.cl d)) rfl (hoff _ _ _ rfl) (by simp (disch:=first|omega|decide) only [rUz]; exact open_y S hoff _ v c (hc.mono hk1) hsz d) ?_
 rintro u g hkg rfl
 have hb6g:=(hkg.get hn6).trans hb6
 have hf6g:=(hkg.fget hn6).trans hf6
 simp (disch:=first|omega|decide) only [rUz,rd_build,List.map_cons,List.map_nil,bDt]
 refine wr_storeN (B:=B6) (c:=[iv 0,iv 0]) (fam:=B6) (k:=B6) (l:=[iv s,iv (regP c.cl d)]) (by simp (disch:=first|omega|decide) only [rUz]) (by simp (disch:=first|omega|decide) only [rUz]) sDt (by omega) rfl hb6g hf6g rfl ?_
 have pd:partL Tryz.prog 127 [iv s,iv (regP c.cl d)] 0 = some (.agg ⟨[iv s,iv (regP c.cl d)]⟩):=part_0 (l:=[iv s,iv (regP c.cl d)]) pDt rfl
 simp (disch:=first|omega|decide) only [rUz]
 refine S.ret ?_
 try simp only [seqK_ret,blockK_ret]
 subst hF
 simp only [finish,endMarks]
 rw [show Tryz.f86.results.toList = [.cell 6 127] from rfl]
 simp (disch:=first|omega|decide) only [resA,ev_tmp,tget_ne,tget_eq,get_ne,get_eq,upd_eq,upd_ne,ag_eq,ag_ne,result1,pd]
 exact hK _ _ ((hk1.trans hkg).upd o6) rfl

def datesL (c:Co) (a b:List Int):List R2:=List.zipWith (fun s d=>(s,regP c.cl d)) a b
theorem datesL_len {c:Co} {a b:List Int} {n:Nat} (ha:a.length = n) (hb:b.length = n):(datesL c a b).length = n:=by
 unfold datesL; rw [List.length_zipWith]; omega
theorem datesL_get {c:Co} {a b:List Int} {i:Nat} {s d:Int} (ha:a[i]? = some s) (hb:b[i]? = some d):(datesL c a b)[i]? = some (s,regP c.cl d):=by
 unfold datesL
 rw [List.getElem?_zipWith,ha,hb]
def fillD (ds:List R2) (n:Nat):Nat → List R2
 | 0=>List.replicate n (0,0)
 | k + 1=>(fillD ds n k).set k (ds.getD k (0,0))
theorem fillD_len (ds:List R2) (n:Nat):∀ k,(fillD ds n k).length = n
 | 0=>by rw [fillD,List.length_replicate]
 | k + 1=>by rw [fillD,List.length_set,fillD_len ds n k]
theorem fillD_get (ds:List R2) (n:Nat):∀ k i,i < k → k ≤ n → (fillD ds n k)[i]? = some (ds.getD i (0,0))
 | k + 1,i,h1,h2=>by
  rw [fillD,List.getElem?_set]
  by_cases h:k = i
  ·subst h
   rw [if_pos rfl,if_pos (by rw [fillD_len]; omega)]
  ·rw [if_neg h]
   exact fillD_get ds n k i (by omega) (by omega)
theorem fillD_all {ds:List R2} {n:Nat} (h:ds.length = n):fillD ds n n = ds:=by
 refine List.ext_getElem? fun i=>?_
 by_cases hi:i < n
 ·rw [fillD_get ds n n i hi (Nat.le_refl _),List.getD_eq_getElem?_getD,List.getElem?_eq_getElem (by omega)]; rfl
 ·rw [List.getElem?_eq_none (by rw [fillD_len]; omega),List.getElem?_eq_none (by omega)]

structure ICo (ds:List R2) (n B2 B3 B5:Nat) (H:AHeap) (k:Nat) (t:T Value) (h:AHeap):Prop where
 fr:Fr H B5 h
 t2:tget t 2 = ptr0 B2
 t3:tget t 3 = ptr0 B3
 t5:tget t 5 = crV B5 n
 t12:tget t 12 = iv (n:Int)
 t13:tget t 13 = iv (k:Int)
 hk:k ≤ n
 b5:h.bl.get B5 = some (.cells ((fillD ds n k).map c2).flatten B5 false)
set_option maxHeartbeats 16000000 in
theorem course_y (S:Ev.Steps Tryz.prog pr R) (hoff:Off pr) (h0:AHeap) (v:Vs) (c:Co) (hc:CoAt h0 v c) (hcl:(c.cl.length:Int) ≤ 1000000) (ht:c.tr.length ≤ 7) (ua ub:Value) (a b:List Int) (hua:IAt h0 ua a) (hub:IAt h0 ub b) (hla:a.length = c.tr.length) (hlb:b.length = c.tr.length) :
  Brings Tryz.prog R 62 [.agg ⟨coV c.hs v⟩,.agg ⟨[ua,ub]⟩] h0 fun u h=>∃ B,u = crV B c.tr.length ∧ h0.nx ≤ B ∧ Crs h B (datesL c a b):=by
 refine brings_of (fn:=Tryz.f62) (c:=(Tryz.f62.body).getD .skip) (by kernel_rfl) rfl (by kernel_rfl) rfl (fun K hK=>?_)
 generalize hF:finish Tryz.prog Tryz.f62 K = KF
 simp only [Tryz.f62,Option.getD_some,argsT,setArgs,fV1_eq,T.setK_eq,id]
 repeat refine S.seq ?_
 refine S.region ?_
 simp (disch:=first|omega|decide) only [rUz]
 obtain ⟨B2,hB2⟩:∃ x,x = h0.nx:=⟨_,rfl⟩
 obtain ⟨B3,hB3⟩:∃ x,x = h0.nx + 1:=⟨_,rfl⟩
 have hb2:((h0.add (coV c.hs v)).add [ua,ub]).bl.get B2 = some (.cells (coV c.hs v) B2 false):=by simp (disch:=first|omega|(simp only [nZ] <;> omega)|decide) only [ag_ne]; subst hB2; exact ag_eq rfl
 have hb3:((h0.add (coV c.hs v)).add [ua,ub]).bl.get B3 = some (.cells [ua,ub] B3 false):=by subst hB3; exact ag_eq rfl
 have hk1:Kp h0 ((h0.add (coV c.hs v)).add [ua,ub]):=Kp.refl.add.add
 have hn3:B3 < ((h0.add (coV c.hs v)).add [ua,ub]).nx:=by show B3 < h0.nx + 2; omega
 have o2:h0.nx ≤ B2:=by omega
 have o3:B2 < B3:=by omega
 rw [← hB3,← hB2]
 generalize (h0.add (coV c.hs v)).add [ua,ub] = H at hb2 hb3 hk1 hn3 ⊢
 clear hB2 hB3
 have l2:=fun t h1 o=>row_len (SlAt.mono hc.tr hk1) iscT t h1 o
 obtain ⟨ei,i1,i2,i3⟩:=iDt
 repeat refine S.seq ?_
 refine S.region ?_
 simp (disch:=first|omega|decide) only [rUz,hb2,fieldAddr_ptr fB2 lcT,qcT,co2,l2,w_makeSlice]
 refine wr_makeRows (k:=c.tr.length) (sz:=2) slCr i1 zDt i2 i3 rfl (by simp (disch:=first|omega|decide) only [rUz]) (by simp (disch:=first|omega|decide) only [rUz]) (by omega) ?_
 have hrep:(List.replicate c.tr.length (Value.cells (.agg ⟨[iv 0,iv 0]⟩)).toList).flatten = ((fillD (datesL c a b) c.tr.length 0).map c2).flatten:=by
  rw [fillD,List.map_replicate]; rfl
 rw [hrep]
 obtain ⟨B5,hB5⟩:∃ x,x = H.nx:=⟨_,rfl⟩
 have hk5:Kp H (H.add ((fillD (datesL c a b) c.tr.length 0).map c2).flatten):=Kp.refl.add
 have hb5:(H.add ((fillD (datesL c a b) c.tr.length 0).map c2).flatten).bl.get B5 = some (.cells ((fillD (datesL c a b) c.tr.length 0).map c2).flatten B5 false):=by subst hB5; exact ag_eq rfl
 have hf5:(H.add ((fillD (datesL c a b) c.tr.length 0).map c2).flatten).fams.get B5 = some [B5]:=by subst hB5; exact af_eq rfl
 have hn5:B5 < (H.add ((fillD (datesL c a b) c.tr.length 0).map c2).flatten).nx:=by show B5 < H.nx + 1; omega
 have o5:B3 < B5:=by omega
 rw [← hB5]
 generalize H.add ((fillD (datesL c a b) c.tr.length 0).map c2).flatten = G at hk5 hb5 hf5 hn5 ⊢
 clear hB5
 have hkG:=hk1.trans hk5
 have hb2g:=(hk5.get (by omega:B2 < H.nx)).trans hb2
 have hb3g:=(hk5.get hn3).trans hb3
 have lcr:∀ (t:T Value) (h1:AHeap) (o:Oper),rLen Tryz.prog t h1 o 92 (crV B5 c.tr.length) = some (iv (c.tr.length:Int)):=fun t h1 o=>len_sl isCr
 simp (disch:=first|omega|decide) only [rUz]
 repeat refine S.seq ?_
 refine S.region ?_
 simp (disch:=first|omega|decide) only [rUz,lcr]
 repeat refine S.seq ?_
 refine S.block ?_
 refine S.loop (ι:=Nat) (ICo (datesL c a b) c.tr.length B2 B3 B5 G) (fun k=>c.tr.length - k) ?_ 0 _ _ ?_
 rotate_left
 ·refine ⟨Fr.refl,?_,?_,?_,?_,?_,Nat.zero_le _,hb5⟩
  all_goals (first|rfl|(simp (disch:=first|omega|decide) only [rUz]; done)|(simp (disch:=first|omega|decide) only [rUz]; rfl))
 intro k t h ⟨hfr,t2,t3,t5,t12,t13,hk,hb5h⟩ K' hn he
 have hkp:=hfr.toKp hkG (by omega)
 repeat refine S.seq ?_
 refine S.region ?_
 simp (disch:=first|omega|decide) only [rUz,t12,t13]
 repeat refine S.seq ?_
 refine S.cond (v:=decide ((k:Int) < (c.tr.length:Int))) (by first|rfl|(simp (disch:=first|omega|decide) only [rUz,↓reduceIte,Nat.reduceEqDiff,Nat.reduceAdd] <;> rfl)) (fun e=>?_) (fun e=>?_)
 rotate_left
 ·have hkn:k = c.tr.length:=by have:=of_decide_eq_false e; omega
  subst hkn
  rw [fillD_all (datesL_len hla hlb)] at hb5h
  refine S.exit (he _ _ _ _ (fun e=>by cases e) ?_)
  simp (disch:=first|omega|decide) only [rUz]
  repeat refine S.seq ?_
  refine S.region ?_
  simp (disch:=first|omega|decide) only [rUz,t5]
  refine S.ret ?_
  try simp only [seqK_ret,blockK_ret]
  subst hF
  simp only [finish,endMarks]
  rw [show Tryz.f62.results.toList = [.tmp 4] from rfl]
  simp (disch:=first|omega|decide) only [resA,ev_tmp,tget_ne,tget_eq,get_ne,get_eq,upd_eq,upd_ne,ag_eq,ag_ne,result1]
  exact hK _ _ hkp ⟨B5,rfl,by omega,Nat.lt_of_lt_of_le hn5 hfr.le,hb5h⟩
 have hkn:k < c.tr.length:=by have:=of_decide_eq_true e; omega
 clear e
 have hka:k < a.length:=by omega
 have hkb:k < b.length:=by omega
 obtain ⟨ba,fa,ra,a1,a2,a3,a4⟩:=(hua.mono hkp).idx slI s3' hka
 obtain ⟨bb,fb,rb,d1,d2,d3,d4⟩:=(hub.mono hkp).idx slI s3' hkb
 have hdg:(datesL c a b).getD k (0,0) = (a[k],regP c.cl b[k]):=by
  rw [List.getD_eq_getElem?_getD,datesL_get (List.getElem?_eq_getElem hka) (List.getElem?_eq_getElem hkb)]; rfl
 generalize a[k] = s at a4 hdg
 generalize b[k] = d at d4 hdg
 have hb2h:=(hfr.bl B2 (by have:=hk5.1; omega) (by omega)).trans hb2g
 have hb3h:=(hfr.bl B3 (by have:=hk5.1; omega) (by omega)).trans hb3g
 have hf5h:=(hfr.fam B5 hn5).trans hf5
 have hnh:B5 < h.nx:=Nat.lt_of_lt_of_le hn5 hfr.le
 have ia:rIndexAddr Tryz.prog 92 (crV B5 c.tr.length) (iv (k:Int)) = some (.pointer (some ⟨B5,k * 2,none⟩)):=by
  rw [indexAddr_sl slCr sDt hkn,Nat.zero_add]
 have hve:=veq_co (hc.mono hkp) c.hs
 repeat refine S.seq ?_
 refine S.skip ?_
 simp (disch:=first|omega|decide) only [rUz]
 repeat refine S.seq ?_
 refine S.block ?_
 repeat refine S.seq ?_
 refine S.region ?_
 simp (disch:=first|omega|decide) only [rUz,t13]
 repeat refine S.seq ?_
 refine S.drawnL [(false,0),(false,0),(false,0),(false,0),(false,8),(false,0),(false,56),(false,120),(false,0),(false,256),(false,0),(false,1792),(false,3840),(true,8188),(false,16383),(true,32767)] (by kernel_rfl) (by kernel_rfl) (by kernel_rfl) ?_
 simp (disch:=first|omega|decide) only [rUz,rDz,infoL,Nat.reduceSub,t2,t3,t5,t13,hb2h,hb3h,part_0 pB (coV_len c.hs v),fieldAddr_ptr fcU0 lI,fieldAddr_ptr fcU1 lI,qI,p3,a1,a3,a4,d1,d3,d4]
 refine drW_brings (fid:=86) (first:=#[]) (captured:=#[]) (Post:=fun u _=>u = .agg ⟨c2 (s,regP c.cl d)⟩) rfl (hoff _ _ _ rfl) (by simp (disch:=first|omega|decide) only [rUz]; exact dates_y S hoff _ v c (hc.mono hkp) hcl s d) (Nat.le_of_ble_eq_true rfl) ?_
 rintro u g hkg rfl
 have hb5g:=(hkg.get hnh).trans hb5h
 have hf5g:=(hkg.fget hnh).trans hf5h
 refine ⟨?_,?_⟩
 ·try simp (disch:=first|decide|rfl) only [again_nil,again_skip,again_free]
 simp (disch:=first|omega|decide) only [rUz,rDz,infoL,Nat.reduceSub,ia]
 have hlen:k * 2 + 2 ≤ (((fillD (datesL c a b) c.tr.length k).map c2).flatten).length:=by
  have:∀ l:List R2,((l.map c2).flatten).length = l.length * 2:=fun l=>by
   induction l with
   | nil=>rfl
   | cons y l ih=>rw [List.map_cons,List.flatten_cons,List.length_append,ih,c2_len,List.length_cons]; omega
  rw [this,fillD_len]; omega
 refine drW_giveN (aw_storeR (B:=B5) (off:=k * 2) (ls:=c2 (s,regP c.cl d)) (by simp (disch:=first|omega|decide) only [rUz,rDz,infoL,Nat.reduceSub]) (by simp (disch:=first|omega|decide) only [rUz,rDz,infoL,Nat.reduceSub]) sDt (by omega) rfl hb5g hf5g hlen) ?_ ?_
 ·try simp (disch:=first|decide|rfl) only [again_nil,again_skip,again_free]
 rw [flat_set2 c2_len _ _ _ (by rw [fillD_len]; exact hkn)]
 simp (disch:=first|omega|decide) only [rUz,rDz,infoL,Nat.reduceSub]
 repeat refine S.seq ?_
 refine S.region ?_
 simp (disch:=first|omega|decide) only [rUz,t13]
 refine hn (k + 1) _ _ (by omega) ⟨(hfr.kp hkg).upd,?_,?_,?_,?_,?_,by omega,?_⟩
 ·simp (disch:=first|omega|decide) only [rUz,t2]
 ·simp (disch:=first|omega|decide) only [rUz,t3]
 ·simp (disch:=first|omega|decide) only [rUz,t5]
 ·simp (disch:=first|omega|decide) only [rUz,t12]
 ·simp (disch:=first|omega|decide) only [rUz]
 ·rw [upd_eq,fillD,hdg]

set_option maxHeartbeats 8000000 in
theorem begin_y (S:Ev.Steps Tryz.prog pr R) (h0:AHeap) (v:Vs) (c:Co) (hc:CoAt h0 v c) :
  Brings Tryz.prog R 48 [.agg ⟨coV c.hs v⟩] h0 fun u h=>∃ Bw r,u = ptr0 Bw ∧ h0.nx ≤ r ∧ h0.nx ≤ Bw ∧ WAt h Bw r v c:=by
 refine brings_of (fn:=Tryz.f48) (c:=(Tryz.f48.body).getD .skip) (by kernel_rfl) rfl (by kernel_rfl) rfl (fun K hK=>?_)
 generalize hF:finish Tryz.prog Tryz.f48 K = KF
 simp only [Tryz.f48,Option.getD_some,argsT,setArgs,fV1_eq,T.setK_eq,id]
 repeat refine S.seq ?_
 refine S.region ?_
 simp (disch:=first|omega|decide) only [rUz]
 have hb1:(h0.add (coV c.hs v)).bl.get h0.nx = some (.cells (coV c.hs v) h0.nx false):=ag_eq rfl
 have hk1:Kp h0 (h0.add (coV c.hs v)):=Kp.refl.add
 have hbw:=bWk hc c.hs (h0.nx + 1)
 repeat refine S.seq ?_
 refine S.region ?_
 simp (disch:=first|omega|decide) only [rUz,hb1,part_0 pB (coV_len c.hs v),w_makeMap,wr_mkmap,rd_build,List.map_cons,List.map_nil,hbw]
 obtain ⟨Bw,hBw⟩:∃ x,x = h0.nx + 1 + 1:=⟨_,rfl⟩
 refine S.ret ?_
 try simp only [seqK_ret,blockK_ret]
 subst hF
 simp only [finish,endMarks]
 rw [show Tryz.f48.results.toList = [.tmp 2] from rfl]
 simp (disch:=first|omega|decide) only [resA,ev_tmp,tget_ne,tget_eq,get_ne,get_eq,upd_eq,upd_ne,ag_eq,ag_ne,result1]
 have kz:Kp (h0.add (coV c.hs v)) (⟨T.set ((h0.add (coV c.hs v)).nx + 1) (h0.add (coV c.hs v)).bl (h0.add (coV c.hs v)).nx (.map [] 0),(h0.add (coV c.hs v)).nx + 1,(h0.add (coV c.hs v)).fams⟩:AHeap):=⟨Nat.le_succ _,fun k hk=>⟨get_ne (by omega) (by omega),rfl⟩⟩
 have kA:=(hk1.trans kz).add (c:=wkV c.hs v (h0.nx + 1))
 refine hK _ _ kA ⟨h0.nx + 1 + 1,h0.nx + 1,rfl,by omega,by omega,ag_eq rfl,Nat.lt_succ_self _,?_,by omega,hc.mono kA,[],?_,fun e he=>by cases he⟩
 ·show h0.nx + 1 < h0.nx + 1 + 1 + 1; omega
 ·rw [ag_ne (by show h0.nx + 1 ≠ h0.nx + 1 + 1; omega)]
  exact get_eq (Nat.lt_succ_self _)
end Go.Proofs.Cp
