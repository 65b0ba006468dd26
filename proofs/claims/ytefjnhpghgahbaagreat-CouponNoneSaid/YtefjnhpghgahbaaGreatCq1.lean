import Derived.Test.YtefjnhpghgahbaaGreatCm5
import Derived.Test.YtefjnhpghgahbaaGreatEvE
/- The program's factors: over, units; what is by a day. -/
namespace Go.Proofs.Cp
open Go Go.Ev
set_option linter.unusedSimpArgs false

/-! ## Types -/
theorem fF0:fieldOf Tryz.prog 129 0 = some (0,3):=by kernel_rfl
theorem fF1:fieldOf Tryz.prog 129 1 = some (1,3):=by kernel_rfl
theorem sF:sizeB Tryz.prog 129 = some 2:=by kernel_rfl
theorem zF:zeroOf Tryz.prog 129 = some (.agg ⟨[iv 0,iv 0]⟩):=by kernel_rfl
theorem pFa (c:List Value) (o:Nat):partL Tryz.prog 129 c o = bif Nat.ble (Nat.add o 2) c.length then some (.agg ⟨(c.drop o).take 2⟩) else none:=by kernel_rfl
theorem bF (a b:Int):rBuild Tryz.prog 129 [(0,iv a),(1,iv b)] = some (.agg ⟨[iv a,iv b]⟩):=by kernel_rfl
theorem fSp0:fieldOf Tryz.prog 132 0 = some (0,3):=by kernel_rfl
theorem fSp1:fieldOf Tryz.prog 132 1 = some (1,3):=by kernel_rfl
theorem pSp (c:List Value) (o:Nat):partL Tryz.prog 132 c o = bif Nat.ble (Nat.add o 2) c.length then some (.agg ⟨(c.drop o).take 2⟩) else none:=by kernel_rfl
theorem bSp (a b:Int):rBuild Tryz.prog 132 [(0,iv a),(1,iv b)] = some (.agg ⟨[iv a,iv b]⟩):=by kernel_rfl
theorem fDt0:fieldOf Tryz.prog 127 0 = some (0,3):=by kernel_rfl
theorem fDt1:fieldOf Tryz.prog 127 1 = some (1,3):=by kernel_rfl
theorem sDt:sizeB Tryz.prog 127 = some 2:=by kernel_rfl
theorem zDt:zeroOf Tryz.prog 127 = some (.agg ⟨[iv 0,iv 0]⟩):=by kernel_rfl
theorem pDt (c:List Value) (o:Nat):partL Tryz.prog 127 c o = bif Nat.ble (Nat.add o 2) c.length then some (.agg ⟨(c.drop o).take 2⟩) else none:=by kernel_rfl
theorem bDt (a b:Int):rBuild Tryz.prog 127 [(0,iv a),(1,iv b)] = some (.agg ⟨[iv a,iv b]⟩):=by kernel_rfl

theorem set20 (a b v:Value):[a,b].set 0 v = [v,b]:=(rfl)
theorem set21 (a b v:Value):[a,b].set 1 v = [a,v]:=(rfl)
/-! ## The pure side -/
def inSp (a b:Int) (s:T3):Bool:=decide (a < s.1) && decide (s.1 ≤ b)
def ovS (a b:Int) (f:Int × Int) (s:T3):Int × Int:=bif inSp a b s then (f.1 * s.2.1,f.2 * s.2.2) else f
def overP (sp:List T3) (a b:Int):Int × Int:=sp.foldl (ovS a b) (1,1)
def roomF (f:Int × Int) (p:Nat):Prop:=1 ≤ f.1 ∧ f.1 * six p ≤ 36 ∧ 1 ≤ f.2 ∧ f.2 * six p ≤ 36
theorem roomF.le {f:Int × Int} {p:Nat} (h:roomF f p):f.1 ≤ 36 ∧ f.2 ≤ 36:=by
 have h1:f.1 * 1 ≤ f.1 * six p:=Int.mul_le_mul_of_nonneg_left (six_pos p) (by have:=h.1; omega)
 have h2:f.2 * 1 ≤ f.2 * six p:=Int.mul_le_mul_of_nonneg_left (six_pos p) (by have:=h.2.2.1; omega)
 have h3:=h.2.1
 have h4:=h.2.2.2
 omega
theorem mul6 {x n:Int} {p:Nat} (hx:1 ≤ x) (h:x * six (p + 1) ≤ 36) (h1:1 ≤ n) (h6:n ≤ 6):1 ≤ x * n ∧ (x * n) * six p ≤ 36:=by
 have e1:x * 1 ≤ x * n:=Int.mul_le_mul_of_nonneg_left h1 (by omega)
 have e2:x * n ≤ x * 6:=Int.mul_le_mul_of_nonneg_left h6 (by omega)
 have e3:(x * n) * six p ≤ (x * 6) * six p:=Int.mul_le_mul_of_nonneg_right e2 (by have:=six_pos p; omega)
 rw [Int.mul_assoc x 6,show 6 * six p = six (p + 1) from rfl] at e3
 omega
theorem roomF.step {a b:Int} {f:Int × Int} {p:Nat} {s:T3} (h:roomF f (p + 1)) (hs:1 ≤ s.2.1 ∧ s.2.1 ≤ 6 ∧ 1 ≤ s.2.2 ∧ s.2.2 ≤ 4):roomF (ovS a b f s) p:=by
 unfold ovS
 cases inSp a b s with
 | true =>
  have h1:=mul6 h.1 h.2.1 hs.1 hs.2.1
  have h2:=mul6 h.2.2.1 h.2.2.2 hs.2.2.1 (by omega:s.2.2 ≤ 6)
  exact ⟨h1.1,h1.2,h2.1,h2.2⟩
 | false =>
  have e1:f.1 * six (p + 1) = 6 * (f.1 * six p):=by rw [six,← Int.mul_assoc,Int.mul_comm f.1 6,Int.mul_assoc]
  have e2:f.2 * six (p + 1) = 6 * (f.2 * six p):=by rw [six,← Int.mul_assoc,Int.mul_comm f.2 6,Int.mul_assoc]
  have h1:=h.2.1
  have h2:=h.2.2.2
  have p1:0 ≤ f.1 * six p:=Int.mul_nonneg (by have:=h.1; omega) (by have:=six_pos p; omega)
  have p2:0 ≤ f.2 * six p:=Int.mul_nonneg (by have:=h.2.2.1; omega) (by have:=six_pos p; omega)
  exact ⟨h.1,by show f.1 * six p ≤ 36; omega,h.2.2.1,by show f.2 * six p ≤ 36; omega⟩
theorem roomF.start {p:Nat} (hp:p ≤ 2):roomF (1,1) p:=by
 have h2:six p ≤ 36:=by
  rcases (by omega:p = 0 ∨ p = 1 ∨ p = 2) with rfl|rfl|rfl <;> simp only [six] <;> omega
 exact ⟨Int.le_refl _,by show 1 * six p ≤ 36; omega,Int.le_refl _,by show 1 * six p ≤ 36; omega⟩
theorem fold_room {a b:Int}:∀ (l:List T3) (f:Int × Int),okSps l → roomF f l.length → roomF (l.foldl (ovS a b) f) 0
 | [],f,_,h=>h
 | s :: l,f,ho,h=>fold_room l _ (fun x hx=>ho x (by simp [hx])) (h.step (ho s (by simp)))
theorem over_room {sp:List T3} (ho:okSps sp) (hl:sp.length ≤ 2) (a b:Int):roomF (overP sp a b) 0:=fold_room sp _ ho (roomF.start hl)

variable {pr:Prim} {R:ExT}
structure IOv (c:Co) (a b:Int) (B3 B4 B5:Nat) (H:AHeap) (sv:Value) (k:Nat) (t:T Value) (h:AHeap) (f:Int × Int):Prop where
 kp:Fr H B5 h
 t3:tget t 3 = ptr0 B3
 t4:tget t 4 = ptr0 B4
 t5:tget t 5 = ptr0 B5
 t10:tget t 10 = sv
 t11:tget t 11 = iv (c.sp.length:Int)
 t12:tget t 12 = iv (k:Int)
 hk:k ≤ c.sp.length
 b5:h.bl.get B5 = some (.cells [iv f.1,iv f.2] B5 false)
 val:overP c.sp a b = (c.sp.drop k).foldl (ovS a b) f
 room:roomF f (c.sp.length - k)
def IOx (c:Co) (a b:Int) (B3 B4 B5:Nat) (H:AHeap) (sv:Value) (k:Nat) (t:T Value) (h:AHeap):Prop:=∃ f,IOv c a b B3 B4 B5 H sv k t h f
set_option maxHeartbeats 16000000 in
theorem over_y (S:Ev.Steps Tryz.prog pr R) (h0:AHeap) (v:Vs) (c:Co) (hc:CoAt h0 v c) (hl:c.sp.length ≤ 2) (hok:okSps c.sp) (a b:Int) :
  Brings Tryz.prog R 90 [.agg ⟨coV c.hs v⟩,.agg ⟨c2 (a,b)⟩] h0 fun u _=>u = .agg ⟨[iv (overP c.sp a b).1,iv (overP c.sp a b).2]⟩:=by
 refine brings_of (fn:=Tryz.f90) (c:=(Tryz.f90.body).getD .skip) (by kernel_rfl) rfl (by kernel_rfl) rfl (fun K hK=>?_)
 generalize hF:finish Tryz.prog Tryz.f90 K = KF
 simp only [Tryz.f90,Option.getD_some,argsT,setArgs,fV1_eq,T.setK_eq,id]
 repeat refine S.seq ?_
 refine S.region ?_
 simp (disch:=first|omega|decide) only [rUz,wr_alloc zF]
 obtain ⟨B2,hB2⟩:∃ x,x = h0.nx:=⟨_,rfl⟩
 obtain ⟨B3,hB3⟩:∃ x,x = h0.nx + 1:=⟨_,rfl⟩
 obtain ⟨B4,hB4⟩:∃ x,x = h0.nx + 1 + 1:=⟨_,rfl⟩
 have hb2:(((h0.add (coV c.hs v)).add (c2 (a,b))).add [iv 0,iv 0]).bl.get B2 = some (.cells (coV c.hs v) B2 false):=by simp (disch:=first|omega|(simp only [nZ] <;> omega)|decide) only [ag_ne]; subst hB2; exact ag_eq rfl
 have hb3:(((h0.add (coV c.hs v)).add (c2 (a,b))).add [iv 0,iv 0]).bl.get B3 = some (.cells (c2 (a,b)) B3 false):=by simp (disch:=first|omega|(simp only [nZ] <;> omega)|decide) only [ag_ne]; subst hB3; exact ag_eq rfl
 have hb4:(((h0.add (coV c.hs v)).add (c2 (a,b))).add [iv 0,iv 0]).bl.get B4 = some (.cells [iv 0,iv 0] B4 false):=by subst hB4; exact ag_eq rfl
 have hf4:(((h0.add (coV c.hs v)).add (c2 (a,b))).add [iv 0,iv 0]).fams.get B4 = some [B4]:=by subst hB4; exact af_eq rfl
 have hk1:Kp h0 (((h0.add (coV c.hs v)).add (c2 (a,b))).add [iv 0,iv 0]):=Kp.refl.add.add.add
 have hn4:B4 < (((h0.add (coV c.hs v)).add (c2 (a,b))).add [iv 0,iv 0]).nx:=by show B4 < h0.nx + 3; omega
 have h04:h0.nx ≤ B4:=by omega
 rw [← hB4,← hB3,← hB2]
 generalize ((h0.add (coV c.hs v)).add (c2 (a,b))).add [iv 0,iv 0] = H at hb2 hb3 hb4 hf4 hk1 hn4 ⊢
 have hn2:B2 < H.nx:=by omega
 have hn3:B3 < H.nx:=by omega
 clear hB2 hB3
 repeat refine S.seq ?_
 refine S.region ?_
 simp (disch:=first|omega|decide) only [rUz,rd_build,w_build,List.map_cons,List.map_nil,bF,wr_alloc zF]
 refine wr_storeN (B:=H.nx) (c:=[iv 0,iv 0]) (fam:=H.nx) (k:=H.nx) (l:=[iv 1,iv 1]) (by simp (disch:=first|omega|decide) only [rUz]) (by simp (disch:=first|omega|decide) only [rUz]) sF (by omega) rfl (ag_eq rfl) (af_eq rfl) rfl ?_
 obtain ⟨B5,hB5⟩:∃ x,x = H.nx:=⟨_,rfl⟩
 have h25:B2 < B5:=by omega
 have h35:B3 < B5:=by omega
 have h45:B4 < B5:=by omega
 have hk5:Kp H ((H.add [iv 0,iv 0]).upd H.nx [iv 1,iv 1] H.nx):=Kp.refl.add.upd (Nat.le_refl _)
 have hb5:((H.add [iv 0,iv 0]).upd H.nx [iv 1,iv 1] H.nx).bl.get B5 = some (.cells [iv 1,iv 1] B5 false):=by subst hB5; exact upd_eq _ _ _
 have hf5:((H.add [iv 0,iv 0]).upd H.nx [iv 1,iv 1] H.nx).fams.get B5 = some [B5]:=by subst hB5; rw [upd_fams]; exact af_eq rfl
 have hn5:B5 < ((H.add [iv 0,iv 0]).upd H.nx [iv 1,iv 1] H.nx).nx:=by show B5 < H.nx + 1; omega
 simp (disch:=first|omega|decide) only [rUz]
 rw [← hB5] at hk5 hb5 hf5 hn5 ⊢
 generalize (H.add [iv 0,iv 0]).upd B5 [iv 1,iv 1] B5 = H5 at hk5 hb5 hf5 hn5 ⊢
 have hb2':=(hk5.get hn2).trans hb2
 have hb3':=(hk5.get hn3).trans hb3
 have hb4':=(hk5.get hn4).trans hb4
 have hf4':=(hk5.fget hn4).trans hf4
 have hkA:=hk1.trans hk5
 clear hb2 hb3 hb4 hf4 hk1 hk5 hn2 hn3 hn4
 have l4:=fun t h1 o=>row_len (SlAt.mono hc.sp hkA) iscS t h1 o
 repeat refine S.seq ?_
 refine S.region ?_
 simp (disch:=first|omega|decide) only [rUz,hb2',fieldAddr_ptr fB4 lcS,qcS,co4,l4]
 repeat refine S.seq ?_
 refine S.block ?_
 refine S.loop (ι:=Nat) (IOx c a b B3 B4 B5 H5 v.d) (fun k=>c.sp.length - k) ?_ 0 _ _ ?_
 rotate_left
 ·refine ⟨(1,1),Fr.refl,?_,?_,?_,?_,?_,?_,Nat.zero_le _,hb5,by rw [List.drop_zero]; rfl,by rw [Nat.sub_zero]; exact roomF.start hl⟩
  all_goals (first|rfl|(simp (disch:=first|omega|decide) only [rUz]; done)|(simp (disch:=first|omega|decide) only [rUz]; rfl))
 intro k t h ⟨f,hfr,t3,t4,t5,t10,t11,t12,hk,hb5h,hval,hroom⟩ K' hn he
 have hkp:=hfr.toKp hkA (by omega)
 repeat refine S.seq ?_
 refine S.region ?_
 simp (disch:=first|omega|decide) only [rUz,t11,t12]
 repeat refine S.seq ?_
 refine S.cond (v:=decide ((k:Int) < (c.sp.length:Int))) (by first|rfl|(simp (disch:=first|omega|decide) only [rUz,↓reduceIte,Nat.reduceEqDiff,Nat.reduceAdd] <;> rfl)) (fun e=>?_) (fun e=>?_)
 rotate_left
 ·have hkn:k = c.sp.length:=by have:=of_decide_eq_false e; omega
  subst hkn
  rw [List.drop_of_length_le (Nat.le_refl _)] at hval
  have hval':overP c.sp a b = f:=hval
  refine S.exit (he _ _ _ _ (fun e=>by cases e) ?_)
  simp (disch:=first|omega|decide) only [rUz]
  have hb4h:=(hfr.bl B4 (by omega) (by omega)).trans hb4'
  have hf4h:=(hfr.fam B4 (by omega)).trans hf4'
  have pf:partL Tryz.prog 129 [iv f.1,iv f.2] 0 = some (.agg ⟨[iv f.1,iv f.2]⟩):=part_0 (l:=[iv f.1,iv f.2]) pFa rfl
  repeat refine S.seq ?_
  refine S.region ?_
  simp (disch:=first|omega|decide) only [rUz,t5,hb5h,pf]
  refine wr_storeN (B:=B4) (c:=[iv 0,iv 0]) (fam:=B4) (k:=B4) (l:=[iv f.1,iv f.2]) (by simp (disch:=first|omega|decide) only [rUz,t4]) (by simp (disch:=first|omega|decide) only [rUz]) sF (by omega) rfl hb4h hf4h rfl ?_
  simp (disch:=first|omega|decide) only [rUz]
  refine S.ret ?_
  try simp only [seqK_ret,blockK_ret]
  subst hF
  simp only [finish,endMarks]
  rw [show Tryz.f90.results.toList = [.cell 4 129] from rfl]
  simp (disch:=first|omega|decide) only [resA,ev_tmp,tget_ne,tget_eq,get_ne,get_eq,upd_eq,upd_ne,ag_eq,ag_ne,result1,t4,pf]
  exact hK _ _ (hkp.upd h04) (by rw [hval'])
 have hkn:k < c.sp.length:=by have:=of_decide_eq_true e; omega
 clear e
 have hps:c.sp[k]? = some c.sp[k]:=List.getElem?_eq_getElem hkn
 have hox:=hok c.sp[k] (List.getElem_mem hkn)
 rw [List.drop_eq_getElem_cons hkn,List.foldl_cons] at hval
 rw [show c.sp.length - k = (c.sp.length - (k + 1)) + 1 from by omega] at hroom
 have hroom2:=hroom.step (a:=a) (b:=b) hox
 have hrl:=hroom.le
 have hr1:=hroom.1
 have hr2:=hroom.2.2.1
 generalize c.sp[k] = x at hps hox hval hroom2
 obtain ⟨b',f',ro,cells,q1,q2,q3,q4,q5,_⟩:=row_idx (SlAt.mono hc.sp hkp) slcS scS hps
 have qp:=part_at pcS q4 q5
 repeat refine S.seq ?_
 refine S.skip ?_
 simp (disch:=first|omega|decide) only [rUz]
 repeat refine S.seq ?_
 refine S.block ?_
 repeat refine S.seq ?_
 refine S.region ?_
 simp (disch:=first|omega|decide) only [rUz,t10,t12,q1,q3,qp,wr_alloc zcS]
 refine wr_storeN (B:=h.nx) (c:=[iv 0,iv 0,iv 0]) (fam:=h.nx) (k:=h.nx) (l:=c3 x) (by simp (disch:=first|omega|decide) only [rUz]) (by simp (disch:=first|omega|decide) only [rUz]) scS (by omega) rfl (ag_eq rfl) (af_eq rfl) rfl ?_
 have hk7:Kp h ((h.add [iv 0,iv 0,iv 0]).upd h.nx (c3 x) h.nx):=Kp.refl.add.upd (Nat.le_refl _)
 have hg7:((h.add [iv 0,iv 0,iv 0]).upd h.nx (c3 x) h.nx).bl.get h.nx = some (.cells (c3 x) h.nx false):=upd_eq _ _ _
 simp (disch:=first|omega|decide) only [rUz]
 have hnn:B5 < h.nx:=Nat.lt_of_lt_of_le hn5 hfr.le
 obtain ⟨B7,hB7⟩:∃ x,x = h.nx:=⟨_,rfl⟩
 rw [← hB7] at hk7 hg7 ⊢
 have h57:B5 < B7:=by omega
 generalize (h.add [iv 0,iv 0,iv 0]).upd B7 (c3 x) B7 = h7 at hk7 hg7 ⊢
 have hfr7:=hfr.kp hk7
 have hb57:=(hk7.get hnn).trans hb5h
 have hf57:=(hfr7.fam B5 hn5).trans hf5
 have hb37:=(hfr7.bl B3 (by omega) (by omega)).trans hb3'
 clear q1 q2 q3 q4 q5 qp hkp hfr hk7 hb5h hnn hB7
 clear h
 have hm1:0 ≤ f.1 * x.2.1:=Int.mul_nonneg (by omega) (by omega)
 have hm2:f.1 * x.2.1 ≤ 36 * x.2.1:=Int.mul_le_mul_of_nonneg_right (by omega) (by omega)
 have hm3:0 ≤ f.2 * x.2.2:=Int.mul_nonneg (by omega) (by omega)
 have hm4:f.2 * x.2.2 ≤ 36 * x.2.2:=Int.mul_le_mul_of_nonneg_right (by omega) (by omega)
 repeat refine S.seq ?_
 refine S.region ?_
 generalize hJJ:(fun (t:T Value) (h:AHeap)=>_) = KJ
 suffices hJ:∀ t,tget t 3 = ptr0 B3 → tget t 4 = ptr0 B4 → tget t 5 = ptr0 B5 → tget t 7 = ptr0 B7 → tget t 10 = v.d → tget t 11 = iv (c.sp.length:Int) → tget t 12 = iv (k:Int) → tget t 27 = .bool (inSp a b x) → KJ t h7 = true by
  clear hJJ hn he hK
  unfold inSp at hJ
  cases e1:decide (a < x.1) with
  | false =>
   simp (disch:=first|omega|decide) only [rUz,t3,hg7,hb37,fieldAddr_ptr fcS0 s3,fieldAddr_ptr fSp0 s3,p3,c30,c20,e1]
   refine hJ _ ?_ ?_ ?_ ?_ ?_ ?_ ?_ ?_
   all_goals (first|rfl|(simp (disch:=first|omega|decide) only [rUz,t3,t4,t5,t10,t11,t12,e1,Bool.false_and]; done)|(simp (disch:=first|omega|decide) only [rUz,t3,t4,t5,t10,t11,t12,e1,Bool.false_and]; rfl))
  | true =>
   simp (disch:=first|omega|decide) only [rUz,t3,hg7,hb37,fieldAddr_ptr fcS0 s3,fieldAddr_ptr fSp0 s3,fieldAddr_ptr fSp1 s3,p3,c30,c20,c21,e1]
   refine hJ _ ?_ ?_ ?_ ?_ ?_ ?_ ?_ ?_
   all_goals (first|rfl|(simp (disch:=first|omega|decide) only [rUz,t3,t4,t5,t10,t11,t12,e1,Bool.true_and]; done)|(simp (disch:=first|omega|decide) only [rUz,t3,t4,t5,t10,t11,t12,e1,Bool.true_and]; rfl))
 clear t3 t4 t5 t10 t11 t12
 clear t
 intro t t3 t4 t5 t7 t10 t11 t12 t27
 subst hJJ
 simp only [seqK_normal]
 cases hin:inSp a b x with
 | false =>
  have e0:ovS a b f x = f:=by unfold ovS; rw [hin]; rfl
  rw [e0] at hval hroom2
  repeat refine S.seq ?_
  refine S.cond (v:=false) (by first|rfl|(simp (disch:=first|omega|decide) only [rUz,↓reduceIte,Nat.reduceEqDiff,Nat.reduceAdd,t27,hin] <;> rfl)) (fun e=>by cases e) (fun _=>?_)
  repeat refine S.seq ?_
  refine S.skip ?_
  simp (disch:=first|omega|decide) only [rUz]
  repeat refine S.seq ?_
  refine S.region ?_
  simp (disch:=first|omega|decide) only [rUz,t12]
  refine hn (k + 1) _ _ (by omega) ⟨f,hfr7,?_,?_,?_,?_,?_,?_,by omega,hb57,hval,hroom2⟩
  all_goals (first|rfl|(simp (disch:=first|omega|decide) only [rUz,t3,t4,t5,t10,t11,t12]; done)|(simp (disch:=first|omega|decide) only [rUz,t3,t4,t5,t10,t11,t12]; rfl))
 | true =>
  have e0:ovS a b f x = (f.1 * x.2.1,f.2 * x.2.2):=by unfold ovS; rw [hin]; rfl
  rw [e0] at hval hroom2
  repeat refine S.seq ?_
  refine S.cond (v:=true) (by first|rfl|(simp (disch:=first|omega|decide) only [rUz,↓reduceIte,Nat.reduceEqDiff,Nat.reduceAdd,t27,hin] <;> rfl)) (fun _=>?_) (fun e=>by cases e)
  have hl0:0 < ([iv f.1,iv f.2]:List Value).length:=by show 0 < 2; omega
  have hl1:1 < ([iv (f.1 * x.2.1),iv f.2]:List Value).length:=by show 1 < 2; omega
  repeat refine S.seq ?_
  refine S.region ?_
  simp (disch:=first|omega|decide) only [rUz,t5,t7,hb57,hf57,hg7,fieldAddr_ptr fF0 s3,fieldAddr_ptr fcS1 s3,p3,c31]
  refine wr_store s3' ?_
  simp (disch:=first|omega|decide) only [rUz,t5,hb57,hf57,set20,set21]
  have hb58:(h7.upd B5 [iv (f.1 * x.2.1),iv f.2] B5).bl.get B5 = some (.cells [iv (f.1 * x.2.1),iv f.2] B5 false):=upd_eq _ _ _
  have hf58:(h7.upd B5 [iv (f.1 * x.2.1),iv f.2] B5).fams.get B5 = some [B5]:=by rw [upd_fams]; exact hf57
  have hg8:(h7.upd B5 [iv (f.1 * x.2.1),iv f.2] B5).bl.get B7 = some (.cells (c3 x) B7 false):=by rw [upd_ne _ _ _ (by omega)]; exact hg7
  have hfr8:Fr H5 B5 (h7.upd B5 [iv (f.1 * x.2.1),iv f.2] B5):=hfr7.upd
  generalize h7.upd B5 [iv (f.1 * x.2.1),iv f.2] B5 = h8 at hb58 hf58 hg8 hfr8 ⊢
  repeat refine S.seq ?_
  refine S.region ?_
  simp (disch:=first|omega|decide) only [rUz,t5,t7,hb58,hf58,hg8,fieldAddr_ptr fF1 s3,fieldAddr_ptr fcS2 s3,p3,c32]
  refine wr_store s3' ?_
  simp (disch:=first|omega|decide) only [rUz,t5,hb58,hf58,set20,set21]
  repeat refine S.seq ?_
  refine S.region ?_
  simp (disch:=first|omega|decide) only [rUz,t12]
  refine hn (k + 1) _ _ (by omega) ⟨(f.1 * x.2.1,f.2 * x.2.2),hfr8.upd,?_,?_,?_,?_,?_,?_,by omega,upd_eq _ _ _,hval,hroom2⟩
  all_goals (first|rfl|(simp (disch:=first|omega|decide) only [rUz,t3,t4,t5,t10,t11,t12]; done)|(simp (disch:=first|omega|decide) only [rUz,t3,t4,t5,t10,t11,t12]; rfl))

set_option maxHeartbeats 8000000 in
theorem funits_y (S:Ev.Steps Tryz.prog pr R) (h0:AHeap) (f:Int × Int) (hf:roomF f 0) (sh:Int) (hs0:0 ≤ sh) (hs1:sh ≤ 100) :
  Brings Tryz.prog R 68 [.agg ⟨[iv f.1,iv f.2]⟩,iv sh] h0 fun u _=>u = iv ((sh * 720 * f.1).tdiv f.2):=by
 refine brings_of (fn:=Tryz.f68) (c:=(Tryz.f68.body).getD .skip) (by kernel_rfl) rfl (by kernel_rfl) rfl (fun K hK=>?_)
 generalize hF:finish Tryz.prog Tryz.f68 K = KF
 simp only [Tryz.f68,Option.getD_some,argsT,setArgs,fV1_eq,T.setK_eq,id]
 repeat refine S.seq ?_
 refine S.region ?_
 simp (disch:=first|omega|decide) only [rUz]
 have h1:=hf.le
 have h2:=hf.1
 have h3:=hf.2.2.1
 have hm0:0 ≤ sh * 720 * f.1:=Int.mul_nonneg (by omega) (by omega)
 have hm1:sh * 720 * f.1 ≤ (sh * 720) * 36:=Int.mul_le_mul_of_nonneg_left (by omega) (by omega)
 have hq:(sh * 720 * f.1).tdiv f.2 = (sh * 720 * f.1) / f.2:=Int.tdiv_eq_ediv_of_nonneg hm0
 have hq0:0 ≤ (sh * 720 * f.1) / f.2:=Int.ediv_nonneg hm0 (by omega)
 have hq1:=Int.ediv_le_self f.2 hm0
 repeat refine S.seq ?_
 refine S.region ?_
 simp (disch:=first|omega|decide) only [rUz,fieldAddr_ptr fF0 s3,fieldAddr_ptr fF1 s3,p3]
 refine optR_of' (bin_quo (i:=sh * 720 * f.1) (j:=f.2) (by simp (disch:=first|omega|decide) only [rUz]) (by simp (disch:=first|omega|decide) only [rUz]) (by omega) (by omega) (by omega)) ?_
 simp (disch:=first|omega|decide) only [rUz]
 refine S.ret ?_
 try simp only [seqK_ret,blockK_ret]
 subst hF
 simp only [finish,endMarks]
 rw [show Tryz.f68.results.toList = [.tmp 4] from rfl]
 simp (disch:=first|omega|decide) only [resA,ev_tmp,tget_ne,tget_eq,get_ne,get_eq,upd_eq,upd_ne,ag_eq,ag_ne,result1]
 exact hK _ _ Kp.refl.add rfl

set_option maxHeartbeats 8000000 in
theorem isBy_y (S:Ev.Steps Tryz.prog pr R) (h0:AHeap) (d:R2) (day:Int):Brings Tryz.prog R 65 [.agg ⟨c2 d⟩,iv day] h0 fun u _=>u = .bool (!decide (d.2 = -1) && decide (d.2 ≤ day)):=by
 refine brings_of (fn:=Tryz.f65) (c:=(Tryz.f65.body).getD .skip) (by kernel_rfl) rfl (by kernel_rfl) rfl (fun K hK=>?_)
 generalize hF:finish Tryz.prog Tryz.f65 K = KF
 simp only [Tryz.f65,Option.getD_some,argsT,setArgs,fV1_eq,T.setK_eq,id]
 repeat refine S.seq ?_
 refine S.region ?_
 simp (disch:=first|omega|decide) only [rUz]
 cases h1:decide (d.2 = -1) with
 | true =>
  rw [h1,Bool.not_true,Bool.false_and] at hK
  repeat refine S.seq ?_
  refine S.region ?_
  simp (disch:=first|omega|decide) only [rUz,h1,fieldAddr_ptr fDt1 s3,p3,c21,Bool.not_true]
  refine S.ret ?_
  try simp only [seqK_ret,blockK_ret]
  subst hF
  simp only [finish,endMarks]
  rw [show Tryz.f65.results.toList = [.tmp 4] from rfl]
  simp (disch:=first|omega|decide) only [resA,ev_tmp,tget_ne,tget_eq,get_ne,get_eq,upd_eq,upd_ne,ag_eq,ag_ne,result1]
  exact hK _ _ Kp.refl.add rfl
 | false =>
  rw [h1,Bool.not_false,Bool.true_and] at hK
  repeat refine S.seq ?_
  refine S.region ?_
  simp (disch:=first|omega|decide) only [rUz,h1,fieldAddr_ptr fDt1 s3,p3,c21,Bool.not_false]
  refine S.ret ?_
  try simp only [seqK_ret,blockK_ret]
  subst hF
  simp only [finish,endMarks]
  rw [show Tryz.f65.results.toList = [.tmp 4] from rfl]
  simp (disch:=first|omega|decide) only [resA,ev_tmp,tget_ne,tget_eq,get_ne,get_eq,upd_eq,upd_ne,ag_eq,ag_ne,result1]
  exact hK _ _ Kp.refl.add rfl
set_option maxHeartbeats 8000000 in
theorem regc_y (S:Ev.Steps Tryz.prog pr R) (hoff:Off pr) (h:AHeap) (Bd f:Nat) (ro:Bool) (day:Int) (d:R2) (hb:h.bl.get Bd = some (.cells [iv day] f ro)) (hlt:Bd < h.nx) :
  Brings Tryz.prog R 64 [.agg ⟨c2 d⟩,ptr0 Bd] h fun u _=>u = .bool (!decide (d.2 = -1) && decide (d.2 ≤ day)):=by
 refine brings_of (fn:=Tryz.f64) (c:=(Tryz.f64.body).getD .skip) (by kernel_rfl) rfl (by kernel_rfl) rfl (fun K hK=>?_)
 generalize hF:finish Tryz.prog Tryz.f64 K = KF
 simp only [Tryz.f64,Option.getD_some,argsT,setArgs,fV1_eq,T.setK_eq,id]
 repeat refine S.seq ?_
 refine S.region ?_
 simp (disch:=first|omega|decide) only [rUz]
 have hbx:(h.add (c2 d)).bl.get Bd = some (.cells [iv day] f ro):=by rw [ag_ne (by omega)]; exact hb
 repeat refine S.seq ?_
 refine S.region ?_
 simp (disch:=first|omega|decide) only [rUz,hbx,p3,part_0 pDt (c2_len d)]
 refine wr_brings (fid:=65) (first:=#[]) (captured:=#[]) (Post:=fun u _=>u = .bool (!decide (d.2 = -1) && decide (d.2 ≤ day))) rfl (hoff _ _ _ rfl) (by simp (disch:=first|omega|decide) only [rUz]; exact isBy_y S _ d day) ?_
 rintro u g hk rfl
 simp (disch:=first|omega|decide) only [rUz]
 refine S.ret ?_
 try simp only [seqK_ret,blockK_ret]
 subst hF
 simp only [finish,endMarks]
 rw [show Tryz.f64.results.toList = [.tmp 3] from rfl]
 simp (disch:=first|omega|decide) only [resA,ev_tmp,tget_ne,tget_eq,get_ne,get_eq,upd_eq,upd_ne,ag_eq,ag_ne,result1]
 exact hK _ _ (Kp.refl.add.trans hk) rfl
end Go.Proofs.Cp
