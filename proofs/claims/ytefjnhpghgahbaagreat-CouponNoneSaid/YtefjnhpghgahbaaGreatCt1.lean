import Derived.Test.YtefjnhpghgahbaaGreatCq9
import Derived.Test.YtefjnhpghgahbaaGreatEvD
/- Money of a holding; which dividends there are, and to whom they belong. -/
namespace Go.Proofs.Cp
open Go Go.Ev
set_option linter.unusedSimpArgs false

theorem iI0:((Tryz.prog.info? 3).map fun ei=>(Nat.blt ei.bytes bigNat,ei.size)) = some (true,1):=by kernel_rfl
theorem iI:∃ ei,Tryz.prog.info? 3 = some ei ∧ Nat.blt ei.bytes bigNat = true ∧ ei.size = 1:=by
 have h:=iI0
 cases hi:Tryz.prog.info? 3 with
 | none=>rw [hi] at h; cases h
 | some ei =>
  rw [hi] at h
  simp only [Option.map_some,Option.some.injEq,Prod.mk.injEq] at h
  exact ⟨ei,rfl,h.1,h.2⟩
def fillZ (l:List Int) (n:Nat):Nat → List Int
 | 0=>List.replicate n 0
 | k + 1=>(fillZ l n k).set k (l.getD k 0)
theorem fillZ_len (l:List Int) (n:Nat):∀ k,(fillZ l n k).length = n
 | 0=>by rw [fillZ,List.length_replicate]
 | k + 1=>by rw [fillZ,List.length_set,fillZ_len l n k]
theorem fillZ_get (l:List Int) (n:Nat):∀ k i,i < n → (fillZ l n k)[i]? = some (if i < k then l.getD i 0 else 0)
 | 0,i,h=>by
  rw [fillZ,List.getElem?_replicate,if_pos h,if_neg (Nat.not_lt_zero _)]
 | k + 1,i,h=>by
  rw [fillZ,List.getElem?_set]
  by_cases hk:k = i
  ·subst hk
   rw [if_pos rfl,if_pos (by rw [fillZ_len]; exact h),if_pos (Nat.lt_succ_self _)]
  ·rw [if_neg hk,fillZ_get l n k i h]
   by_cases h2:i < k
   ·rw [if_pos h2,if_pos (by omega)]
   ·rw [if_neg h2,if_neg (by omega)]
theorem fillZ_all {l:List Int} {n:Nat} (h:l.length = n):fillZ l n n = l:=by
 refine List.ext_getElem? fun i=>?_
 by_cases hi:i < n
 ·rw [fillZ_get l n n i hi,if_pos hi,List.getD_eq_getElem?_getD,List.getElem?_eq_getElem (by omega)]; rfl
 ·rw [List.getElem?_eq_none (by rw [fillZ_len]; omega),List.getElem?_eq_none (by omega)]
theorem fillZ_zero {l:List Int} {n k:Nat} (hk:k < n) (h:l.getD k 0 = 0):fillZ l n (k + 1) = fillZ l n k:=by
 refine List.ext_getElem? fun i=>?_
 by_cases hi:i < n
 ·rw [fillZ_get l n _ i hi,fillZ_get l n _ i hi]
  by_cases h2:i = k
  ·subst h2
   rw [if_pos (Nat.lt_succ_self _),if_neg (Nat.lt_irrefl _),h]
  ·by_cases h3:i < k
   ·rw [if_pos h3,if_pos (by omega)]
   ·rw [if_neg h3,if_neg (by omega)]
 ·rw [List.getElem?_eq_none (by rw [fillZ_len]; omega),List.getElem?_eq_none (by rw [fillZ_len]; omega)]
theorem mul_bnd {p x M:Int} (h0:0 ≤ p) (h1:p ≤ 50) (hM:0 ≤ M) (h2 : -M ≤ x) (h3:x ≤ M) : -(50 * M) ≤ p * x ∧ p * x ≤ 50 * M:=by
 have a1:p * x ≤ p * M:=Int.mul_le_mul_of_nonneg_left h3 h0
 have a2:p * (-M) ≤ p * x:=Int.mul_le_mul_of_nonneg_left h2 h0
 have a3:p * M ≤ 50 * M:=Int.mul_le_mul_of_nonneg_right h1 hM
 rw [Int.mul_neg] at a2
 omega
def muls (p:Int) (l:List Int):List Int:=l.map fun n=>p * n
theorem muls_len (p:Int) (l:List Int):(muls p l).length = l.length:=List.length_map _
theorem muls_get (p:Int) (l:List Int) (i:Nat):(muls p l).getD i 0 = p * l.getD i 0:=by
 unfold muls
 rw [List.getD_eq_getElem?_getD,List.getElem?_map,List.getD_eq_getElem?_getD]
 cases l[i]? with
 | none=>show 0 = p * 0; rw [Int.mul_zero]
 | some y=>rfl
def belQ (ex:Int) (d:R2):Bool:=decide (d.1 < ex)

variable {pr:Prim} {R:ExT}
set_option maxHeartbeats 4000000 in
theorem hasDv_y (S:Ev.Steps Tryz.prog pr R) (h0:AHeap) (v:Vs) (c:Co) (hc:CoAt h0 v c) (i:Int):Brings Tryz.prog R 47 [.agg ⟨coV c.hs v⟩,iv i] h0 fun u _=>u = .bool (inB i 0 ((c.dv.length:Int) - 1)):=by
 refine brings_of (fn:=Tryz.f47) (c:=(Tryz.f47.body).getD .skip) (by kernel_rfl) rfl (by kernel_rfl) rfl (fun K hK=>?_)
 generalize hF:finish Tryz.prog Tryz.f47 K = KF
 simp only [Tryz.f47,Option.getD_some,argsT,setArgs,fV1_eq,T.setK_eq,id]
 repeat refine S.seq ?_
 refine S.region ?_
 simp (disch:=first|omega|decide) only [rUz,↓reduceIte,Nat.reduceEqDiff,Nat.reduceAdd]
 have l3:=fun t h1 o=>row_len hc.dv iscD t h1 o
 have e2:inB i 0 ((c.dv.length:Int) - 1) = (decide (0 ≤ i) && decide (i < (c.dv.length:Int))):=by
  unfold inB
  congr 1
  exact bool_ext (by rw [decide_eq_true_eq,decide_eq_true_eq]; omega)
 rw [e2] at hK
 cases e:decide (0 ≤ i) with
 | false =>
  rw [e,Bool.false_and] at hK
  repeat refine S.seq ?_
  refine S.region ?_
  simp (disch:=first|omega|decide) only [rUz,↓reduceIte,Nat.reduceEqDiff,Nat.reduceAdd,e]
  refine S.ret ?_
  try simp only [seqK_ret,blockK_ret]
  subst hF
  simp only [finish,endMarks]
  rw [show Tryz.f47.results.toList = [.tmp 4] from rfl]
  simp (disch:=first|omega|(simp only [nZ] <;> omega)|decide) only [resA,ev_tmp,tget_ne,tget_eq,get_ne,get_eq,upd_eq,upd_ne,ag_eq,ag_ne,result1]
  exact hK _ _ Kp.refl.add rfl
 | true =>
  rw [e,Bool.true_and] at hK
  repeat refine S.seq ?_
  refine S.region ?_
  simp (disch:=first|omega|decide) only [rUz,↓reduceIte,Nat.reduceEqDiff,Nat.reduceAdd,e,fieldAddr_ptr fB3 lcD,qcD,co3,l3]
  refine S.ret ?_
  try simp only [seqK_ret,blockK_ret]
  subst hF
  simp only [finish,endMarks]
  rw [show Tryz.f47.results.toList = [.tmp 4] from rfl]
  simp (disch:=first|omega|(simp only [nZ] <;> omega)|decide) only [resA,ev_tmp,tget_ne,tget_eq,get_ne,get_eq,upd_eq,upd_ne,ag_eq,ag_ne,result1]
  exact hK _ _ Kp.refl.add rfl
set_option maxHeartbeats 4000000 in
theorem belongs_y (S:Ev.Steps Tryz.prog pr R) (h0:AHeap) (d:T3) (x:R2):Brings Tryz.prog R 59 [.agg ⟨c3 d⟩,.agg ⟨c2 x⟩] h0 fun u _=>u = .bool (belQ d.1 x):=by
 refine brings_of (fn:=Tryz.f59) (c:=(Tryz.f59.body).getD .skip) (by kernel_rfl) rfl (by kernel_rfl) rfl (fun K hK=>?_)
 generalize hF:finish Tryz.prog Tryz.f59 K = KF
 simp only [Tryz.f59,Option.getD_some,argsT,setArgs,fV1_eq,T.setK_eq,id]
 repeat refine S.seq ?_
 refine S.region ?_
 simp (disch:=first|omega|(simp only [nZ] <;> omega)|decide) only [rUz,↓reduceIte,Nat.reduceEqDiff,Nat.reduceAdd]
 repeat refine S.seq ?_
 refine S.region ?_
 simp (disch:=first|omega|(simp only [nZ] <;> omega)|decide) only [rUz,↓reduceIte,Nat.reduceEqDiff,Nat.reduceAdd,fieldAddr_ptr fDt0 s3,fieldAddr_ptr fcD0 s3,p3,c20,c30]
 refine S.ret ?_
 try simp only [seqK_ret,blockK_ret]
 subst hF
 simp only [finish,endMarks]
 rw [show Tryz.f59.results.toList = [.tmp 4] from rfl]
 simp (disch:=first|omega|(simp only [nZ] <;> omega)|decide) only [resA,ev_tmp,tget_ne,tget_eq,get_ne,get_eq,upd_eq,upd_ne,ag_eq,ag_ne,result1]
 exact hK _ _ Kp.refl.add.add rfl
set_option maxHeartbeats 4000000 in
theorem reaches_y (S:Ev.Steps Tryz.prog pr R) (hoff:Off pr) (h0:AHeap) (d:T3) (x:R2):Brings Tryz.prog R 66 [.agg ⟨c3 d⟩,.agg ⟨c2 x⟩] h0 fun u _=>u = .bool (byQ d.2.1 x):=by
 refine brings_of (fn:=Tryz.f66) (c:=(Tryz.f66.body).getD .skip) (by kernel_rfl) rfl (by kernel_rfl) rfl (fun K hK=>?_)
 generalize hF:finish Tryz.prog Tryz.f66 K = KF
 simp only [Tryz.f66,Option.getD_some,argsT,setArgs,fV1_eq,T.setK_eq,id]
 repeat refine S.seq ?_
 refine S.region ?_
 simp (disch:=first|omega|(simp only [nZ] <;> omega)|decide) only [rUz,↓reduceIte,Nat.reduceEqDiff,Nat.reduceAdd]
 repeat refine S.seq ?_
 refine S.region ?_
 simp (disch:=first|omega|(simp only [nZ] <;> omega)|decide) only [rUz,↓reduceIte,Nat.reduceEqDiff,Nat.reduceAdd,fieldAddr_ptr fcD1 s3,p3,c31,part_0 pDt (c2_len x)]
 refine wr_brings (fid:=65) (first:=#[]) (captured:=#[]) (Post:=fun u _=>u = .bool (!decide (x.2 = -1) && decide (x.2 ≤ d.2.1))) rfl (hoff _ _ _ rfl) (by simp (disch:=first|omega|(simp only [nZ] <;> omega)|decide) only [rUz,↓reduceIte,Nat.reduceEqDiff,Nat.reduceAdd]; exact isBy_y S _ x d.2.1) ?_
 rintro u g hk rfl
 simp (disch:=first|omega|decide) only [rUz]
 refine S.ret ?_
 try simp only [seqK_ret,blockK_ret]
 subst hF
 simp only [finish,endMarks]
 rw [show Tryz.f66.results.toList = [.tmp 4] from rfl]
 simp (disch:=first|omega|decide) only [resA,ev_tmp,tget_ne,tget_eq,get_ne,get_eq,upd_eq,upd_ne,ag_eq,ag_ne,result1]
 exact hK _ _ (Kp.refl.add.add.trans hk) rfl

structure IMo (H:AHeap) (B3 BL:Nat) (p:Int) (Tl:List Int) (n:Nat) (k:Nat) (t:T Value) (h:AHeap):Prop where
 fr:Fr H BL h
 own:Own h BL (fillZ Tl n k)
 t1:tget t 1 = iv p
 t3:tget t 3 = ptr0 B3
 t7:tget t 7 = .slice (some ⟨BL,0,none⟩) n n
 t12:tget t 12 = iv (n:Int)
 t13:tget t 13 = iv (k:Int)
 hk:k ≤ n
theorem own_fill {h:AHeap} {B:Nat} {Tl:List Int} {n k:Nat} (o:Own h B (fillZ Tl n k)):Own (h.upd B (((fillZ Tl n k).map iv).set k (iv (Tl.getD k 0))) B) B (fillZ Tl n (k + 1)):=o.upd
set_option maxHeartbeats 8000000 in
theorem money_y (S:Ev.Steps Tryz.prog pr R) (h0:AHeap) (L:List Int) (hL:L.length = 4) (hb:bndL 23328000 L) (p:Int) (hp0:0 ≤ p) (hp1:p ≤ 50) (n:Nat) (hn4:n ≤ 4) :
  Brings Tryz.prog R 60 [.agg ⟨L.map iv⟩,iv p,iv (n:Int)] h0 fun u h=>IAt h u (muls p (L.take n)):=by
 refine brings_of (fn:=Tryz.f60) (c:=(Tryz.f60.body).getD .skip) (by kernel_rfl) rfl (by kernel_rfl) rfl (fun K hK=>?_)
 generalize hF:finish Tryz.prog Tryz.f60 K = KF
 simp only [Tryz.f60,Option.getD_some,argsT,setArgs,fV1_eq,T.setK_eq,id]
 repeat refine S.seq ?_
 refine S.region ?_
 simp (disch:=first|omega|decide) only [rUz]
 obtain ⟨ei,i1,i2,i3⟩:=iI
 repeat refine S.seq ?_
 refine S.region ?_
 simp (disch:=first|omega|decide) only [rUz,w_makeSlice]
 refine wr_makeInts (k:=n) slI i1 z3 i2 i3 (by simp (disch:=first|omega|decide) only [rUz]) (by simp (disch:=first|omega|decide) only [rUz]) (by omega) (fun hown=>?_)
 obtain ⟨B3,hB3⟩:∃ x,x = h0.nx:=⟨_,rfl⟩
 obtain ⟨BL,hBL⟩:∃ x,x = h0.nx + 1:=⟨_,rfl⟩
 have hk1:Kp h0 ((h0.add (L.map iv)).add ((List.replicate n 0).map iv)):=Kp.refl.add.add
 have hb3:((h0.add (L.map iv)).add ((List.replicate n 0).map iv)).bl.get B3 = some (.cells (L.map iv) B3 false):=by simp (disch:=first|omega|(simp only [nZ] <;> omega)|decide) only [ag_ne]; subst hB3; exact ag_eq rfl
 simp (disch:=first|omega|decide) only [rUz]
 rw [add_nx,← hBL] at hown
 rw [← hBL,← hB3]
 generalize ((h0.add (L.map iv)).add ((List.replicate n 0).map iv)) = H at hown hk1 hb3 ⊢
 have h3L:B3 < BL:=by omega
 have h0L:h0.nx ≤ BL:=by omega
 clear hB3 hBL
 have lsl:∀ (t:T Value) (h1:AHeap) (o:Oper),rLen Tryz.prog t h1 o 22 (.slice (some ⟨BL,0,none⟩) n n) = some (iv (n:Int)):=fun t h1 o=>len_sl isI
 repeat refine S.seq ?_
 refine S.region ?_
 simp (disch:=first|omega|decide) only [rUz,lsl]
 repeat refine S.seq ?_
 refine S.block ?_
 refine S.loop (ι:=Nat) (IMo H B3 BL p (muls p (L.take n)) n) (fun k=>n - k) ?_ 0 _ _ ?_
 rotate_left
 ·refine ⟨Fr.refl,hown,?_,?_,?_,?_,?_,Nat.zero_le _⟩
  all_goals (first|rfl|(simp (disch:=first|omega|decide) only [rUz]; done)|(simp (disch:=first|omega|decide) only [rUz]; rfl))
 have hn3:=hown.1
 clear hown
 intro k t h ⟨fr,own,t1,t3,t7,t12,t13,hk⟩ K' hn he
 repeat refine S.seq ?_
 refine S.region ?_
 simp (disch:=first|omega|decide) only [rUz,t12,t13]
 repeat refine S.seq ?_
 refine S.cond (v:=decide ((k:Int) < (n:Int))) (by first|rfl|(simp (disch:=first|omega|decide) only [rUz,↓reduceIte,Nat.reduceEqDiff,Nat.reduceAdd] <;> rfl)) (fun e=>?_) (fun e=>?_)
 rotate_left
 ·have hkn:k = n:=by have:=of_decide_eq_false e; omega
  subst hkn
  refine S.exit (he _ _ _ _ (fun e=>by cases e) ?_)
  simp (disch:=first|omega|decide) only [rUz]
  repeat refine S.seq ?_
  refine S.region ?_
  simp (disch:=first|omega|decide) only [rUz,t7]
  refine S.ret ?_
  try simp only [seqK_ret,blockK_ret]
  subst hF
  simp only [finish,endMarks]
  rw [show Tryz.f60.results.toList = [.tmp 6] from rfl]
  simp (disch:=first|omega|decide) only [resA,ev_tmp,tget_ne,tget_eq,get_ne,get_eq,upd_eq,upd_ne,ag_eq,ag_ne,result1]
  have hlen:(muls p (L.take k)).length = k:=by rw [muls_len,List.length_take]; omega
  rw [fillZ_all hlen] at own
  exact hK _ _ (fr.toKp hk1 h0L) (own.at' hlen.symm)
 have hkn:k < n:=by have:=of_decide_eq_true e; omega
 clear e
 have hb3h:=(fr.get (by omega:B3 < H.nx) (by omega)).trans hb3
 have hkL:k < L.length:=by omega
 have gx:(L.map iv)[k]? = some (iv L[k]):=by rw [List.getElem?_map,List.getElem?_eq_getElem hkL]; rfl
 have hx:=hb L[k] (List.getElem_mem hkL)
 have hT:(muls p (L.take n)).getD k 0 = p * L[k]:=by
  rw [muls_get,List.getD_eq_getElem?_getD,List.getElem?_take_of_lt hkn,List.getElem?_eq_getElem hkL]; rfl
 generalize L[k] = x at gx hx hT
 have hm:=mul_bnd hp0 hp1 (by omega) hx.1 hx.2
 have ia:rIndexAddr Tryz.prog 97 (ptr0 B3) (iv (k:Int)) = some (.pointer (some ⟨B3,k,none⟩)):=by
  rw [indexAddr_arr aH s3' (by omega),Nat.zero_add,Nat.mul_one]
 have il:rIndexAddr Tryz.prog 22 (.slice (some ⟨BL,0,none⟩) n n) (iv (k:Int)) = some (.pointer (some ⟨BL,k,none⟩)):=by
  rw [indexAddr_sl slI s3' hkn,Nat.zero_add,Nat.mul_one]
 have hl:k < ((fillZ (muls p (L.take n)) n k).map iv).length:=by rw [List.length_map,fillZ_len]; exact hkn
 have ob:=own.2.1
 have of':=own.2.2
 have of2:=own_fill own
 rw [hT] at of2
 repeat refine S.seq ?_
 refine S.skip ?_
 simp (disch:=first|omega|decide) only [rUz]
 repeat refine S.seq ?_
 refine S.block ?_
 repeat refine S.seq ?_
 refine S.region ?_
 simp (disch:=first|omega|decide) only [rUz,t13]
 repeat refine S.seq ?_
 refine S.region ?_
 simp (disch:=first|omega|decide) only [rUz,t1,t3,t7,ia,il,hb3h,p3,gx]
 refine wr_store s3' ?_
 simp (disch:=first|omega|decide) only [rUz,ob,of']
 repeat refine S.seq ?_
 refine S.region ?_
 simp (disch:=first|omega|decide) only [rUz,t13]
 refine hn (k + 1) _ _ (by omega) ⟨fr.upd,of2,?_,?_,?_,?_,?_,by omega⟩
 all_goals (first|rfl|(simp (disch:=first|omega|decide) only [rUz,t1,t3,t7,t12]; done)|(simp (disch:=first|omega|decide) only [rUz,t1,t3,t7,t12]; rfl))
end Go.Proofs.Cp
