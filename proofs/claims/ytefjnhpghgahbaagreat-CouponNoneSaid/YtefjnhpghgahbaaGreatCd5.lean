import Derived.Test.YtefjnhpghgahbaaGreatCd3
/- CouponNone: without claims what is paid is each house's right. -/
namespace Go.Proofs.Cp
open Go Go.Ev Go.RowKit
set_option linter.unusedSimpArgs false

def earlyB (cl:List R2) (ex:Int) (b:List Int):Bool:=b.all fun e=>inB (regP cl e) 0 (ex - 1)
def lateB (day:Int) (a:List Int):Bool:=a.all fun s=>decide (day < s)
theorem hold_congr (c:Co) (day:Int) (q q':R2 → Bool):∀ (tr:List Tr) (ds:List R2) (l:List Int),(∀ y,y ∈ ds → q y = q' y) → holdG c day q tr ds l = holdG c day q' tr ds l
 | [],_,_,_=>by rw [holdG_nil,holdG_nil]
 | _ :: _,[],_,_=>by unfold holdG; rfl
 | x :: tr,y :: ds,l,h=>by
  rw [holdG,holdG,h y (List.mem_cons_self ..)]
  exact hold_congr c day q q' tr ds _ fun z hz=>h z (List.mem_cons_of_mem _ hz)
theorem none_agree {c:Co} {a b:List Int} {d:T3} (hv:Val c) (hdt:datedB c a b = true) (hx:d.1 ≤ d.2.1) (h:(earlyB c.cl d.1 b || lateB d.2.1 a) = true) (y:R2) (hy:y ∈ datesL c a b):byQ d.2.1 y = belQ d.1 y:=by
 unfold datedB at hdt
 rw [Bool.and_eq_true] at hdt
 obtain ⟨la,lb⟩:=lens_iff.1 hdt.1
 obtain ⟨i,hi⟩:=List.mem_iff_getElem?.1 hy
 unfold datesL at hi
 rw [List.getElem?_zipWith] at hi
 cases ha:a[i]? with
 | none=>rw [ha] at hi; simp at hi
 | some s =>
 cases hb:b[i]? with
 | none=>rw [ha,hb] at hi; simp at hi
 | some e =>
 rw [ha,hb] at hi
 have hi':(s,regP c.cl e) = y:=by simpa using hi
 subst hi'
 have hlt:i < c.tr.length:=by
  have:=(List.getElem?_eq_some_iff.1 ha).1
  omega
 have hdb:=datG_get hdt.2 (List.getElem?_eq_getElem hlt) ha hb
 have hf:=dat_facts (Tok.of (hv.tok _ (List.getElem_mem hlt))) hdb
 have hr:=regP_rg c.cl e
 unfold byQ belQ
 rw [Bool.or_eq_true] at h
 show (!decide (regP c.cl e = -1) && decide (regP c.cl e ≤ d.2.1)) = decide (s < d.1)
 rcases h with h|h
 ·unfold earlyB at h
  rw [List.all_eq_true] at h
  have hin:=inB_iff.1 (h e (List.mem_of_getElem? hb))
  rw [decide_eq_false (by omega:¬ regP c.cl e = -1),decide_eq_true (by omega:regP c.cl e ≤ d.2.1),decide_eq_true (by omega:s < d.1)]; rfl
 ·unfold lateB at h
  rw [List.all_eq_true] at h
  have hs:=of_decide_eq_true (h s (List.mem_of_getElem? ha))
  rw [decide_eq_false (by omega:¬ s < d.1)]
  rcases hr with hr|hr
  ·rw [decide_eq_true hr]; rfl
  ·rw [decide_eq_false (by omega:¬ regP c.cl e ≤ d.2.1),Bool.and_false]
theorem none_pay {c:Co} {a b:List Int} {d:T3} (hv:Val c) (hdt:datedB c a b = true) (hx:d.1 ≤ d.2.1) (h:(earlyB c.cl d.1 b || lateB d.2.1 a) = true):payP c (datesL c a b) d = rgtP c (datesL c a b) d:=by
 unfold payP rgtP holdP
 rw [hold_congr c d.2.1 (byQ d.2.1) (belQ d.1) c.tr (datesL c a b) _ (none_agree hv hdt hx h)]
theorem none_clm {c:Co} {a b:List Int} {d:T3} (hv:Val c) (hdt:datedB c a b = true) (hx:d.1 ≤ d.2.1) (h:(earlyB c.cl d.1 b || lateB d.2.1 a) = true):∀ n,n ∈ clmP c (datesL c a b) d → n = 0:=by
 intro n hn
 obtain ⟨i,hi⟩:=List.mem_iff_getElem?.1 hn
 unfold clmP at hi
 rw [List.getElem?_zipWith] at hi
 cases hx':c.tr[i]? with
 | none=>rw [hx'] at hi; simp at hi
 | some x =>
 cases hy:(datesL c a b)[i]? with
 | none=>rw [hx',hy] at hi; simp at hi
 | some y =>
 rw [hx',hy] at hi
 have hi':clm1 c d x y = n:=by simpa using hi
 have e:=none_agree hv hdt hx h y (List.mem_of_getElem? hy)
 rw [← hi']
 unfold clm1
 rw [e,beq_self_eq_true,cond_true]
end Go.Proofs.Cp

/- CouponNone: the law. -/
namespace Go.Proofs.Cp
open Go Go.Ev Go.RowKit
set_option linter.unusedSimpArgs false

theorem all_take {α:Type} {l:List α} {f:α → Bool} {k:Nat} {x:α} (h:l[k]? = some x):(l.take (k + 1)).all f = ((l.take k).all f && f x):=by
 rw [List.take_add_one,h,List.all_append]
 show ((l.take k).all f && (f x && true)) = _
 rw [Bool.and_true]

variable {pr:Prim} {R:ExT}
structure INo (c:Co) (ex rec:Int) (a b:List Int) (i:Int) (B9 B10 B12:Nat) (H:AHeap) (k:Nat) (t:T Value) (h:AHeap):Prop where
 kp:Kp H h
 t9:tget t 9 = ptr0 B9
 t10:tget t 10 = ptr0 B10
 t11:tget t 11 = iv i
 t12:tget t 12 = ptr0 B12
 t13:tget t 13 = .bool (earlyB c.cl ex (b.take k))
 t14:tget t 14 = .bool (lateB rec (a.take k))
 t15:tget t 15 = iv (k:Int)
 le:k ≤ c.tr.length
structure INz (pv qv rv:Value) (n:Nat) (H:AHeap) (k:Nat) (t:T Value) (h:AHeap):Prop where
 hh:h = H
 t16:tget t 16 = pv
 t18:tget t 18 = qv
 t20:tget t 20 = rv
 t22:tget t 22 = iv (k:Int)
 le:k ≤ n
set_option maxHeartbeats 16000000 in
theorem none_law (S:Ev.Steps Tryz.prog pr R) (hT:Tab pr) (h0:AHeap) (hv:Value) (held:List Int) (hh:SlAt h0 1 hv (held.map fun n=>[iv n])) (wv:Value) (ws:List Int) (hw:WdAt h0 wv ws) (hwl:(ws.length:Int) < 9223372036854775808) (m:Int) (hm:(Lit.int .u8 m).wf = true) (w:Int) (hw8:(Lit.int .u8 w).wf = true) :
  Brings Tryz.prog R 5 [hv,wv,.int .u8 m,.int .u8 w] h0 fun u _=>u = .bool true:=by
 have hoff:=hT.off
 have hm':=wf_u8' hm
 have hw':=wf_u8' hw8
 refine brings_of (fn:=Tryz.f5) (c:=(Tryz.f5.body).getD .skip) (by kernel_rfl) rfl (by kernel_rfl) rfl (fun K hK=>?_)
 generalize hF:finish Tryz.prog Tryz.f5 K = KF
 simp only [Tryz.f5,Option.getD_some,argsT,setArgs,fV1_eq,T.setK_eq,id]
 have hKr:∀ g,Kp h0 g → K (.bool true) g = true:=fun g hk=>hK _ _ hk rfl
 clear hK
 have awake:∀ {ops:Array Oper} {n:Nat} {rest:List Oper} {t:T Value} {h:AHeap} {KR:T Value → AHeap → Bool} {dst:Option Tmp},putR Tryz.prog (withPrim pr (callVal Tryz.prog R)) ops n rest dst t (.bool true) h KR = true →
   wrR Tryz.prog (withPrim pr (callVal Tryz.prog R)) ops n rest (.call ⟨.value (.func 8),#[],#[]⟩) dst t h KR = true:=fun k=>wr_prim (fid:=8) (first:=#[]) (captured:=#[]) (v:=.bool true) rfl (hT.awake _) k
 repeat refine S.seq ?_
 refine S.region ?_
 simp (disch:=first|omega|decide) only [rUz]
 repeat refine S.seq ?_
 refine S.region ?_
 simp (disch:=first|omega|decide) only [rUz]
 refine wr_brings (fid:=6) (first:=#[]) (captured:=#[]) (Post:=fun u _=>u = .bool (begB held)) rfl (hoff _ _ _ rfl) (by simp (disch:=first|omega|decide) only [rUz]; exact begun_y S hoff h0 hv held hh) ?_
 rintro u g hkg rfl
 simp (disch:=first|omega|decide) only [rUz,un_not]
 cases hbg:begB held with
 | false =>
  simp (disch:=first|omega|decide) only [rUz,hbg,Bool.not_false]
  repeat refine S.seq ?_
  refine S.cond (v:=true) rfl (fun _=>?_) (fun e=>by cases e)
  repeat refine S.seq ?_
  refine S.region ?_
  simp (disch:=first|omega|decide) only [rUz]
  refine awake ?_
  simp (disch:=first|omega|decide) only [rUz]
  refine S.ret ?_
  try simp only [seqK_ret,blockK_ret]
  subst hF
  simp only [finish,endMarks]
  rw [show Tryz.f5.results.toList = [.tmp 8] from rfl]
  simp (disch:=first|omega|decide) only [resA,ev_tmp,tget_ne,tget_eq,get_ne,get_eq,upd_eq,upd_ne,ag_eq,ag_ne,result1]
  exact hKr _ hkg
 | true =>
 simp (disch:=first|omega|decide) only [rUz,hbg,Bool.not_true]
 repeat refine S.seq ?_
 refine S.cond (v:=false) rfl (fun e=>by cases e) (fun _=>?_)
 repeat refine S.seq ?_
 refine S.skip ?_
 simp (disch:=first|omega|decide) only [rUz]
 obtain ⟨hl1,hl4,hok⟩:=beg_of hbg
 repeat refine S.seq ?_
 refine S.region ?_
 simp (disch:=first|omega|decide) only [rUz]
 refine wr_brings (fid:=9) (first:=#[]) (captured:=#[]) (Post:=fun u h=>DealtP h held u) rfl (hoff _ _ _ rfl) (by simp (disch:=first|omega|decide) only [rUz]; exact dealt_y S hoff g hv held (SlAt.mono hh hkg) hl1 hl4 hok wv ws (hw.mono hkg) hwl m ⟨hm'.1,by omega⟩) ?_
 rintro u g2 hk3 ⟨v,c,ua,ub,a,b,rfl,hc,hsh,hsa,hsb,hz,htr,hce,hdv⟩
 subst hce
 have hd3:=many0 hz
 have hth:=thin0 hz (by omega)
 have hval:=Val.of_fault hz
 have hdn:0 < (c.dv.length:Int):=by
  have:c.dv.length ≠ 0:=fun e=>hdv (List.eq_nil_of_length_eq_zero e)
  omega
 have hdt:datedB c a b = true:=by
  have hx:=htr
  unfold truthB at hx
  rw [Bool.and_eq_true] at hx
  exact hx.1
 have hl:a.length = c.tr.length ∧ b.length = c.tr.length:=by
  have hx:=hdt
  rw [datedB,Bool.and_eq_true] at hx
  exact lens_iff.1 hx.1
 have htl:=hval.tl
 have hkB:=hkg.trans hk3
 clear hkg hk3
 simp (disch:=first|omega|decide) only [rUz,tup0,tup1,wr_alloc zA,wr_alloc zrU]
 obtain ⟨B9,hB9⟩:∃ x,x = g2.nx:=⟨_,rfl⟩
 obtain ⟨B10,hB10⟩:∃ x,x = g2.nx + 1:=⟨_,rfl⟩
 have hb9:((g2.add [iv 0,nl,nl,nl,nl,nl]).add [nl,nl]).bl.get B9 = some (.cells [iv 0,nl,nl,nl,nl,nl] B9 false):=by simp (disch:=first|omega|(simp only [nZ] <;> omega)|decide) only [ag_ne]; subst hB9; exact ag_eq rfl
 have hf9:((g2.add [iv 0,nl,nl,nl,nl,nl]).add [nl,nl]).fams.get B9 = some [B9]:=by simp (disch:=first|omega|(simp only [nZ] <;> omega)|decide) only [af_ne]; subst hB9; exact af_eq rfl
 have hb10:((g2.add [iv 0,nl,nl,nl,nl,nl]).add [nl,nl]).bl.get B10 = some (.cells [nl,nl] B10 false):=by subst hB10; exact ag_eq rfl
 have hf10:((g2.add [iv 0,nl,nl,nl,nl,nl]).add [nl,nl]).fams.get B10 = some [B10]:=by subst hB10; exact af_eq rfl
 have hkC:Kp g2 ((g2.add [iv 0,nl,nl,nl,nl,nl]).add [nl,nl]):=Kp.refl.add.add
 have hn10:B10 < ((g2.add [iv 0,nl,nl,nl,nl,nl]).add [nl,nl]).nx:=by show B10 < g2.nx + 2; omega
 have o9:g2.nx ≤ B9:=by omega
 have l910:B9 < B10:=by omega
 rw [← hB10,← hB9]
 clear hB9 hB10
 generalize (g2.add [iv 0,nl,nl,nl,nl,nl]).add [nl,nl] = G0 at hb9 hf9 hb10 hf10 hkC hn10 ⊢
 refine wr_storeN (B:=B9) (c:=[iv 0,nl,nl,nl,nl,nl]) (fam:=B9) (k:=B9) (l:=coV c.hs v) (by simp (disch:=first|omega|decide) only [rUz]) (by simp (disch:=first|omega|decide) only [rUz]) sA (by omega) rfl hb9 hf9 rfl ?_
 have hb10':(G0.upd B9 (coV c.hs v) B9).bl.get B10 = some (.cells [nl,nl] B10 false):=by rw [upd_ne _ _ _ (by omega)]; exact hb10
 have hf10':(G0.upd B9 (coV c.hs v) B9).fams.get B10 = some [B10]:=by rw [upd_fams]; exact hf10
 simp (disch:=first|omega|decide) only [rUz]
 refine wr_storeN (B:=B10) (c:=[nl,nl]) (fam:=B10) (k:=B10) (l:=[ua,ub]) (by simp (disch:=first|omega|decide) only [rUz]) (by simp (disch:=first|omega|decide) only [rUz]) srU (by omega) rfl hb10' hf10' rfl ?_
 have hb9X:((G0.upd B9 (coV c.hs v) B9).upd B10 [ua,ub] B10).bl.get B9 = some (.cells (coV c.hs v) B9 false):=by rw [upd_ne _ _ _ (by omega)]; exact upd_eq _ _ _
 have hb10X:((G0.upd B9 (coV c.hs v) B9).upd B10 [ua,ub] B10).bl.get B10 = some (.cells [ua,ub] B10 false):=upd_eq _ _ _
 have hkX:Kp g2 ((G0.upd B9 (coV c.hs v) B9).upd B10 [ua,ub] B10):=(hkC.upd o9).upd (by omega)
 have hnX:B10 < ((G0.upd B9 (coV c.hs v) B9).upd B10 [ua,ub] B10).nx:=hn10
 simp (disch:=first|omega|decide) only [rUz]
 generalize (G0.upd B9 (coV c.hs v) B9).upd B10 [ua,ub] B10 = H3 at hb9X hb10X hkX hnX ⊢
 clear hb9 hf9 hb10 hf10 hkC hn10 hb10' hf10'
 clear G0
 have hcX:=hc.mono hkX
 have hshX:=SlAt.mono hsh hkX
 have hsaX:=SlAt.mono hsa hkX
 have hsbX:=SlAt.mono hsb hkX
 have hkX0:=hkB.trans hkX
 clear hc hsh hsa hsb hkX hkB
 have hn9X:B9 < H3.nx:=by omega
 have l3:=fun t h1 o=>row_len hcX.dv isrD t h1 o
 repeat refine S.seq ?_
 refine S.region ?_
 simp (disch:=first|omega|decide) only [rUz,w_cv8,rd_conv]
 refine optR_of' (v:=iv w) (conv_int Tryz.underlying5 Tryz.underlying3 (by omega) (by omega)) ?_
 simp (disch:=first|omega|decide) only [rUz,hb9X,fieldAddr_ptr fA3 lrD,qrD,co3,l3]
 refine optR_of' (bin_rem (i:=w) (j:=(c.dv.length:Int)) (by simp (disch:=first|omega|decide) only [rUz]) (by simp (disch:=first|omega|decide) only [rUz]) (by omega)) ?_
 obtain ⟨i0,hi⟩:∃ i,i = w.tmod (c.dv.length:Int):=⟨_,rfl⟩
 have hi0:0 ≤ i0 ∧ i0 < (c.dv.length:Int):=by rw [hi]; exact ⟨Int.tmod_nonneg _ hw'.1,Int.tmod_lt_of_pos _ hdn⟩
 rw [← hi]
 clear hi l3
 obtain ⟨i,rfl⟩:∃ n:Nat,i0 = (n:Int):=⟨i0.toNat,by omega⟩
 have hil:i < c.dv.length:=by omega
 have hdd:c.dv[i]? = some c.dv[i]:=List.getElem?_eq_getElem hil
 generalize c.dv[i] = d at hdd
 have hdo:=dv_ok hz (List.mem_of_getElem? hdd)
 simp (disch:=first|omega|decide) only [rUz]
 obtain ⟨b',f',ro',cells',q1,q2,q3,q4,q5,_⟩:=row_idx hcX.dv slrD srD hdd
 have qp:=part_at prD q4 q5
 repeat refine S.seq ?_
 refine S.region ?_
 simp (disch:=first|omega|decide) only [rUz,hb9X,fieldAddr_ptr fA3 lrD,qrD,co3,q1,q3,qp,wr_alloc zrD]
 obtain ⟨B12,hB12⟩:∃ x,x = H3.nx:=⟨_,rfl⟩
 refine wr_storeN (B:=H3.nx) (c:=[iv 0,iv 0,iv 0]) (fam:=H3.nx) (k:=H3.nx) (l:=c3 d) (by simp (disch:=first|omega|decide) only [rUz]) (by simp (disch:=first|omega|decide) only [rUz]) srD (by omega) rfl (ag_eq rfl) (af_eq rfl) rfl ?_
 have hkY:Kp H3 ((H3.add [iv 0,iv 0,iv 0]).upd H3.nx (c3 d) H3.nx):=Kp.refl.add.upd (Nat.le_refl _)
 have hb12:((H3.add [iv 0,iv 0,iv 0]).upd H3.nx (c3 d) H3.nx).bl.get B12 = some (.cells (c3 d) B12 false):=by subst hB12; exact upd_eq _ _ _
 have hn12:B12 < ((H3.add [iv 0,iv 0,iv 0]).upd H3.nx (c3 d) H3.nx).nx:=by show B12 < H3.nx + 1; omega
 simp (disch:=first|omega|decide) only [rUz]
 rw [← hB12]
 rw [← hB12] at hkY hb12 hn12
 generalize (H3.add [iv 0,iv 0,iv 0]).upd B12 (c3 d) B12 = H at hkY hb12 hn12 ⊢
 clear q1 q2 q3 q4 q5 qp hB12
 have hb9:=(hkY.get hn9X).trans hb9X
 have hb10:=(hkY.get hnX).trans hb10X
 have hn10:B10 < H.nx:=Nat.lt_of_lt_of_le hnX hkY.1
 have hn9:B9 < H.nx:=Nat.lt_of_lt_of_le hn9X hkY.1
 have hc1:=hcX.mono hkY
 have hsh1:=SlAt.mono hshX hkY
 have hsa1:=SlAt.mono hsaX hkY
 have hsb1:=SlAt.mono hsbX hkY
 have hk1:=hkX0.trans hkY
 have ha1:IAt H ua a:=SlAt.ints hsa1
 have hb1:IAt H ub b:=SlAt.ints hsb1
 clear hcX hshX hsaX hsbX hkX0 hkY hn9X hnX hb9X hb10X
 clear o9
 clear H3 g2
 repeat refine S.seq ?_
 refine S.region ?_
 simp (disch:=first|omega|decide) only [rUz]
 repeat refine S.seq ?_
 refine S.region ?_
 simp (disch:=first|omega|decide) only [rUz]
 repeat refine S.seq ?_
 refine S.block ?_
 refine S.loop (ι:=Nat) (INo c d.1 d.2.1 a b (i:Int) B9 B10 B12 H) (fun k=>c.tr.length + 1 - k) ?_ 0 _ _ ?_
 rotate_left
 ·refine ⟨Kp.refl,?_,?_,?_,?_,?_,?_,?_,Nat.zero_le _⟩
  all_goals (first|rfl|(simp (disch:=first|omega|decide) only [rUz]; done)|(simp (disch:=first|omega|decide) only [rUz]; rfl))
 intro k t h ⟨hkp,t9,t10,t11,t12,t13,t14,t15,hk⟩ K' hn he
 have hb9h:=(hkp.get hn9).trans hb9
 have l2:=fun t h1 o=>row_len (hc1.mono hkp).tr isrT t h1 o
 repeat refine S.seq ?_
 refine S.region ?_
 simp (disch:=first|omega|decide) only [rUz,t9,t15,hb9h,fieldAddr_ptr fA2 lrT,qrT,co2,l2]
 repeat refine S.seq ?_
 refine S.cond (v:=decide ((k:Int) < (c.tr.length:Int))) (by first|rfl|(simp (disch:=first|omega|decide) only [rUz,↓reduceIte,Nat.reduceEqDiff,Nat.reduceAdd] <;> rfl)) (fun e=>?_) (fun e=>?_)
 rotate_left
 ·have hkn:k = c.tr.length:=by have:=of_decide_eq_false e; omega
  refine S.exit (he _ _ _ _ (fun e=>by cases e) ?_)
  simp (disch:=first|omega|decide) only [rUz]
  rw [List.take_of_length_le (by omega)] at t13 t14
  have hwz:=tell_of hz htr hi0.1 hi0.2
  have hvu:veq (.agg ⟨[ua,ub]⟩) (.agg ⟨[ua,ub]⟩) = true:=by simp only [veq,veqA,veqL,ha1.veq,hb1.veq,Bool.and_self]
  have hj1:=hkp
  clear hkp l2 hb9h e he hn
  have hx1:=(hj1.get hn9).trans hb9
  have hy1:=(hj1.get hn10).trans hb10
  repeat refine S.seq ?_
  refine S.drawnL [(false,0),(true,1),(false,0),(true,7),(false,0),(true,31),(false,63),(false,127),(false,127),(false,255),(false,1023)] (by kernel_rfl) (by kernel_rfl) (by kernel_rfl) ?_
  simp (disch:=first|omega|decide) only [rUz,rDz,infoL,Nat.reduceSub,t9,t10,t11,hx1,hy1,part_0 pA (coV_len c.hs v),prU2]
  refine draw_pick' rfl ?_
  simp (disch:=first|omega|decide) only [rUz,rDz,infoL,Nat.reduceSub,t10,t11,hy1,prU2]
  refine draw_pick' rfl ?_
  simp (disch:=first|omega|decide) only [rUz,rDz,infoL,Nat.reduceSub,t10,t11,hy1,prU2]
  refine drW_brings (fid:=12) (first:=#[]) (captured:=#[]) (Post:=fun u h=>∃ v',u = .agg ⟨coV c.hs v'⟩ ∧ CoAt h v' c) rfl (hoff _ _ _ rfl) (by simp (disch:=first|omega|decide) only [rUz]; exact company_y S hoff _ v c (hc1.mono hj1) (SlAt.mono hsh1 hj1) hth) (Nat.le_of_ble_eq_true rfl) ?_
  rintro u gA hkA ⟨vA,rfl,hcA⟩
  have hjA:=hj1.trans hkA
  have hyA:=(hjA.get hn10).trans hb10
  refine ⟨?_,?_⟩
  ·try simp (disch:=first|decide|rfl) only [again_nil,again_skip,again_free]
   rw [again_same (v:=.agg ⟨[ua,ub]⟩) (by simp (disch:=first|omega|decide) only [rUz,rDz,infoL,Nat.reduceSub,t10,hyA,prU2]) hvu]
   try simp (disch:=first|decide|rfl) only [again_nil,again_skip,again_free]
  simp (disch:=first|omega|decide) only [rUz,rDz,infoL,Nat.reduceSub]
  refine drW_brings (fid:=13) (first:=#[]) (captured:=#[]) (Post:=fun u h=>∃ ua' ub',u = .agg ⟨[ua',ub']⟩ ∧ IAt h ua' a ∧ IAt h ub' b) rfl (hoff _ _ _ rfl) (by simp (disch:=first|omega|decide) only [rUz]; exact truth_y S hoff _ ua ub a b (SlAt.mono hsa1 hjA) (SlAt.mono hsb1 hjA) (by omega) (by omega)) (Nat.le_of_ble_eq_true rfl) ?_
  rintro u gB hkB ⟨wa,wb,rfl,hwa,hwb⟩
  refine ⟨?_,?_⟩
  ·try simp (disch:=first|decide|rfl) only [again_nil,again_skip,again_free]
  simp (disch:=first|omega|decide) only [rUz,rDz,infoL,Nat.reduceSub]
  refine drW_brings (fid:=16) (first:=#[]) (captured:=#[]) (Post:=fun u h=>Tells h c a b i (payP c (datesL c a b)) u) rfl (hoff _ _ _ rfl) (by simp (disch:=first|omega|decide) only [rUz]; exact Paid_y S hoff gB vA c (hcA.mono hkB) hth wa wb a b hwa hwb (by omega) i) (Nat.le_of_ble_eq_true rfl) ?_
  rintro u g2 hkC ⟨pv,rfl,ok1,_⟩
  refine ⟨?_,?_⟩
  ·try simp (disch:=first|decide|rfl) only [again_nil,again_skip,again_free]
  simp (disch:=first|omega|decide) only [rUz,rDz,infoL,Nat.reduceSub,tup0,tup1]
  obtain ⟨d1,hd1,hr1⟩:=ok1 hwz
  rw [Int.toNat_natCast] at hd1
  obtain rfl:d = d1:=Option.some.inj (hdd.symm.trans hd1)
  have st1:=hkA.trans (hkB.trans hkC)
  have hj2:=hjA.trans (hkB.trans hkC)
  clear hcA hwa hwb hjA hyA hkA hkB hkC hx1 hy1 ok1 hd1
  have hx2:=(hj2.get hn9).trans hb9
  have hy2:=(hj2.get hn10).trans hb10
  repeat refine S.seq ?_
  refine S.drawnL [(false,0),(true,1),(false,0),(true,7),(false,0),(true,31),(false,63),(false,127),(false,127),(false,255),(false,1023)] (by kernel_rfl) (by kernel_rfl) (by kernel_rfl) ?_
  simp (disch:=first|omega|decide) only [rUz,rDz,infoL,Nat.reduceSub,t9,t10,t11,hx2,hy2,part_0 pA (coV_len c.hs v),prU2]
  refine draw_pick' rfl ?_
  simp (disch:=first|omega|decide) only [rUz,rDz,infoL,Nat.reduceSub,t10,t11,hy2,prU2]
  refine draw_pick' rfl ?_
  simp (disch:=first|omega|decide) only [rUz,rDz,infoL,Nat.reduceSub,t10,t11,hy2,prU2]
  refine drW_brings (fid:=12) (first:=#[]) (captured:=#[]) (Post:=fun u h=>∃ v',u = .agg ⟨coV c.hs v'⟩ ∧ CoAt h v' c) rfl (hoff _ _ _ rfl) (by simp (disch:=first|omega|decide) only [rUz]; exact company_y S hoff _ v c (hc1.mono hj2) (SlAt.mono hsh1 hj2) hth) (Nat.le_of_ble_eq_true rfl) ?_
  rintro u gA hkA ⟨vA,rfl,hcA⟩
  have hjA:=hj2.trans hkA
  have hyA:=(hjA.get hn10).trans hb10
  refine ⟨?_,?_⟩
  ·try simp (disch:=first|decide|rfl) only [again_nil,again_skip,again_free]
   rw [again_same (v:=.agg ⟨[ua,ub]⟩) (by simp (disch:=first|omega|decide) only [rUz,rDz,infoL,Nat.reduceSub,t10,hyA,prU2]) hvu]
   try simp (disch:=first|decide|rfl) only [again_nil,again_skip,again_free]
  simp (disch:=first|omega|decide) only [rUz,rDz,infoL,Nat.reduceSub]
  refine drW_brings (fid:=13) (first:=#[]) (captured:=#[]) (Post:=fun u h=>∃ ua' ub',u = .agg ⟨[ua',ub']⟩ ∧ IAt h ua' a ∧ IAt h ub' b) rfl (hoff _ _ _ rfl) (by simp (disch:=first|omega|decide) only [rUz]; exact truth_y S hoff _ ua ub a b (SlAt.mono hsa1 hjA) (SlAt.mono hsb1 hjA) (by omega) (by omega)) (Nat.le_of_ble_eq_true rfl) ?_
  rintro u gB hkB ⟨wa,wb,rfl,hwa,hwb⟩
  refine ⟨?_,?_⟩
  ·try simp (disch:=first|decide|rfl) only [again_nil,again_skip,again_free]
  simp (disch:=first|omega|decide) only [rUz,rDz,infoL,Nat.reduceSub]
  refine drW_brings (fid:=21) (first:=#[]) (captured:=#[]) (Post:=fun u h=>Tells h c a b i (clmP c (datesL c a b)) u) rfl (hoff _ _ _ rfl) (by simp (disch:=first|omega|decide) only [rUz]; exact Claims_y S hoff gB vA c (hcA.mono hkB) hth wa wb a b hwa hwb (by omega) i) (Nat.le_of_ble_eq_true rfl) ?_
  rintro u g3 hkC ⟨qv,rfl,ok2,_⟩
  refine ⟨?_,?_⟩
  ·try simp (disch:=first|decide|rfl) only [again_nil,again_skip,again_free]
  simp (disch:=first|omega|decide) only [rUz,rDz,infoL,Nat.reduceSub,tup0,tup1]
  obtain ⟨d2,hd2,hr2⟩:=ok2 hwz
  rw [Int.toNat_natCast] at hd2
  obtain rfl:d = d2:=Option.some.inj (hdd.symm.trans hd2)
  have st2:=hkA.trans (hkB.trans hkC)
  have hj3:=hjA.trans (hkB.trans hkC)
  clear hcA hwa hwb hjA hyA hkA hkB hkC hx2 hy2 ok2 hd2
  have hx3:=(hj3.get hn9).trans hb9
  have hy3:=(hj3.get hn10).trans hb10
  repeat refine S.seq ?_
  refine S.drawnL [(false,0),(true,1),(false,0),(true,7),(false,0),(true,31),(false,63),(false,127),(false,127),(false,255),(false,1023)] (by kernel_rfl) (by kernel_rfl) (by kernel_rfl) ?_
  simp (disch:=first|omega|decide) only [rUz,rDz,infoL,Nat.reduceSub,t9,t10,t11,hx3,hy3,part_0 pA (coV_len c.hs v),prU2]
  refine draw_pick' rfl ?_
  simp (disch:=first|omega|decide) only [rUz,rDz,infoL,Nat.reduceSub,t10,t11,hy3,prU2]
  refine draw_pick' rfl ?_
  simp (disch:=first|omega|decide) only [rUz,rDz,infoL,Nat.reduceSub,t10,t11,hy3,prU2]
  refine drW_brings (fid:=12) (first:=#[]) (captured:=#[]) (Post:=fun u h=>∃ v',u = .agg ⟨coV c.hs v'⟩ ∧ CoAt h v' c) rfl (hoff _ _ _ rfl) (by simp (disch:=first|omega|decide) only [rUz]; exact company_y S hoff _ v c (hc1.mono hj3) (SlAt.mono hsh1 hj3) hth) (Nat.le_of_ble_eq_true rfl) ?_
  rintro u gA hkA ⟨vA,rfl,hcA⟩
  have hjA:=hj3.trans hkA
  have hyA:=(hjA.get hn10).trans hb10
  refine ⟨?_,?_⟩
  ·try simp (disch:=first|decide|rfl) only [again_nil,again_skip,again_free]
   rw [again_same (v:=.agg ⟨[ua,ub]⟩) (by simp (disch:=first|omega|decide) only [rUz,rDz,infoL,Nat.reduceSub,t10,hyA,prU2]) hvu]
   try simp (disch:=first|decide|rfl) only [again_nil,again_skip,again_free]
  simp (disch:=first|omega|decide) only [rUz,rDz,infoL,Nat.reduceSub]
  refine drW_brings (fid:=13) (first:=#[]) (captured:=#[]) (Post:=fun u h=>∃ ua' ub',u = .agg ⟨[ua',ub']⟩ ∧ IAt h ua' a ∧ IAt h ub' b) rfl (hoff _ _ _ rfl) (by simp (disch:=first|omega|decide) only [rUz]; exact truth_y S hoff _ ua ub a b (SlAt.mono hsa1 hjA) (SlAt.mono hsb1 hjA) (by omega) (by omega)) (Nat.le_of_ble_eq_true rfl) ?_
  rintro u gB hkB ⟨wa,wb,rfl,hwa,hwb⟩
  refine ⟨?_,?_⟩
  ·try simp (disch:=first|decide|rfl) only [again_nil,again_skip,again_free]
  simp (disch:=first|omega|decide) only [rUz,rDz,infoL,Nat.reduceSub]
  refine drW_brings (fid:=11) (first:=#[]) (captured:=#[]) (Post:=fun u h=>Tells h c a b i (rgtP c (datesL c a b)) u) rfl (hoff _ _ _ rfl) (by simp (disch:=first|omega|decide) only [rUz]; exact Rights_y S hoff gB vA c (hcA.mono hkB) hth wa wb a b hwa hwb (by omega) i) (Nat.le_of_ble_eq_true rfl) ?_
  rintro u g4 hkC ⟨rv,rfl,ok3,_⟩
  refine ⟨?_,?_⟩
  ·try simp (disch:=first|decide|rfl) only [again_nil,again_skip,again_free]
  simp (disch:=first|omega|decide) only [rUz,rDz,infoL,Nat.reduceSub,tup0,tup1]
  obtain ⟨d3,hd3,hr3⟩:=ok3 hwz
  rw [Int.toNat_natCast] at hd3
  obtain rfl:d = d3:=Option.some.inj (hdd.symm.trans hd3)
  have st3:=hkA.trans (hkB.trans hkC)
  have hj4:=hjA.trans (hkB.trans hkC)
  clear hcA hwa hwb hjA hyA hkA hkB hkC hx3 hy3 ok3 hd3
  have hx4:=(hj4.get hn9).trans hb9
  have l2:=fun t h1 o=>row_len (hc1.mono hj4).tr isrT t h1 o
  have hdl:(datesL c a b).length = c.tr.length:=by unfold datesL; rw [List.length_zipWith]; omega
  have hql:(clmP c (datesL c a b) d).length = c.tr.length:=(clmP_len hdl d).trans hdl
  have hq4:=hr2.mono st3
  have lq:∀ (t:T Value) (h1:AHeap) (o:Oper),rLen Tryz.prog t h1 o 22 qv = some (iv (c.tr.length:Int)):=fun t h1 o=>by rw [← hql]; exact iv_len hq4 t h1 o
  repeat refine S.seq ?_
  refine S.region ?_
  simp (disch:=first|omega|decide) only [rUz,hwz,decide_true,Bool.not_true,lq,t9,hx4,fieldAddr_ptr fA2 lrT,qrT,co2,l2]
  repeat refine S.seq ?_
  refine S.cond (v:=false) (by first|rfl|(simp (disch:=first|omega|decide) only [rUz,↓reduceIte,Nat.reduceEqDiff,Nat.reduceAdd] <;> rfl)) (fun e=>by cases e) (fun _=>?_)
  repeat refine S.seq ?_
  refine S.skip ?_
  simp (disch:=first|omega|decide) only [rUz]
  cases hE:(earlyB c.cl d.1 b || lateB d.2.1 a) with
  | false =>
   rw [Bool.or_eq_false_iff] at hE
   rw [hE.1] at t13
   rw [hE.2] at t14
   repeat refine S.seq ?_
   refine S.region ?_
   simp (disch:=first|omega|decide) only [rUz,t13,t14,un_not,Bool.not_false]
   repeat refine S.seq ?_
   refine S.cond (v:=true) (by first|rfl|(simp (disch:=first|omega|decide) only [rUz,↓reduceIte,Nat.reduceEqDiff,Nat.reduceAdd] <;> rfl)) (fun _=>?_) (fun e=>by cases e)
   repeat refine S.seq ?_
   refine S.region ?_
   simp (disch:=first|omega|decide) only [rUz]
   refine awake ?_
   simp (disch:=first|omega|decide) only [rUz]
   refine S.ret ?_
   try simp only [seqK_ret,blockK_ret]
   subst hF
   simp only [finish,endMarks]
   rw [show Tryz.f5.results.toList = [.tmp 8] from rfl]
   simp (disch:=first|omega|decide) only [resA,ev_tmp,tget_ne,tget_eq,get_ne,get_eq,upd_eq,upd_ne,ag_eq,ag_ne,result1]
   exact hKr _ (hk1.trans hj4)
  | true =>
   have hag:=none_clm hval hdt hdo.2.1 hE
   rw [none_pay hval hdt hdo.2.1 hE] at hr1
   have hp4:=(hr1.mono st2).mono st3
   have lr:(rgtP c (datesL c a b) d).length ≤ 1000000:=by
    have:=hval.held
    have:=hval.h4
    unfold rgtP; rw [muls_len,List.length_take]; omega
   repeat refine S.seq ?_
   refine S.region ?_
   generalize hJJ:(fun (t:T Value) (h:AHeap)=>_) = KJ
   suffices hJ:∀ t,tget t 16 = pv → tget t 18 = qv → tget t 20 = rv → tget t 127 = .bool false → KJ t g4 = true by
    clear hJJ hKr
    cases hE1:earlyB c.cl d.1 b with
    | true =>
     rw [hE1] at t13
     simp (disch:=first|omega|decide) only [rUz,t13,un_not,Bool.not_true]
     refine hJ _ ?_ ?_ ?_ ?_
     all_goals (first|rfl|(simp (disch:=first|omega|decide) only [rUz]; done)|(simp (disch:=first|omega|decide) only [rUz]; rfl))
    | false =>
     rw [hE1,Bool.false_or] at hE
     rw [hE1] at t13
     rw [hE] at t14
     simp (disch:=first|omega|decide) only [rUz,t13,t14,un_not,Bool.not_false,Bool.not_true]
     refine hJ _ ?_ ?_ ?_ ?_
     all_goals (first|rfl|(simp (disch:=first|omega|decide) only [rUz]; done)|(simp (disch:=first|omega|decide) only [rUz]; rfl))
   clear t9 t10 t11 t12 t13 t14 t15 l2 hx4
   try clear t
   intro t t16 t18 t20 t127
   subst hJJ
   simp only [seqK_normal]
   repeat refine S.seq ?_
   refine S.cond (v:=false) (by first|rfl|(simp (disch:=first|omega|decide) only [rUz,↓reduceIte,Nat.reduceEqDiff,Nat.reduceAdd,t127] <;> rfl)) (fun e=>by cases e) (fun _=>?_)
   repeat refine S.seq ?_
   refine S.skip ?_
   simp (disch:=first|omega|decide) only [rUz]
   repeat refine S.seq ?_
   refine S.region ?_
   simp (disch:=first|omega|decide) only [rUz]
   repeat refine S.seq ?_
   refine S.block ?_
   refine S.loop (ι:=Nat) (INz pv qv rv c.tr.length g4) (fun k=>c.tr.length + 1 - k) ?_ 0 _ _ ?_
   rotate_left
   ·refine ⟨rfl,?_,?_,?_,?_,Nat.zero_le _⟩
    all_goals (first|rfl|(simp (disch:=first|omega|decide) only [rUz,t16,t18,t20]; done)|(simp (disch:=first|omega|decide) only [rUz,t16,t18,t20]; rfl))
   clear t16 t18 t20 t127
   try clear t
   try clear K'
   intro k t h ⟨hh,t16,t18,t20,t22,hk⟩ K' hn he
   subst hh
   repeat refine S.seq ?_
   refine S.region ?_
   simp (disch:=first|omega|decide) only [rUz,t22,t18,lq]
   repeat refine S.seq ?_
   refine S.cond (v:=decide ((k:Int) < (c.tr.length:Int))) (by first|rfl|(simp (disch:=first|omega|decide) only [rUz,↓reduceIte,Nat.reduceEqDiff,Nat.reduceAdd] <;> rfl)) (fun e=>?_) (fun e=>?_)
   rotate_left
   ·refine S.exit (he _ _ _ _ (fun e=>by cases e) ?_)
    simp (disch:=first|omega|decide) only [rUz]
    repeat refine S.seq ?_
    refine S.region ?_
    simp (disch:=first|omega|decide) only [rUz,t16,t20]
    refine wr_brings (fid:=14) (first:=#[]) (captured:=#[]) (Post:=fun u _=>u = .bool true) rfl (hoff _ _ _ rfl) (by simp (disch:=first|omega|decide) only [rUz]; exact same_y S hoff _ pv rv (rgtP c (datesL c a b) d) hp4 hr3 lr) ?_
    rintro u e6 he6 rfl
    simp (disch:=first|omega|decide) only [rUz]
    refine awake ?_
    simp (disch:=first|omega|decide) only [rUz]
    refine S.ret ?_
    try simp only [seqK_ret,blockK_ret]
    subst hF
    simp only [finish,endMarks]
    rw [show Tryz.f5.results.toList = [.tmp 8] from rfl]
    simp (disch:=first|omega|decide) only [resA,ev_tmp,tget_ne,tget_eq,get_ne,get_eq,upd_eq,upd_ne,ag_eq,ag_ne,result1]
    exact hKr _ ((hk1.trans hj4).trans he6)
   have hkn2:k < c.tr.length:=by have:=of_decide_eq_true e; omega
   obtain ⟨bq,fq,rq,q1,q2,q3,q4⟩:=hq4.idx slI s3' (by omega:k < (clmP c (datesL c a b) d).length)
   rw [hag _ (List.getElem_mem _)] at q4
   clear e
   repeat refine S.seq ?_
   refine S.skip ?_
   simp (disch:=first|omega|decide) only [rUz]
   repeat refine S.seq ?_
   refine S.block ?_
   repeat refine S.seq ?_
   refine S.region ?_
   simp (disch:=first|omega|decide) only [rUz,t18,t22,q1,q3,p3,q4,decide_true,Bool.not_true]
   repeat refine S.seq ?_
   refine S.cond (v:=false) (by first|rfl|(simp (disch:=first|omega|decide) only [rUz,↓reduceIte,Nat.reduceEqDiff,Nat.reduceAdd] <;> rfl)) (fun e=>by cases e) (fun _=>?_)
   repeat refine S.seq ?_
   refine S.skip ?_
   simp (disch:=first|omega|decide) only [rUz]
   repeat refine S.seq ?_
   refine S.region ?_
   simp (disch:=first|omega|decide) only [rUz,t22]
   refine hn (k + 1) _ _ (by omega) ⟨rfl,?_,?_,?_,?_,by omega⟩
   all_goals (first|rfl|(simp (disch:=first|omega|decide) only [rUz,t16,t18,t20]; done)|(simp (disch:=first|omega|decide) only [rUz,t16,t18,t20]; rfl))
 have hkn:k < c.tr.length:=by have:=of_decide_eq_true e; omega
 clear e l2
 have hka:k < a.length:=by omega
 have hkb:k < b.length:=by omega
 have hps:c.tr[k]? = some c.tr[k]:=List.getElem?_eq_getElem hkn
 have hcl:(c.cl.length:Int) ≤ 1000000:=by have:=hval.cll; omega
 have hdat:=hdt
 unfold datedB at hdat
 rw [Bool.and_eq_true] at hdat
 have hdb:=datG_get hdat.2 hps (List.getElem?_eq_getElem hka) (List.getElem?_eq_getElem hkb)
 have hdf:=dat_facts (Tok.of (hval.tok c.tr[k] (List.getElem_mem hkn))) hdb
 have eE:earlyB c.cl d.1 (b.take (k + 1)) = (earlyB c.cl d.1 (b.take k) && inB (regP c.cl b[k]) 0 (d.1 - 1)):=all_take (List.getElem?_eq_getElem hkb)
 have eL:lateB d.2.1 (a.take (k + 1)) = (lateB d.2.1 (a.take k) && decide (d.2.1 < a[k])):=all_take (List.getElem?_eq_getElem hka)
 obtain ⟨ba,fa,ra,a1,a2,a3,a4⟩:=(ha1.mono hkp).idx slI s3' hka
 obtain ⟨bb,fb,rb,d1,d2,d3,d4⟩:=(hb1.mono hkp).idx slI s3' hkb
 generalize b[k] = e at d4 hdf eE
 obtain ⟨s,hsa⟩:∃ s,s = a[k]:=⟨_,rfl⟩
 rw [← hsa] at a4 hdf eL
 have hsa:=hsa.symm
 clear hdb hdat hps
 have hb10h:=(hkp.get hn10).trans hb10
 have hb12h:=(hkp.get hn12).trans hb12
 repeat refine S.seq ?_
 refine S.skip ?_
 simp (disch:=first|omega|decide) only [rUz]
 repeat refine S.seq ?_
 refine S.block ?_
 repeat refine S.seq ?_
 refine S.drawnL [(false,0),(false,1),(false,3),(false,3),(false,11),(false,3),(false,59),(false,123),(true,255),(false,3),(false,515),(false,1539),(true,4095),(false,8191),(false,16383)] (by kernel_rfl) (by kernel_rfl) (by kernel_rfl) ?_
 generalize hJJ:(fun (t:T Value) (h:AHeap)=>_) = KJ
 suffices hJ:∀ t h,Kp H h → tget t 9 = ptr0 B9 → tget t 10 = ptr0 B10 → tget t 11 = iv (i:Int) → tget t 12 = ptr0 B12 → tget t 13 = .bool (earlyB c.cl d.1 (b.take (k + 1))) → tget t 14 = .bool (lateB d.2.1 (a.take k)) → tget t 15 = iv (k:Int) → KJ t h = true by
  clear hJJ hn he hKr
  cases hE:earlyB c.cl d.1 (b.take k) with
  | false =>
   rw [hE,Bool.false_and] at eE
   rw [hE] at t13
   simp (disch:=first|omega|decide) only [rUz,rDz,infoL,Nat.reduceSub,t13]
   refine draw_pick' rfl ?_
   simp (disch:=first|omega|decide) only [rUz,rDz,infoL,Nat.reduceSub]
   refine draw_pick' rfl ?_
   simp (disch:=first|omega|decide) only [rUz,rDz,infoL,Nat.reduceSub]
   refine draw_pick' rfl ?_
   simp (disch:=first|omega|decide) only [rUz,rDz,infoL,Nat.reduceSub]
   refine hJ _ _ hkp ?_ ?_ ?_ ?_ ?_ ?_ ?_
   all_goals (first|rfl|(simp (disch:=first|omega|decide) only [rUz,t9,t10,t11,t12,t14,t15,eE]; done)|(simp (disch:=first|omega|decide) only [rUz,t9,t10,t11,t12,t14,t15,eE]; rfl))
  | true =>
   rw [hE,Bool.true_and] at eE
   rw [hE] at t13
   simp (disch:=first|omega|decide) only [rUz,rDz,infoL,Nat.reduceSub,t13,t9,t10,t15,hb9h,hb10h,part_0 pA (coV_len c.hs v),fieldAddr_ptr frU1 lI,qI,p3,d1,d3,d4]
   refine draw_pick' rfl ?_
   simp (disch:=first|omega|decide) only [rUz,rDz,infoL,Nat.reduceSub,t12,hb12h,fieldAddr_ptr frD0 s3,p3,c30]
   refine draw_pick' rfl ?_
   simp (disch:=first|omega|decide) only [rUz,rDz,infoL,Nat.reduceSub,t12,hb12h,fieldAddr_ptr frD0 s3,p3,c30]
   refine draw_pick' rfl ?_
   simp (disch:=first|omega|decide) only [rUz,rDz,infoL,Nat.reduceSub,t12,hb12h,fieldAddr_ptr frD0 s3,p3,c30]
   refine drW_brings (fid:=20) (first:=#[]) (captured:=#[]) (Post:=fun u _=>u = iv (regP c.cl e)) rfl (hoff _ _ _ rfl) (by simp (disch:=first|omega|decide) only [rUz]; exact rreg_y S hoff _ v c (hc1.mono hkp) hcl e (by omega) (by omega)) (Nat.le_of_ble_eq_true rfl) ?_
   rintro u g hkg rfl
   have hkH:=hkp.trans hkg
   have hb12g:=(hkH.get hn12).trans hb12
   refine ⟨?_,?_⟩
   ·try simp (disch:=first|decide|rfl) only [again_nil,again_skip,again_free]
    rw [again_same (v:=iv d.1) (by simp (disch:=first|omega|decide) only [rUz,rDz,infoL,Nat.reduceSub,t12,hb12g,fieldAddr_ptr frD0 s3,p3,c30]) veq_int]
    try simp (disch:=first|decide|rfl) only [again_nil,again_skip,again_free]
   simp (disch:=first|omega|decide) only [rUz,rDz,infoL,Nat.reduceSub]
   refine drW_brings (fid:=19) (first:=#[]) (captured:=#[]) (Post:=fun u h'=>u = .bool (inB (regP c.cl e) 0 (d.1 - 1)) ∧ h' = g) rfl (hoff _ _ _ rfl) (by simp (disch:=first|omega|decide) only [rUz]; exact in_y S _ _ _ _) (Nat.le_of_ble_eq_true rfl) ?_
   rintro u g2 - ⟨rfl,rfl⟩
   refine ⟨?_,?_⟩
   ·try simp (disch:=first|decide|rfl) only [again_nil,again_skip,again_free]
   simp (disch:=first|omega|decide) only [rUz,rDz,infoL,Nat.reduceSub]
   refine hJ _ _ hkH ?_ ?_ ?_ ?_ ?_ ?_ ?_
   all_goals (first|rfl|(simp (disch:=first|omega|decide) only [rUz,t9,t10,t11,t12,t14,t15,eE]; done)|(simp (disch:=first|omega|decide) only [rUz,t9,t10,t11,t12,t14,t15,eE]; rfl))
 clear t9 t10 t11 t12 t13 t14 t15 a1 a2 a3 a4 d1 d2 d3 d4 hb9h hb10h hb12h hkp eE
 try clear t
 try clear h
 intro t h hkp t9 t10 t11 t12 t13 t14 t15
 subst hJJ
 simp only [seqK_normal]
 obtain ⟨ba,fa,ra,a1,a2,a3,a4⟩:=(ha1.mono hkp).idx slI s3' hka
 rw [hsa] at a4
 have hb10h:=(hkp.get hn10).trans hb10
 have hb12h:=(hkp.get hn12).trans hb12
 cases hL:lateB d.2.1 (a.take k) with
 | false =>
  rw [hL,Bool.false_and] at eL
  rw [hL] at t14
  repeat refine S.seq ?_
  refine S.drawnL [(false,0),(false,1),(false,3),(false,7),(false,3),(false,31),(false,63),(false,3),(false,131),(false,511),(false,1023),(false,2047)] (by kernel_rfl) (by kernel_rfl) (by kernel_rfl) ?_
  simp (disch:=first|omega|decide) only [rUz,rDz,infoL,Nat.reduceSub,t14]
  repeat refine S.seq ?_
  refine S.region ?_
  simp (disch:=first|omega|decide) only [rUz,t15]
  refine hn (k + 1) _ _ (by omega) ⟨hkp,?_,?_,?_,?_,?_,?_,?_,by omega⟩
  all_goals (first|rfl|(simp (disch:=first|omega|decide) only [rUz,t9,t10,t11,t12,t13,eL]; done)|(simp (disch:=first|omega|decide) only [rUz,t9,t10,t11,t12,t13,eL]; rfl))
 | true =>
  rw [hL,Bool.true_and] at eL
  rw [hL] at t14
  repeat refine S.seq ?_
  refine S.drawnL [(false,0),(false,1),(false,3),(false,7),(false,3),(false,31),(false,63),(false,3),(false,131),(false,511),(false,1023),(false,2047)] (by kernel_rfl) (by kernel_rfl) (by kernel_rfl) ?_
  simp (disch:=first|omega|decide) only [rUz,rDz,infoL,Nat.reduceSub,t14,t10,t12,t15,hb10h,hb12h,fieldAddr_ptr frU0 lI,qI,p3,a1,a3,a4,fieldAddr_ptr frD1 s3,c31]
  repeat refine S.seq ?_
  refine S.region ?_
  simp (disch:=first|omega|decide) only [rUz,t15]
  refine hn (k + 1) _ _ (by omega) ⟨hkp,?_,?_,?_,?_,?_,?_,?_,by omega⟩
  all_goals (first|rfl|(simp (disch:=first|omega|decide) only [rUz,t9,t10,t11,t12,t13,eL]; done)|(simp (disch:=first|omega|decide) only [rUz,t9,t10,t11,t12,t13,eL]; rfl))
end Go.Proofs.Cp
