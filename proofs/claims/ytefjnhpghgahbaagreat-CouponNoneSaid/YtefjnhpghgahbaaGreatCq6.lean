import Derived.Test.YtefjnhpghgahbaaGreatCq5
/- What each house has, by the program. -/
namespace Go.Proofs.Cp
open Go Go.Ev
set_option linter.unusedSimpArgs false

def facU (c:Co) (sh a b:Int):Int:=(sh * 720 * (overP c.sp a b).1).tdiv (overP c.sp a b).2
theorem facU_bnd {c:Co} (hv:Val c) {sh a b:Int} (h0:0 ≤ sh) (h1:sh ≤ 100):0 ≤ facU c sh a b ∧ facU c sh a b ≤ 2592000:=by
 have hf:=over_room hv.sok hv.sl a b
 unfold facU
 have h2:=hf.le
 have h3:=hf.1
 have h4:=hf.2.2.1
 have hm0:0 ≤ sh * 720 * (overP c.sp a b).1:=Int.mul_nonneg (by omega) (by omega)
 have hm1:sh * 720 * (overP c.sp a b).1 ≤ (sh * 720) * 36:=Int.mul_le_mul_of_nonneg_left (by omega) (by omega)
 rw [Int.tdiv_eq_ediv_of_nonneg hm0]
 have:=Int.ediv_le_self (overP c.sp a b).2 hm0
 exact ⟨Int.ediv_nonneg hm0 (by omega),by omega⟩
def hold0 (c:Co) (day:Int):Nat → List Int
 | 0=>[0,0,0,0]
 | k + 1=>(hold0 c day k).set k (facU c (c.held.getD k 0) (-1) day)
theorem hold0_len (c:Co) (day:Int):∀ k,(hold0 c day k).length = 4
 | 0=>rfl
 | k + 1=>by rw [hold0,List.length_set,hold0_len c day k]
theorem hold0_bnd {c:Co} (hv:Val c) (day:Int):∀ k,bndL 2592000 (hold0 c day k)
 | 0=>fun x hx=>by simp [hold0] at hx; omega
 | k + 1=>fun x hx=>by
  rw [hold0] at hx
  rcases List.mem_or_eq_of_mem_set hx with hx|rfl
  ·exact hold0_bnd hv day k x hx
  ·have hs:0 ≤ c.held.getD k 0 ∧ c.held.getD k 0 ≤ 100:=by
    rw [List.getD_eq_getElem?_getD]
    cases e:c.held[k]? with
    | none=>simp
    | some y=>exact hv.hok y (List.mem_of_getElem? e)
   have:=facU_bnd hv (a:=-1) (b:=day) hs.1 hs.2
   omega
def holdG (c:Co) (day:Int) (q:R2 → Bool):List Tr → List R2 → List Int → List Int
 | x :: r,d :: ds,l=>holdG c day q r ds (bif q d then aftL l x (facU c x.sh d.1 day) else l)
 | _,_,l=>l
def holdP (c:Co) (ds:List R2) (day:Int) (q:R2 → Bool):List Int:=holdG c day q c.tr ds (hold0 c day c.held.length)
theorem holdG_nil (c:Co) (day:Int) (q:R2 → Bool) (ds:List R2) (l:List Int):holdG c day q [] ds l = l:=by
 unfold holdG; rfl
theorem holdG_len (c:Co) (day:Int) (q:R2 → Bool):∀ (tr:List Tr) (ds:List R2) (l:List Int),(holdG c day q tr ds l).length = l.length
 | [],ds,l=>by rw [holdG_nil]
 | x :: r,[],l=>by unfold holdG; rfl
 | x :: r,d :: ds,l=>by
  rw [holdG,holdG_len c day q r ds]
  cases q d with
  | true=>exact aftL_len _ _ _
  | false=>rfl
theorem holdP_len (c:Co) (ds:List R2) (day:Int) (q:R2 → Bool):(holdP c ds day q).length = 4:=by
 unfold holdP; rw [holdG_len,hold0_len]

def Mp (h:AHeap) (r:Nat) (c:Co):Prop:=∃ L:FL,h.bl.get r = some (.map (mkF L 0) L.length) ∧ ∀ e,e ∈ L → e.2 = overP c.sp e.1.1 e.1.2
theorem WAt.of {h0 h:AHeap} {Bw r:Nat} {v:Vs} {c:Co} (hw:WAt h0 Bw r v c) (f:Fr h0 r h) (hm:Mp h r c):WAt h Bw r v c:=by
 obtain ⟨L,m,_⟩:=hw.mp
 exact ⟨(f.bl Bw hw.lw hw.ne).trans hw.bw,Nat.lt_of_lt_of_le hw.lw f.le,Nat.lt_of_lt_of_le hw.lr f.le,hw.ne,hw.co.frm f m,hm⟩
theorem frUpdO {H h:AHeap} {r B f:Nat} {d:List Value} (a:Fr H r h) (hB:H.nx ≤ B):Fr H r (h.upd B d f):=
 ⟨a.le,fun k hk hn=>by rw [upd_ne _ _ _ (by omega)]; exact a.bl k hk hn,fun k hk=>by rw [upd_fams]; exact a.fam k hk⟩

variable {pr:Prim} {R:ExT}
structure HK (h0 h:AHeap) (r B8 B9:Nat) (c:Co) (l:List Int):Prop where
 fr:Fr h0 r h
 mp:Mp h r c
 n9:B9 < h.nx
 b8:h.bl.get B8 = some (.cells [iv 0,iv 0,iv 0,iv 0] B8 false)
 f8:h.fams.get B8 = some [B8]
 b9:h.bl.get B9 = some (.cells (l.map iv) B9 false)
 f9:h.fams.get B9 = some [B9]
theorem HK.kp {h0 h h':AHeap} {r B8 B9:Nat} {c:Co} {l:List Int} (k:HK h0 h r B8 B9 c l) (a:Kp h h') (h89:B8 < B9) (hr:r < h.nx):HK h0 h' r B8 B9 c l:=by
 obtain ⟨L,m1,m2⟩:=k.mp
 have h9:=k.n9
 exact ⟨k.fr.kp a,⟨L,(a.get hr).trans m1,m2⟩,Nat.lt_of_lt_of_le k.n9 a.1,(a.get (by omega)).trans k.b8,(a.fget (by omega)).trans k.f8,(a.get h9).trans k.b9,(a.fget h9).trans k.f9⟩
theorem HK.frm {h0 h h':AHeap} {r B8 B9:Nat} {c:Co} {l:List Int} (k:HK h0 h r B8 B9 c l) (a:Fr h r h') (hm:Mp h' r c) (h89:B8 < B9) (h8r:B8 ≠ r) (h9r:B9 ≠ r):HK h0 h' r B8 B9 c l:=by
 have h9:=k.n9
 exact ⟨k.fr.trans a,hm,Nat.lt_of_lt_of_le k.n9 a.le,(a.bl B8 (by omega) h8r).trans k.b8,(a.fam B8 (by omega)).trans k.f8,(a.bl B9 h9 h9r).trans k.b9,(a.fam B9 h9).trans k.f9⟩
theorem HK.set {h0 h:AHeap} {r B8 B9:Nat} {c:Co} {l l':List Int} (k:HK h0 h r B8 B9 c l) (h09:h0.nx ≤ B9) (h89:B8 < B9) (h9r:B9 ≠ r):HK h0 (h.upd B9 (l'.map iv) B9) r B8 B9 c l':=by
 obtain ⟨L,m1,m2⟩:=k.mp
 exact ⟨frUpdO k.fr h09,⟨L,by rw [upd_ne _ _ _ (Ne.symm h9r)]; exact m1,m2⟩,k.n9,by rw [upd_ne _ _ _ (by omega)]; exact k.b8,by rw [upd_fams]; exact k.f8,upd_eq _ _ _,by rw [upd_fams]; exact k.f9⟩
structure IHa (c:Co) (h0:AHeap) (Bw r B8 B9:Nat) (lv fv sv:Value) (day:Int) (k:Nat) (t:T Value) (h:AHeap):Prop where
 hk:HK h0 h r B8 B9 c (hold0 c day k)
 t0:tget t 0 = ptr0 Bw
 t1:tget t 1 = lv
 t2:tget t 2 = iv day
 t3:tget t 3 = fv
 t8:tget t 8 = ptr0 B8
 t9:tget t 9 = ptr0 B9
 t18:tget t 18 = sv
 t19:tget t 19 = iv (c.held.length:Int)
 t20:tget t 20 = iv (k:Int)
 kl:k ≤ c.held.length
structure IHb (c:Co) (h0:AHeap) (Bw r B8 B9:Nat) (lv fv sv:Value) (ds:List R2) (day:Int) (q:R2 → Bool) (k:Nat) (t:T Value) (h:AHeap) (l:List Int):Prop where
 hk:HK h0 h r B8 B9 c l
 t0:tget t 0 = ptr0 Bw
 t1:tget t 1 = lv
 t2:tget t 2 = iv day
 t3:tget t 3 = fv
 t8:tget t 8 = ptr0 B8
 t9:tget t 9 = ptr0 B9
 t38:tget t 38 = sv
 t39:tget t 39 = iv (c.tr.length:Int)
 t40:tget t 40 = iv (k:Int)
 kl:k ≤ c.tr.length
 ll:l.length = 4
 val:holdP c ds day q = holdG c day q (c.tr.drop k) (ds.drop k) l
 bnd:bndL (2592000 * (1 + (k:Int))) l
def IHc (c:Co) (h0:AHeap) (Bw r B8 B9:Nat) (lv fv sv:Value) (ds:List R2) (day:Int) (q:R2 → Bool) (k:Nat) (t:T Value) (h:AHeap):Prop:=∃ l,IHb c h0 Bw r B8 B9 lv fv sv ds day q k t h l
set_option maxHeartbeats 64000000 in
theorem holding_y (S:Ev.Steps Tryz.prog pr R) (hoff:Off pr) (h0:AHeap) (Bw r:Nat) (v:Vs) (c:Co) (hw:WAt h0 Bw r v c) (hv:Val c) (Bc:Nat) (ds:List R2) (hcr:Crs h0 Bc ds) (hdl:ds.length = c.tr.length) (day:Int) (G:FuncId) (hG:offB G = true) (first captured:Array Value) (q:R2 → Bool)
  (hq:∀ h',Fr h0 r h' → ∀ d,Brings Tryz.prog R G (first.toList ++ [.agg ⟨c2 d⟩] ++ captured.toList) h' fun u _=>u = .bool (q d)) :
  BringsX Tryz.prog R 58 [ptr0 Bw,crV Bc ds.length,iv day,.func (.func G) first captured] h0 fun u h=>u = .agg ⟨(holdP c ds day q).map iv⟩ ∧ Fr h0 r h ∧ WAt h Bw r v c:=by
 refine bringsX_of (fn:=Tryz.f58) (c:=(Tryz.f58.body).getD .skip) (by kernel_rfl) rfl (by kernel_rfl) rfl (fun K hK=>?_)
 generalize hF:finish Tryz.prog Tryz.f58 K = KF
 simp only [Tryz.f58,Option.getD_some,argsT,setArgs,fV1_eq,T.setK_eq,id]
 have hhl:c.held.length ≤ 4:=by have:=hv.held; have:=hv.h4; omega
 have htl:=hv.tl
 obtain ⟨L0,hm0,hL0⟩:=hw.mp
 have hcr2:Bc ≠ r:=fun e=>by have:=hcr.bl; rw [e,hm0] at this; cases this
 repeat refine S.seq ?_
 refine S.region ?_
 simp (disch:=first|omega|decide) only [rUz,wr_alloc zH]
 repeat refine S.seq ?_
 refine S.region ?_
 simp (disch:=first|omega|decide) only [rUz,wr_alloc zH]
 obtain ⟨B8,hB8⟩:∃ x,x = h0.nx:=⟨_,rfl⟩
 obtain ⟨B9,hB9⟩:∃ x,x = h0.nx + 1:=⟨_,rfl⟩
 have h08:h0.nx ≤ B8:=by omega
 have h89:B8 < B9:=by omega
 have h09:h0.nx ≤ B9:=by omega
 have hwr:=hw.lr
 have hwl:=hw.lw
 have h8r:B8 ≠ r:=by omega
 have h9r:B9 ≠ r:=by omega
 have hkH:HK h0 ((h0.add [iv 0,iv 0,iv 0,iv 0]).add [iv 0,iv 0,iv 0,iv 0]) r B8 B9 c [0,0,0,0]:=by
  have kA:Kp h0 ((h0.add [iv 0,iv 0,iv 0,iv 0]).add [iv 0,iv 0,iv 0,iv 0]):=Kp.refl.add.add
  refine ⟨kA.fr,⟨L0,(kA.get hwr).trans hm0,hL0⟩,by show B9 < h0.nx + 2; omega,?_,?_,?_,?_⟩
  ·simp (disch:=first|omega|(simp only [nZ] <;> omega)|decide) only [ag_ne]; subst hB8; exact ag_eq rfl
  ·simp (disch:=first|omega|(simp only [nZ] <;> omega)|decide) only [af_ne]; subst hB8; exact af_eq rfl
  ·subst hB9; exact ag_eq rfl
  ·subst hB9; exact af_eq rfl
 rw [← hB9,← hB8]
 generalize (h0.add [iv 0,iv 0,iv 0,iv 0]).add [iv 0,iv 0,iv 0,iv 0] = H at hkH ⊢
 clear hB8 hB9
 have hbwH:=(hkH.fr.bl Bw hwl hw.ne).trans hw.bw
 have l1:=iv_len hw.co.held
 have l2:=fun t h1 o=>row_len hw.co.tr iscT t h1 o
 have ia:∀ k:Nat,k < 4 → rIndexAddr Tryz.prog 97 (.pointer (some ⟨B9,0,none⟩)) (iv (k:Int)) = some (.pointer (some ⟨B9,k,none⟩)):=fun k hk=>by
  rw [indexAddr_arr aH s3' hk,Nat.zero_add,Nat.mul_one]
 have fB:fieldOf Tryz.prog 122 0 = some (0,48):=fW0
 repeat refine S.seq ?_
 refine S.region ?_
 simp (disch:=first|omega|decide) only [rUz,hbwH,fieldAddr_ptr fW0 SB,fieldAddr_ptr fB1 lI,qI,wk1,l1]
 repeat refine S.seq ?_
 refine S.block ?_
 refine S.loop (ι:=Nat) (IHa c h0 Bw r B8 B9 (crV Bc ds.length) (.func (.func G) first captured) v.a day) (fun k=>c.held.length - k) ?_ 0 _ _ ?_
 rotate_left
 ·refine ⟨hkH,?_,?_,?_,?_,?_,?_,?_,?_,?_,Nat.zero_le _⟩
  all_goals (first|rfl|(simp (disch:=first|omega|decide) only [rUz]; done)|(simp (disch:=first|omega|decide) only [rUz]; rfl))
 clear hbwH hkH H
 intro k t h ⟨hk,t0,t1,t2,t3,t8,t9,t18,t19,t20,kl⟩ K' hn he
 repeat refine S.seq ?_
 refine S.region ?_
 simp (disch:=first|omega|decide) only [rUz,t19,t20]
 repeat refine S.seq ?_
 refine S.cond (v:=decide ((k:Int) < (c.held.length:Int))) (by first|rfl|(simp (disch:=first|omega|decide) only [rUz,↓reduceIte,Nat.reduceEqDiff,Nat.reduceAdd] <;> rfl)) (fun e=>?_) (fun e=>?_)
 ·have hkn:k < c.held.length:=by have:=of_decide_eq_true e; omega
  clear e
  have hco:=hw.co.frm hk.fr hm0
  obtain ⟨bh,fh,rh,q1,q2,q3,q4⟩:=hco.held.idx slI s3' hkn
  have hhok:=hv.hok c.held[k] (List.getElem_mem hkn)
  have hgd:c.held.getD k 0 = c.held[k]:=by rw [List.getD_eq_getElem?_getD,List.getElem?_eq_getElem hkn]; rfl
  generalize c.held[k] = sh at q4 hhok hgd
  repeat refine S.seq ?_
  refine S.skip ?_
  simp (disch:=first|omega|decide) only [rUz]
  repeat refine S.seq ?_
  refine S.block ?_
  repeat refine S.seq ?_
  refine S.region ?_
  simp (disch:=first|omega|decide) only [rUz,t18,t20,q1,q3,q4,p3]
  repeat refine S.seq ?_
  refine S.region ?_
  simp (disch:=first|omega|decide) only [rUz,t0,t2,rd_build,List.map_cons,List.map_nil,bSp]
  refine wr_bringsX (fid:=67) (first:=#[]) (captured:=#[]) (Post:=fun u g=>u = .agg ⟨[iv (overP c.sp (-1) day).1,iv (overP c.sp (-1) day).2]⟩ ∧ Fr h r g ∧ WAt g Bw r v c) rfl (hoff _ _ _ rfl) (by simp (disch:=first|omega|decide) only [rUz]; exact factor_y S hoff _ Bw r v c (hw.of hk.fr hk.mp) hv.sl hv.sok (-1) day) ?_
  rintro u g ⟨rfl,hfg,hwg⟩
  have hk2:=hk.frm hfg hwg.mp h89 h8r h9r
  simp (disch:=first|omega|decide) only [rUz]
  refine wr_brings (fid:=68) (first:=#[]) (captured:=#[]) (Post:=fun u _=>u = iv (facU c sh (-1) day)) rfl (hoff _ _ _ rfl) (by simp (disch:=first|omega|decide) only [rUz]; exact funits_y S _ (overP c.sp (-1) day) (over_room hv.sok hv.sl _ _) sh hhok.1 hhok.2) ?_
  rintro u g2 hkg rfl
  have hk3:=hk2.kp hkg h89 hwg.lr
  have hb9:=hk3.b9
  have hf9:=hk3.f9
  have hl9:k < ((hold0 c day k).map iv).length:=by rw [List.length_map,hold0_len]; omega
  have hset:((hold0 c day k).map iv).set k (iv (facU c sh (-1) day)) = (hold0 c day (k + 1)).map iv:=by rw [hold0,hgd,List.map_set]
  have iak:=ia k (by omega)
  simp (disch:=first|omega|decide) only [rUz,t9,iak]
  refine wr_store s3' ?_
  simp (disch:=first|omega|decide) only [rUz,hb9,hf9,hset]
  repeat refine S.seq ?_
  refine S.region ?_
  simp (disch:=first|omega|decide) only [rUz,t20]
  refine hn (k + 1) _ _ (by omega) ⟨hk3.set h09 h89 h9r,?_,?_,?_,?_,?_,?_,?_,?_,?_,by omega⟩
  all_goals (first|rfl|(simp (disch:=first|omega|decide) only [rUz,t0,t1,t2,t3,t8,t9,t18,t19,t20]; done)|(simp (disch:=first|omega|decide) only [rUz,t0,t1,t2,t3,t8,t9,t18,t19,t20]; rfl))
 have hkn:k = c.held.length:=by have:=of_decide_eq_false e; omega
 subst hkn
 refine S.exit (he _ _ _ _ (fun e=>by cases e) ?_)
 clear hn he K'
 simp (disch:=first|omega|decide) only [rUz]
 clear t18 t19 t20 kl e
 have hbwh:=(hk.fr.bl Bw hwl hw.ne).trans hw.bw
 repeat refine S.seq ?_
 refine S.region ?_
 simp (disch:=first|omega|decide) only [rUz,t0,hbwh,fieldAddr_ptr fW0 SB,fieldAddr_ptr fB2 lcT,qcT,wk2,l2]
 repeat refine S.seq ?_
 refine S.block ?_
 refine S.loop (ι:=Nat) (IHc c h0 Bw r B8 B9 (crV Bc ds.length) (.func (.func G) first captured) v.b ds day q) (fun k=>c.tr.length - k) ?_ 0 _ _ ?_
 rotate_left
 ·refine ⟨hold0 c day c.held.length,hk,?_,?_,?_,?_,?_,?_,?_,?_,?_,Nat.zero_le _,hold0_len _ _ _,by rw [List.drop_zero,List.drop_zero]; rfl,hold0_bnd hv day _⟩
  all_goals (first|rfl|(simp (disch:=first|omega|decide) only [rUz,t0,t1,t2,t3,t8,t9]; done)|(simp (disch:=first|omega|decide) only [rUz,t0,t1,t2,t3,t8,t9]; rfl))
 clear t0 t1 t2 t3 t8 t9 hbwh hk
 clear t h
 intro k t h ⟨l,hk,t0,t1,t2,t3,t8,t9,t38,t39,t40,kl,ll,hval,hbd⟩ K' hn he
 repeat refine S.seq ?_
 refine S.region ?_
 simp (disch:=first|omega|decide) only [rUz,t39,t40]
 repeat refine S.seq ?_
 refine S.cond (v:=decide ((k:Int) < (c.tr.length:Int))) (by first|rfl|(simp (disch:=first|omega|decide) only [rUz,↓reduceIte,Nat.reduceEqDiff,Nat.reduceAdd] <;> rfl)) (fun e=>?_) (fun e=>?_)
 rotate_left
 ·have hkn:k = c.tr.length:=by have:=of_decide_eq_false e; omega
  subst hkn
  rw [List.drop_of_length_le (Nat.le_refl _),holdG_nil] at hval
  refine S.exit (he _ _ _ _ (fun e=>by cases e) ?_)
  simp (disch:=first|omega|decide) only [rUz]
  have hb9:=hk.b9
  repeat refine S.seq ?_
  refine S.region ?_
  simp (disch:=first|omega|decide) only [rUz,t9,hb9,pH4 ll]
  refine wr_storeN (B:=B8) (c:=[iv 0,iv 0,iv 0,iv 0]) (fam:=B8) (k:=B8) (l:=l.map iv) (by simp (disch:=first|omega|decide) only [rUz,t8]) (by simp (disch:=first|omega|decide) only [rUz]) sH (by omega) (by rw [List.length_map]; exact ll) hk.b8 hk.f8 rfl ?_
  simp (disch:=first|omega|decide) only [rUz]
  refine S.ret ?_
  try simp only [seqK_ret,blockK_ret]
  subst hF
  simp only [finish,endMarks]
  rw [show Tryz.f58.results.toList = [.cell 8 97] from rfl]
  simp (disch:=first|omega|decide) only [resA,ev_tmp,tget_ne,tget_eq,get_ne,get_eq,upd_eq,upd_ne,ag_eq,ag_ne,result1,t8,pH4 ll]
  have hfe:Fr h0 r (h.upd B8 (l.map iv) B8):=frUpdO hk.fr h08
  obtain ⟨L,m1,m2⟩:=hk.mp
  exact hK _ _ ⟨by rw [hval],hfe,hw.of hfe ⟨L,by rw [upd_ne _ _ _ (Ne.symm h8r)]; exact m1,m2⟩⟩
 have hkn:k < c.tr.length:=by have:=of_decide_eq_true e; omega
 clear e
 have hkd:k < ds.length:=by omega
 have hco:=hw.co.frm hk.fr hm0
 have hps:c.tr[k]? = some c.tr[k]:=List.getElem?_eq_getElem hkn
 have htk:=Tok.of (hv.tok c.tr[k] (List.getElem_mem hkn))
 rw [List.drop_eq_getElem_cons hkn,List.drop_eq_getElem_cons hkd,holdG] at hval
 have hdi:=Crs.idx (B:=Bc) (ds:=ds) (a:=92) slCr (i:=k) (d:=ds[k]) (List.getElem?_eq_getElem hkd)
 obtain ⟨b',f,ro,cells,q1,q2,q3,q4,q5,_⟩:=row_idx hco.tr slcT scT hps
 generalize c.tr[k] = x at hps htk hval q4
 generalize ds[k] = d at hdi hval
 obtain ⟨i1,i2,i3,i4⟩:=hdi
 have qp:=part_at pcT q4 q5
 repeat refine S.seq ?_
 refine S.skip ?_
 simp (disch:=first|omega|decide) only [rUz]
 repeat refine S.seq ?_
 refine S.block ?_
 repeat refine S.seq ?_
 refine S.region ?_
 simp (disch:=first|omega|decide) only [rUz,t38,t40,q1,q3,qp,wr_alloc zcT]
 refine wr_storeN (B:=h.nx) (c:=[iv 0,iv 0,iv 0,iv 0,iv 0,iv 0,iv 0]) (fam:=h.nx) (k:=h.nx) (l:=c7 x) (by simp (disch:=first|omega|decide) only [rUz]) (by simp (disch:=first|omega|decide) only [rUz]) scT (by omega) rfl (ag_eq rfl) (af_eq rfl) rfl ?_
 have hk7:Kp h ((h.add [iv 0,iv 0,iv 0,iv 0,iv 0,iv 0,iv 0]).upd h.nx (c7 x) h.nx):=Kp.refl.add.upd (Nat.le_refl _)
 have hg7:((h.add [iv 0,iv 0,iv 0,iv 0,iv 0,iv 0,iv 0]).upd h.nx (c7 x) h.nx).bl.get h.nx = some (.cells (c7 x) h.nx false):=upd_eq _ _ _
 have hn7:h.nx < ((h.add [iv 0,iv 0,iv 0,iv 0,iv 0,iv 0,iv 0]).upd h.nx (c7 x) h.nx).nx:=Nat.lt_succ_self _
 simp (disch:=first|omega|decide) only [rUz]
 obtain ⟨B13,hB13⟩:∃ y,y = h.nx:=⟨_,rfl⟩
 have hrh:r < h.nx:=Nat.lt_of_lt_of_le hwr hk.fr.le
 have h13r:B13 ≠ r:=by omega
 rw [← hB13] at hk7 hg7 hn7 ⊢
 generalize (h.add [iv 0,iv 0,iv 0,iv 0,iv 0,iv 0,iv 0]).upd B13 (c7 x) B13 = h7 at hk7 hg7 hn7 ⊢
 have hkA:=hk.kp hk7 h89 hrh
 clear q1 q2 q3 q4 q5 qp hk7 hk hco hrh hB13
 clear h
 have hcb:=(hcr.frm hkA.fr hcr2).bl
 repeat refine S.seq ?_
 refine S.region ?_
 simp (disch:=first|omega|decide) only [rUz,t1,t3,t40,i1,hcb,i2]
 refine wr_brings (fid:=G) (first:=first) (captured:=captured) (Post:=fun u _=>u = .bool (q d)) (by simp (disch:=first|omega|decide) only [rUz,t3]) (hoff _ _ _ hG) (by simp (disch:=first|omega|decide) only [rUz]; exact hq _ hkA.fr d) ?_
 rintro u g hkg rfl
 have hrh7:r < h7.nx:=Nat.lt_of_lt_of_le hwr hkA.fr.le
 have hkB:=hkA.kp hkg h89 hrh7
 have hg7':=(hkg.get hn7).trans hg7
 have hn7':=Nat.lt_of_lt_of_le hn7 hkg.1
 have hcb':=(hcr.frm hkB.fr hcr2).bl
 simp (disch:=first|omega|decide) only [rUz]
 have hbd2:∀ l',bndL (2592000 * (1 + (k:Int)) + 2592000) l' → bndL (2592000 * (1 + ((k + 1:Nat):Int))) l':=fun l' hh y hy=>by have:=hh y hy; omega
 cases hqd:q d with
 | false =>
  rw [hqd,cond_false] at hval
  repeat refine S.seq ?_
  refine S.cond (v:=false) (by first|rfl|(simp (disch:=first|omega|decide) only [rUz,↓reduceIte,Nat.reduceEqDiff,Nat.reduceAdd,hqd] <;> rfl)) (fun e=>by cases e) (fun _=>?_)
  repeat refine S.seq ?_
  refine S.skip ?_
  simp (disch:=first|omega|decide) only [rUz]
  repeat refine S.seq ?_
  refine S.region ?_
  simp (disch:=first|omega|decide) only [rUz,t40]
  refine hn (k + 1) _ _ (by omega) ⟨l,hkB,?_,?_,?_,?_,?_,?_,?_,?_,?_,by omega,ll,hval,hbd2 l (fun y hy=>by have:=hbd y hy; omega)⟩
  all_goals (first|rfl|(simp (disch:=first|omega|decide) only [rUz,t0,t1,t2,t3,t8,t9,t38,t39,t40]; done)|(simp (disch:=first|omega|decide) only [rUz,t0,t1,t2,t3,t8,t9,t38,t39,t40]; rfl))
 | true =>
 rw [hqd,cond_true] at hval
 have hfu:=facU_bnd hv (sh:=x.sh) (a:=d.1) (b:=day) (by have:=htk.n0; omega) htk.n1
 have hb9:=hkB.b9
 have p7:partL Tryz.prog 88 (c7 x) 0 = some (.agg ⟨c7 x⟩):=part_0 pcT (c7_len x)
 have hve7:veq (.agg ⟨c7 x⟩) (.agg ⟨c7 x⟩) = true:=by simp only [c7,veq,veqA,veqL,beqKind,beqI_eq,decide_true,Bool.and_self]
 have hvel:veq (.agg ⟨l.map iv⟩) (.agg ⟨l.map iv⟩) = true:=veq_i64s' l
 repeat refine S.seq ?_
 refine S.cond (v:=true) (by first|rfl|(simp (disch:=first|omega|decide) only [rUz,↓reduceIte,Nat.reduceEqDiff,Nat.reduceAdd,hqd] <;> rfl)) (fun _=>?_) (fun e=>by cases e)
 repeat refine S.seq ?_
 refine S.drawnL [(false,0),(false,0),(false,0),(false,0),(false,0),(false,24),(false,56),(false,120),(false,0),(false,504),(true,1020),(false,0),(false,2048),(true,8188),(true,16383),(true,32767)] (by kernel_rfl) (by kernel_rfl) (by kernel_rfl) ?_
 simp (disch:=first|omega|decide) only [rUz,rDz,infoL,Nat.reduceSub,t0,t1,t2,t9,hb9,hg7',hcb',pH4 ll,p7,i1,fieldAddr_ptr fDt0 s3,p3,i3,rd_build,List.map_cons,List.map_nil,bSp]
 refine draw_pick' rfl ?_
 simp (disch:=first|omega|decide) only [rUz,rDz,infoL,Nat.reduceSub,hg7',fieldAddr_ptr fcT2 s3,p3,c72]
 refine draw_pick' rfl ?_
 simp (disch:=first|omega|decide) only [rUz,rDz,infoL,Nat.reduceSub,hg7',fieldAddr_ptr fcT2 s3,p3,c72]
 refine drW_bringsX (fid:=67) (first:=#[]) (captured:=#[]) (Post:=fun u g'=>u = .agg ⟨[iv (overP c.sp d.1 day).1,iv (overP c.sp d.1 day).2]⟩ ∧ Fr g r g' ∧ WAt g' Bw r v c) rfl (hoff _ _ _ rfl) (by simp (disch:=first|omega|decide) only [rUz]; exact factor_y S hoff _ Bw r v c (hw.of hkB.fr hkB.mp) hv.sl hv.sok d.1 day) (Nat.le_of_ble_eq_true rfl) ?_
 rintro u g2 ⟨rfl,hfg,hwg⟩
 have hkC:=hkB.frm hfg hwg.mp h89 h8r h9r
 have hg72:=(hfg.bl B13 hn7' h13r).trans hg7'
 have hb92:=hkC.b9
 refine ⟨?_,?_⟩
 ·try simp (disch:=first|decide|rfl) only [again_nil,again_skip,again_free]
  rw [again_same (v:=iv x.sh) (by simp (disch:=first|omega|decide) only [rUz,rDz,infoL,Nat.reduceSub,hg72,fieldAddr_ptr fcT2 s3,p3,c72]) veq_int]
  try simp (disch:=first|decide|rfl) only [again_nil,again_skip,again_free]
  rw [again_same (v:=.agg ⟨c7 x⟩) (by simp (disch:=first|omega|decide) only [rUz,rDz,infoL,Nat.reduceSub,hg72,p7]) hve7]
  try simp (disch:=first|decide|rfl) only [again_nil,again_skip,again_free]
  rw [again_same (v:=.agg ⟨l.map iv⟩) (by simp (disch:=first|omega|decide) only [rUz,rDz,infoL,Nat.reduceSub,t9,hb92,pH4 ll]) hvel]
  try simp (disch:=first|decide|rfl) only [again_nil,again_skip,again_free]
 simp (disch:=first|omega|decide) only [rUz,rDz,infoL,Nat.reduceSub]
 refine drW_brings (fid:=68) (first:=#[]) (captured:=#[]) (Post:=fun u _=>u = iv (facU c x.sh d.1 day)) rfl (hoff _ _ _ rfl) (by simp (disch:=first|omega|decide) only [rUz]; exact funits_y S _ (overP c.sp d.1 day) (over_room hv.sok hv.sl _ _) x.sh (by have:=htk.n0; omega) htk.n1) (Nat.le_of_ble_eq_true rfl) ?_
 rintro u g3 hkg3 rfl
 have hkD:=hkC.kp hkg3 h89 hwg.lr
 have hn72:B13 < g2.nx:=Nat.lt_of_lt_of_le hn7' hfg.le
 have hg73:=(hkg3.get hn72).trans hg72
 have hb93:=hkD.b9
 refine ⟨?_,?_⟩
 ·try simp (disch:=first|decide|rfl) only [again_nil,again_skip,again_free]
  rw [again_same (v:=.agg ⟨c7 x⟩) (by simp (disch:=first|omega|decide) only [rUz,rDz,infoL,Nat.reduceSub,hg73,p7]) hve7]
  try simp (disch:=first|decide|rfl) only [again_nil,again_skip,again_free]
  rw [again_same (v:=.agg ⟨l.map iv⟩) (by simp (disch:=first|omega|decide) only [rUz,rDz,infoL,Nat.reduceSub,t9,hb93,pH4 ll]) hvel]
  try simp (disch:=first|decide|rfl) only [again_nil,again_skip,again_free]
 simp (disch:=first|omega|decide) only [rUz,rDz,infoL,Nat.reduceSub]
 refine drW_brings (fid:=80) (first:=#[]) (captured:=#[]) (Post:=fun u _=>u = .agg ⟨(aftL l x (facU c x.sh d.1 day)).map iv⟩) rfl (hoff _ _ _ rfl) (by simp (disch:=first|omega|decide) only [rUz]; exact after_y S _ l ll c.hs hv.h4 x htk _ hfu.1 hfu.2 (fun y hy=>by have:=hbd y hy; omega)) (Nat.le_of_ble_eq_true rfl) ?_
 rintro u g4 hkg4 rfl
 have hkE:=hkD.kp hkg4 h89 (Nat.lt_of_lt_of_le hwg.lr hkg3.1)
 have hb94:=hkE.b9
 have hf94:=hkE.f9
 have hla:(aftL l x (facU c x.sh d.1 day)).length = 4:=by rw [aftL_len]; exact ll
 refine ⟨?_,?_⟩
 ·try simp (disch:=first|decide|rfl) only [again_nil,again_skip,again_free]
 simp (disch:=first|omega|decide) only [rUz,rDz,infoL,Nat.reduceSub]
 refine drW_giveN (aw_storeN (B:=B9) (ls:=(aftL l x (facU c x.sh d.1 day)).map iv) (by simp (disch:=first|omega|decide) only [rUz,rDz,infoL,Nat.reduceSub,t9]) (by simp (disch:=first|omega|decide) only [rUz,rDz,infoL,Nat.reduceSub]) sH (by omega) (by rw [List.length_map]; exact hla) hb94 hf94 (by rw [List.length_map]; exact ll)) ?_ ?_
 ·try simp (disch:=first|decide|rfl) only [again_nil,again_skip,again_free]
 simp (disch:=first|omega|decide) only [rUz,rDz,infoL,Nat.reduceSub]
 repeat refine S.seq ?_
 refine S.region ?_
 simp (disch:=first|omega|decide) only [rUz,t40]
 refine hn (k + 1) _ _ (by omega) ⟨aftL l x (facU c x.sh d.1 day),hkE.set h09 h89 h9r,?_,?_,?_,?_,?_,?_,?_,?_,?_,by omega,hla,hval,?_⟩
 rotate_right
 ·have hi:=htk.s0
  have hs1:=htk.s1
  have hj:=htk.b0
  have hb1:=htk.b1
  have h4:=hv.h4
  unfold aftL
  refine hbd2 _ ?_
  have e1:bndL (2592000 * (1 + (k:Int)) + facU c x.sh d.1 day) (addA l x.se.toNat (-facU c x.sh d.1 day)):=bndL_add hbd (by omega) hfu.1 (by omega) (by omega)
  intro y hy
  rcases List.mem_or_eq_of_mem_set hy with hy|rfl
  ·have:=e1 y hy; omega
  ·have hne:x.se.toNat ≠ x.bu.toNat:=by have:=htk.ne; omega
   have e2:(addA l x.se.toNat (-facU c x.sh d.1 day)).getD x.bu.toNat 0 = l.getD x.bu.toNat 0:=by
    unfold addA
    rw [List.getD_eq_getElem?_getD,List.getElem?_set_ne hne,← List.getD_eq_getElem?_getD]
   rw [e2]
   have:=bndL_get hbd (i:=x.bu.toNat) (by omega)
   omega
 all_goals (first|rfl|(simp (disch:=first|omega|decide) only [rUz,t0,t1,t2,t3,t8,t9,t38,t39,t40]; done)|(simp (disch:=first|omega|decide) only [rUz,t0,t1,t2,t3,t8,t9,t38,t39,t40]; rfl))
end Go.Proofs.Cp
