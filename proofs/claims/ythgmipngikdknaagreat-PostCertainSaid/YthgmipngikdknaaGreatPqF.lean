import Derived.Test.YthgmipngikdknaaGreatPrC
import Derived.Test.YthgmipngikdknaaGreatPhA
import Derived.Test.YthgmipngikdknaaGreatPoT
/- PostCertain. -/
namespace Go.Proofs.Po
open Go Go.Ev Go.RowKit
set_option linter.unusedSimpArgs false
variable {pr:Prim} {R:ExT}
theorem aw_storeC {P:Program} {call:CallT} {t:T Value} {h h':AHeap} {x y:Operand} {a ty:TypeId} {pos:String} {af:Array Edge} {g:Option (Nat × Bool)} {dst:Option Tmp} {B s off:Nat} {l:List Value} (hx:ev P t x = .pointer (some ⟨B,off,none⟩)) (hy:ev P t y = .agg ⟨l⟩) (hs:sizeB P a = some s) (hls:l.length = s)
    (hst:∀ K:AHeap → Bool,storeC h B off l K = K h') (K:KV):awrite P call t h ⟨dst,.store a x y,ty,pos,af,g⟩ K = K undef h':=by
  have h2:(okV (.agg ⟨l⟩) && Nat.beq (Value.cells (.agg ⟨l⟩)).size s) = true:=by
    rw [show (Value.cells (.agg ⟨l⟩)).size = l.length from rfl,hls,Nat.beq_refl]; rfl
  have hc:(Value.cells (.agg ⟨l⟩)).toList = l:=(rfl)
  simp only [awrite,wStore,hx,hy,hs,h2,cond_true,hc,hst]
theorem kRg:intKey Tryz.prog 43 = some 2:=by kernel_rfl
theorem gRg:Tryz.prog.eqGuardType Tryz.prog.depth 43 = false:=by kernel_rfl
def eqR (x y:I2):Bool:=beqI x.1 y.1 && beqI x.2 y.2
theorem eqInts_R (x y:I2):eqInts (c2 x) (c2 y) = some (eqR x y):=by
  have hk:beqKind IntKind.i64 IntKind.i64 = true:=rfl
  unfold c2 eqR
  simp only [eqInts,hk,cond_true]
  cases beqI x.1 y.1 <;> cases beqI x.2 y.2 <;> rfl
theorem plain_R (x:I2):plainB (.agg ⟨c2 x⟩) = true:=by simp only [c2,plainB,plainA,plainL,oneA,oneL,oneB,Bool.and_self]
theorem eqR_self (x:I2):eqR x x = true:=by unfold eqR; simp only [beqI_eq,decide_true,Bool.and_self]
set_option maxHeartbeats 4000000 in
theorem between_y (S:Ev.Steps Tryz.prog pr R) (h0:AHeap) (a b:Int):Brings Tryz.prog R 36 [iv a,iv b] h0 fun u _=>u = .agg ⟨c2 (a,b)⟩:=by
  have bcr:rBuild Tryz.prog 43 [(0,iv a),(1,iv b)] = some (.agg ⟨c2 (a,b)⟩):=bcR _ _
  refine brings_of (fn:=Tryz.f36) (c:=(Tryz.f36.body).getD .skip) (by kernel_rfl) rfl (by kernel_rfl) rfl (fun K hK=>?_)
  generalize hF:finish Tryz.prog Tryz.f36 K = KF
  simp only [Tryz.f36,Option.getD_some,argsT,setArgs,fV1_eq,T.setK_eq,id]
  repeat refine S.seq ?_
  refine S.region ?_
  simp (disch:=first|omega|(simp only [add_nx,upd_nx] <;> omega)|decide) only [rUz,↓reduceIte,Nat.reduceEqDiff,Nat.reduceAdd,wr_alloc zcR]
  repeat refine S.seq ?_
  refine S.region ?_
  simp (disch:=first|omega|(simp only [add_nx,upd_nx] <;> omega)|decide) only [rUz,↓reduceIte,Nat.reduceEqDiff,Nat.reduceAdd,rd_build,List.map_cons,List.map_nil,bcr]
  refine wr_storeN (B:=h0.nx) (c:=[iv 0,iv 0]) (fam:=h0.nx) (k:=h0.nx) (l:=c2 (a,b)) (by simp (disch:=first|omega|(simp only [add_nx,upd_nx] <;> omega)|decide) only [rUz,↓reduceIte,Nat.reduceEqDiff,Nat.reduceAdd]) (by simp (disch:=first|omega|(simp only [add_nx,upd_nx] <;> omega)|decide) only [rUz,↓reduceIte,Nat.reduceEqDiff,Nat.reduceAdd]) scR (by omega) rfl (ag_eq rfl) (af_eq rfl) rfl ?_
  simp (disch:=first|omega|(simp only [add_nx,upd_nx] <;> omega)|decide) only [rUz,↓reduceIte,Nat.reduceEqDiff,Nat.reduceAdd]
  refine S.ret ?_
  try simp only [seqK_ret,blockK_ret]
  subst hF
  simp only [finish,endMarks]
  rw [show Tryz.f36.results.toList = [.cell 4 43] from rfl]
  simp (disch:=first|omega|(simp only [add_nx,upd_nx] <;> omega)|decide) only [resA,ev_tmp,tget_ne,tget_eq,get_ne,get_eq,upd_eq,upd_ne,ag_eq,ag_ne,result1,part_0 pcR (c2_len (a,b))]
  exact hK _ _ (Kp.refl.add.upd (Nat.le_refl _)) rfl
/-! ## Orders of which the minutes are known -/
theorem upO_cert {O:List Od} {ns:List Int} (hv:Val O) (ht:truthB O ns = true):Val (upO O ns) ∧ truthB (upO O ns) ns = true ∧ ∀ t,truthB (upO O ns) t = true → t = ns:=by
  obtain ⟨hl,hb⟩:=truth_iff.1 ht
  have hul:=upO_len O ns
  have get:∀ i (h1:i < O.length) (h2:i < ns.length),(upO O ns)[i]? = some (setT O[i] ns[i]):=fun i h1 h2=>by
    rw [upO_get (List.getElem?_eq_getElem h1),List.getElem?_eq_getElem h2]
  have get2:∀ i (h1:i < (upO O ns).length) (h2:i < ns.length),(upO O ns)[i].lo = ns[i] ∧ (upO O ns)[i].hi = ns[i]:=fun i h1 h2=>by
    have e:=get i (by omega) h2
    rw [List.getElem?_eq_getElem h1] at e
    have e2:(upO O ns)[i] = setT (O[i]'(by omega)) ns[i]:=by simpa using e
    rw [e2]
    exact ⟨rfl,rfl⟩
  refine ⟨⟨by rw [hul]; exact hv.l1,by rw [hul]; exact hv.l6,fun x hx=>?_⟩,?_,fun t h=>?_⟩
  · obtain ⟨i,hi⟩:=List.mem_iff_getElem?.1 hx
    have hlt:=(List.getElem?_eq_some_iff.1 hi).1
    have e:=get i (by omega) (by omega)
    rw [hi] at e; cases e
    have ok:=hv.ok O[i] (List.getElem_mem _)
    have b:=hb i (by omega) (by omega)
    have m0:=ok.m0; have m2:=ok.m2
    exact ⟨ok.l1,ok.l2,ok.n1,ok.n2,by show 0 ≤ ns[i]; omega,Int.le_refl _,by show ns[i] ≤ 30; omega⟩
  · rw [truth_iff]
    refine ⟨by omega,fun i h1 h2=>?_⟩
    have:=get2 i h1 h2
    omega
  · obtain ⟨hl2,hb2⟩:=truth_iff.1 h
    refine List.ext_getElem (by omega) fun i h1 h2=>?_
    have b:=hb2 i (by omega) h1
    have c:=get2 i (by omega) h2
    omega
theorem fold_const {f:Int → Int → Int} (hf:∀ x,f x x = x) (a:Int):∀ l:List Int,(∀ x,x ∈ l → x = a) → l.foldl f a = a
  | [],_=>rfl
  | x :: l,h=>by
    have hx:=h x (by simp)
    subst hx
    rw [List.foldl_cons,hf,fold_const hf _ l fun y hy=>h y (by simp [hy])]
theorem bd_cert {q:Sa → Int} {X:List Od} {ns:List Int} (hv:Val X) (h:∀ t,truthB X t = true → t = ns) (j:Nat):bdQ q X j = (fqZ q (j:Int) (playZ X ns).2,fqZ q (j:Int) (playZ X ns).2):=by
  have hall:∀ x,x ∈ lstQ q X j (allZ X).length → x = fqZ q (j:Int) (playZ X ns).2:=fun x hx=>by
    unfold lstQ at hx
    obtain ⟨t,ht,rfl⟩:=List.mem_map.1 hx
    rw [h t ((all_play hv).1 t (List.mem_of_mem_take ht))]
  unfold bdQ
  cases e:lstQ q X j (allZ X).length with
  | nil =>
    have:=congrArg List.length e
    unfold lstQ at this
    rw [List.length_map,List.length_take,Nat.min_self] at this
    exact absurd (List.length_eq_zero_iff.1 this) (all_ne hv)
  | cons a l =>
    rw [e] at hall
    have ha:=hall a (by simp)
    have hl:∀ x,x ∈ l → x = a:=fun x hx=>by rw [hall x (by simp [hx]),ha]
    have h1:l.foldl min2 a = a:=fold_const (fun x=>by unfold min2; rw [if_neg (by omega)]) a l hl
    have h2:l.foldl max2 a = a:=fold_const (fun x=>by unfold max2; rw [if_neg (by omega)]) a l hl
    rw [show minL (a :: l) = l.foldl min2 a from rfl,show maxL (a :: l) = l.foldl max2 a from rfl,h1,h2,ha]
structure ICe (O:List Od) (ns:List Int) (tv:Value) (h0:AHeap) (lo hi lo2 b F B6:Nat) (k:Nat) (t:T Value) (h:AHeap):Prop where
  kp:Kp h0 h
  own:OwnC lo hi h b F ((upO O (ns.take k)).map cOd).flatten
  b6:h.bl.get B6 = some (.cells (poV (.slice (some ⟨b,0,none⟩) O.length O.length)) B6 false)
  l2:lo2 ≤ h.nx
  it:IS h tv ns
  t5:tget t 5 = tv
  t6:tget t 6 = ptr0 B6
  t7:tget t 7 = iv (k:Int)
  hk:k ≤ O.length
structure ICf (n:Nat) (G:AHeap) (w fv mv tv:Value) (k:Nat) (t:T Value) (h:AHeap):Prop where
  kp:Kp G h
  t5:tget t 5 = tv
  t8:tget t 8 = w
  t10:tget t 10 = fv
  t11:tget t 11 = mv
  t13:tget t 13 = iv (k:Int)
  hk:k ≤ n
theorem bA1c (p:Option Addr) (n c:Nat):rBuild Tryz.prog 24 [(0,.slice p n c)] = some (.agg ⟨poV (.slice p n c)⟩):=by kernel_rfl
theorem brRc (a b:Int):rBuild Tryz.prog 45 [(0,iv a),(1,iv b)] = some (.agg ⟨c2 (a,b)⟩):=by kernel_rfl
set_option maxRecDepth 100000 in
set_option maxHeartbeats 64000000 in
theorem certain_law (S:Ev.Steps Tryz.prog pr R) (hT:Tab pr) (h0:AHeap) (v:Value) (O:List Od) (hb:PoAt h0 v O) (wv:Value) (ws:List Int) (hw:WdAt h0 wv ws) (hwl:(ws.length:Int) < 9223372036854775808) :
    Brings Tryz.prog R 8 [.agg ⟨poV v⟩,wv] h0 fun u _=>u = .bool true:=by
  have hoff:=hT.off
  refine brings_of (fn:=Tryz.f8) (c:=(Tryz.f8.body).getD .skip) (by kernel_rfl) rfl (by kernel_rfl) rfl (fun K hK=>?_)
  generalize hF:finish Tryz.prog Tryz.f8 K = KF
  simp only [Tryz.f8,Option.getD_some,argsT,setArgs,fV1_eq,T.setK_eq,id]
  have hKr:∀ g,Kp h0 g → K (.bool true) g = true:=fun g hk=>hK _ _ hk rfl
  clear hK
  have awake:∀ {ops:Array Oper} {n:Nat} {rest:List Oper} {t:T Value} {h:AHeap} {KR:T Value → AHeap → Bool} {dst:Option Tmp},putR Tryz.prog (withPrim pr (callVal Tryz.prog R)) ops n rest dst t (.bool true) h KR = true →
      wrR Tryz.prog (withPrim pr (callVal Tryz.prog R)) ops n rest (.call ⟨.value (.func 11),#[],#[]⟩) dst t h KR = true:=fun k=>wr_prim (fid:=11) (first:=#[]) (captured:=#[]) (v:=.bool true) rfl (hT.awake _) k
  have tq0:∀ a b:Value,(⟨[a,b]⟩:Array Value)[0]? = some a:=fun _ _=>rfl
  have tq1:∀ a b:Value,(⟨[a,b]⟩:Array Value)[1]? = some b:=fun _ _=>rfl
  have tr0:∀ a b c:Value,(⟨[a,b,c]⟩:Array Value)[0]? = some a:=fun _ _ _=>rfl
  have tr1:∀ a b c:Value,(⟨[a,b,c]⟩:Array Value)[1]? = some b:=fun _ _ _=>rfl
  have tr2':∀ a b c:Value,(⟨[a,b,c]⟩:Array Value)[2]? = some c:=fun _ _ _=>rfl
  have hdd:∀ z:Int,decide (z = z) = true:=fun z=>decide_eq_true rfl
  repeat refine S.seq ?_
  refine S.region ?_
  simp (disch:=first|omega|(simp only [add_nx,upd_nx] <;> omega)|decide) only [rUz,↓reduceIte,Nat.reduceEqDiff,Nat.reduceAdd]
  have hb1:(h0.add (poV v)).bl.get h0.nx = some (.cells (poV v) h0.nx false):=ag_eq rfl
  have hn1:h0.nx < (h0.add (poV v)).nx:=Nat.lt_succ_self _
  have hk1:Kp h0 (h0.add (poV v)):=Kp.refl.add
  generalize h0.add (poV v) = H at hb1 hn1 hk1 ⊢
  generalize h0.nx = B1 at hb1 hn1 ⊢
  repeat refine S.seq ?_
  refine S.region ?_
  simp (disch:=first|omega|(simp only [add_nx,upd_nx] <;> omega)|decide) only [rUz,↓reduceIte,Nat.reduceEqDiff,Nat.reduceAdd,hb1,part_0 pA (poV_len v)]
  refine wr_brings (fid:=28) (first:=#[]) (captured:=#[]) (Post:=fun u _=>u = .bool (readyB O)) rfl (hoff _ _ _ rfl) (by simp (disch:=first|omega|(simp only [add_nx,upd_nx] <;> omega)|decide) only [rUz,↓reduceIte,Nat.reduceEqDiff,Nat.reduceAdd]; exact ready_y S hoff H v O (hb.mono hk1)) ?_
  rintro u g hkg rfl
  replace hb1:=(hkg.get hn1).trans hb1
  replace hn1:=Nat.lt_of_lt_of_le hn1 hkg.1
  replace hk1:=hk1.trans hkg
  clear hkg
  clear H
  cases hre:readyB O with
  | false =>
    simp (disch:=first|omega|(simp only [add_nx,upd_nx] <;> omega)|decide) only [rUz,↓reduceIte,Nat.reduceEqDiff,Nat.reduceAdd,un_not,hre,Bool.not_false]
    repeat refine S.seq ?_
    refine S.cond (v:=true) (by first|rfl|(simp (disch:=first|omega|(simp only [add_nx,upd_nx] <;> omega)|decide) only [rUz,↓reduceIte,Nat.reduceEqDiff,Nat.reduceAdd] <;> rfl)) (fun _=>?_) (fun e=>by cases e)
    repeat refine S.seq ?_
    refine S.region ?_
    simp (disch:=first|omega|(simp only [add_nx,upd_nx] <;> omega)|decide) only [rUz,↓reduceIte,Nat.reduceEqDiff,Nat.reduceAdd]
    refine awake ?_
    simp (disch:=first|omega|(simp only [add_nx,upd_nx] <;> omega)|decide) only [rUz,↓reduceIte,Nat.reduceEqDiff,Nat.reduceAdd]
    refine S.ret ?_
    try simp only [seqK_ret,blockK_ret]
    subst hF
    simp only [finish,endMarks]
    rw [show Tryz.f8.results.toList = [.tmp 4] from rfl]
    simp (disch:=first|omega|(simp only [add_nx,upd_nx] <;> omega)|decide) only [resA,ev_tmp,tget_ne,tget_eq,get_ne,get_eq,upd_eq,upd_ne,ag_eq,ag_ne,result1]
    exact hKr _ hk1
  | true =>
  have hv:Val O:=by
    unfold readyB at hre
    rw [Bool.and_eq_true] at hre
    exact val_iff.1 (of_decide_eq_true hre.2)
  have h6:=hv.l6
  have h1O:=hv.l1
  simp (disch:=first|omega|(simp only [add_nx,upd_nx] <;> omega)|decide) only [rUz,↓reduceIte,Nat.reduceEqDiff,Nat.reduceAdd,un_not,hre,Bool.not_true]
  repeat refine S.seq ?_
  refine S.cond (v:=false) (by first|rfl|(simp (disch:=first|omega|(simp only [add_nx,upd_nx] <;> omega)|decide) only [rUz,↓reduceIte,Nat.reduceEqDiff,Nat.reduceAdd] <;> rfl)) (fun e=>by cases e) (fun _=>?_)
  repeat refine S.seq ?_
  refine S.skip ?_
  simp (disch:=first|omega|(simp only [add_nx,upd_nx] <;> omega)|decide) only [rUz,↓reduceIte,Nat.reduceEqDiff,Nat.reduceAdd]
  repeat refine S.seq ?_
  refine S.region ?_
  simp (disch:=first|omega|(simp only [add_nx,upd_nx] <;> omega)|decide) only [rUz,↓reduceIte,Nat.reduceEqDiff,Nat.reduceAdd,hb1,part_0 pA (poV_len v)]
  refine wr_brings (fid:=29) (first:=#[]) (captured:=#[]) (Post:=fun u h=>∃ t0,IS h u t0 ∧ truthB O t0 = true) rfl (hoff _ _ _ rfl) (by simp (disch:=first|omega|(simp only [add_nx,upd_nx] <;> omega)|decide) only [rUz,↓reduceIte,Nat.reduceEqDiff,Nat.reduceAdd]; exact picked_y S hoff g v O (hb.mono hk1) hv wv ws (hw.mono hk1) hwl) ?_
  rintro tv g1 hkg1 ⟨ns,hns,htr⟩
  replace hb1:=(hkg1.get hn1).trans hb1
  replace hn1:=Nat.lt_of_lt_of_le hn1 hkg1.1
  replace hk1:=hk1.trans hkg1
  clear hkg1
  clear g
  have hnl:ns.length = O.length:=(tru_of hv htr).len
  have hk0:Kp g1 (g1.add []):=Kp.refl.add
  have hb1a:=(hk0.get hn1).trans hb1
  simp (disch:=first|omega|(simp only [add_nx,upd_nx] <;> omega)|decide) only [rUz,↓reduceIte,Nat.reduceEqDiff,Nat.reduceAdd]
  repeat refine S.seq ?_
  refine S.region ?_
  simp (disch:=first|omega|(simp only [add_nx,upd_nx] <;> omega)|decide) only [rUz,↓reduceIte,Nat.reduceEqDiff,Nat.reduceAdd,w_buildSlice]
  refine wr_lit0 slrO srO zrO rfl ?_
  simp (disch:=first|omega|(simp only [add_nx,upd_nx] <;> omega)|decide) only [rUz,↓reduceIte,Nat.reduceEqDiff,Nat.reduceAdd,hb1a,fieldAddr_ptr fA0 lrO,qrO,po0,w_append]
  refine wr_copyE (b:=g1.nx) (v:=v) (cs:=O.map cOd) slrO urO (by simp (disch:=first|omega|(simp only [add_nx,upd_nx] <;> omega)|decide) only [rUz,↓reduceIte,Nat.reduceEqDiff,Nat.reduceAdd]) (by simp (disch:=first|omega|(simp only [add_nx,upd_nx] <;> omega)|decide) only [rUz,↓reduceIte,Nat.reduceEqDiff,Nat.reduceAdd]) srO (ag_eq rfl) (af_eq rfl) (Nat.lt_succ_self _) (SlAt.mono hb (hk1.trans hk0)) nrO (by rw [List.length_map]; show _ < 1000000; omega) ?_
  intro v3 h3 hc3
  have hk3:Kp g1 h3:=hc3.kp hk0 (Nat.le_refl _)
  obtain ⟨b,hv3,own⟩:=copied_own hc3 (lo:=g1.nx) (Nat.le_refl _) (Nat.lt_succ_self _)
  rw [List.length_map] at hv3
  subst hv3
  simp (disch:=first|omega|(simp only [add_nx,upd_nx] <;> omega)|decide) only [rUz,↓reduceIte,Nat.reduceEqDiff,Nat.reduceAdd,rd_build,List.map_cons,List.map_nil,bA1c,wr_alloc zA]
  refine wr_storeN (B:=h3.nx) (c:=[nl]) (fam:=h3.nx) (k:=h3.nx) (l:=poV (.slice (some ⟨b,0,none⟩) O.length O.length)) (by simp (disch:=first|omega|(simp only [add_nx,upd_nx] <;> omega)|decide) only [rUz,↓reduceIte,Nat.reduceEqDiff,Nat.reduceAdd]) (by simp (disch:=first|omega|(simp only [add_nx,upd_nx] <;> omega)|decide) only [rUz,↓reduceIte,Nat.reduceEqDiff,Nat.reduceAdd]) sA (by omega) rfl (ag_eq rfl) (af_eq rfl) rfl ?_
  have hk4:Kp h3 ((h3.add [nl]).upd h3.nx (poV (.slice (some ⟨b,0,none⟩) O.length O.length)) h3.nx):=Kp.refl.add.upd (Nat.le_refl _)
  have hb6:((h3.add [nl]).upd h3.nx (poV (.slice (some ⟨b,0,none⟩) O.length O.length)) h3.nx).bl.get h3.nx = some (.cells (poV (.slice (some ⟨b,0,none⟩) O.length O.length)) h3.nx false):=upd_eq _ _ _
  have hn6:((h3.add [nl]).upd h3.nx (poV (.slice (some ⟨b,0,none⟩) O.length O.length)) h3.nx).nx = h3.nx + 1:=rfl
  simp (disch:=first|omega|(simp only [add_nx,upd_nx] <;> omega)|decide) only [rUz,↓reduceIte,Nat.reduceEqDiff,Nat.reduceAdd]
  generalize (h3.add [nl]).upd h3.nx (poV (.slice (some ⟨b,0,none⟩) O.length O.length)) h3.nx = h4 at hk4 hb6 hn6 ⊢
  replace own:=own.mono hk4
  have kp4:=(hk1.trans hk3).trans hk4
  have hns4:=hns.mono (hk3.trans hk4)
  have hlo:=hk1.1
  obtain ⟨lo,hlo'⟩:∃ z,z = g1.nx:=⟨_,rfl⟩
  obtain ⟨B6,hB6⟩:∃ z,z = h3.nx:=⟨_,rfl⟩
  obtain ⟨lo2,hlo2⟩:∃ z,z = h4.nx:=⟨_,rfl⟩
  rw [← hlo',← hB6] at own
  rw [← hB6] at hb6 hn6 ⊢
  rw [← hlo'] at hlo
  have hh6:B6 < lo2:=by omega
  have hl24:lo2 ≤ h4.nx:=by omega
  have hisw:∀ (h h':AHeap),IS h tv ns → (∀ q,blk tv = some q → h'.bl.get q = h.bl.get q) → h.nx ≤ h'.nx → IS h' tv ns:=fun h h' k hq hle=>slAt_ne k hle fun j hj _=>hq j hj
  have hblk:∀ q,blk tv = some q → q < lo:=fun q hq=>by rw [hlo']; exact blk_lt hns hq
  clear hlo2 hB6 hlo' hc3 hk3 hk4 hb1a hk0 hb1 hn1 hk1 hn6 hre hns
  try clear h3
  obtain ⟨F,hF2⟩:∃ F,OwnC lo B6 h4 b F (O.map cOd).flatten:=⟨_,own⟩
  clear own
  try clear g1
  repeat refine S.seq ?_
  refine S.region ?_
  simp (disch:=first|omega|(simp only [add_nx,upd_nx] <;> omega)|decide) only [rUz,↓reduceIte,Nat.reduceEqDiff,Nat.reduceAdd]
  repeat refine S.seq ?_
  refine S.block ?_
  refine S.loop (ι:=Nat) (ICe O ns tv h0 lo B6 lo2 b F B6) (fun k=>O.length - k) ?_ 0 _ _ ?_
  rotate_left
  · refine ⟨kp4,by rw [List.take_zero,upO_nil]; exact hF2,hb6,hl24,hns4,?_,?_,?_,Nat.zero_le _⟩
    all_goals (first|rfl|(simp (disch:=first|omega|(simp only [add_nx,upd_nx] <;> omega)|decide) only [rUz,↓reduceIte,Nat.reduceEqDiff,Nat.reduceAdd]; done)|(simp (disch:=first|omega|(simp only [add_nx,upd_nx] <;> omega)|decide) only [rUz,↓reduceIte,Nat.reduceEqDiff,Nat.reduceAdd]; rfl))
  clear kp4 hb6 hl24 hF2 hns4
  clear h4
  intro k t h ⟨kp,own,b6h,l2,hit,t5,t6,t7,hk⟩ K' hn he
  have hrl:=upO_len O (ns.take k)
  have hne:upO O (ns.take k) ≠ []:=fun e=>by rw [e] at hrl; simp at hrl; omega
  have hsl:=own_at own hne
  rw [hrl] at hsl
  have lT:∀ (t:T Value) (h1:AHeap) (o:Oper),rLen Tryz.prog t h1 o 35 tv = some (iv (O.length:Int)):=fun t h1 o=>by rw [iv_len hit.at t h1 o,hnl]
  repeat refine S.seq ?_
  refine S.region ?_
  simp (disch:=first|omega|(simp only [add_nx,upd_nx] <;> omega)|decide) only [rUz,↓reduceIte,Nat.reduceEqDiff,Nat.reduceAdd,t5,t7,lT]
  repeat refine S.seq ?_
  refine S.cond (v:=decide ((k:Int) < (O.length:Int))) (by first|rfl|(simp (disch:=first|omega|(simp only [add_nx,upd_nx] <;> omega)|decide) only [rUz,↓reduceIte,Nat.reduceEqDiff,Nat.reduceAdd] <;> rfl)) (fun e=>?_) (fun e=>?_)
  · have hkn:k < O.length:=by have:=of_decide_eq_true e; omega
    clear e
    have hps:O[k]? = some O[k]:=List.getElem?_eq_getElem hkn
    generalize O[k] = x at hps
    have hns':ns[k]? = some ns[k]:=List.getElem?_eq_getElem (by omega)
    have htl:(ns.take k).length = k:=by rw [List.length_take]; omega
    have htk:ns.take (k + 1) = ns.take k ++ [ns[k]]:=by rw [List.take_add_one,hns']; rfl
    have hxu:(upO O (ns.take k))[k]? = some x:=by rw [upO_get hps,List.getElem?_eq_none (by omega:(ns.take k).length ≤ k)]
    obtain ⟨rb,rf,ro,r1,r2,r3,r4⟩:=hit.at.idx slI s3' (i:=k) (by omega)
    generalize ns[k] = n at hns' htk r4
    have ia:rIndexAddr Tryz.prog 22 (.slice (some ⟨b,0,none⟩) O.length O.length) (iv (k:Int)) = some (.pointer (some ⟨b,k * 5,none⟩)):=by rw [indexAddr_sl slrO srO hkn,Nat.zero_add]
    have hsz5:k * 5 + 3 + (c2 (n,n)).length ≤ ((upO O (ns.take k)).map cOd).flatten.length:=by
      have hfl:∀ l:List Od,(l.map cOd).flatten.length = l.length * 5:=fun l=>by
        induction l with
        | nil=>rfl
        | cons a l ih=>rw [List.map_cons,List.flatten_cons,List.length_append,ih,List.length_cons,cOd_len]; omega
      rw [hfl,hrl]
      show k * 5 + 3 + 2 ≤ O.length * 5
      omega
    obtain ⟨h5,hst,win,own5⟩:=own.store (off:=k * 5 + 3) (ls:=c2 (n,n)) (by simp [c2]) hsz5
    have hup:upO O (ns.take (k + 1)) = (upO O (ns.take k)).set k (setT x n):=by
      rw [htk,upO_snoc (by rw [htl]; exact hps),htl]
    rw [rows_set hxu,← hup] at own5
    have kp5:=win.kp hlo kp
    have b65:=(win.2 B6 (.inr (Nat.le_refl _))).1.trans b6h
    have l25:lo2 ≤ h5.nx:=by rw [win.1]; exact l2
    have hit5:=hisw h h5 hit (fun q hq=>(win.2 q (.inl (hblk q hq))).1) (by rw [win.1]; exact Nat.le_refl _)
    repeat refine S.seq ?_
    refine S.skip ?_
    simp (disch:=first|omega|(simp only [add_nx,upd_nx] <;> omega)|decide) only [rUz,↓reduceIte,Nat.reduceEqDiff,Nat.reduceAdd]
    repeat refine S.seq ?_
    refine S.block ?_
    repeat refine S.seq ?_
    refine S.drawnL [(false,0),(false,1),(false,0),(false,0),(false,0),(false,24),(false,56),(false,0),(false,0),(false,384),(false,896),(false,2040),(false,4095),(false,8191),(true,16383)] (by kernel_rfl) (by kernel_rfl) (by kernel_rfl) ?_
    simp (disch:=first|omega|(simp only [add_nx,upd_nx] <;> omega)|decide) only [rUz,↓reduceIte,Nat.reduceEqDiff,Nat.reduceAdd,rDz,infoL,Nat.reduceSub,t5,t6,t7,b6h,fieldAddr_ptr fA0 lrO,qrO,po0,r1,r3,p3,r4,rd_build,List.map_cons,List.map_nil,brRc,ia,fieldAddr_ptr frO3 SrR]
    refine drW_giveN (aw_storeC (B:=b) (off:=k * 5 + 3) (l:=c2 (n,n)) (by simp (disch:=first|omega|(simp only [add_nx,upd_nx] <;> omega)|decide) only [rUz,↓reduceIte,Nat.reduceEqDiff,Nat.reduceAdd,rDz,infoL,Nat.reduceSub]) (by simp (disch:=first|omega|(simp only [add_nx,upd_nx] <;> omega)|decide) only [rUz,↓reduceIte,Nat.reduceEqDiff,Nat.reduceAdd,rDz,infoL,Nat.reduceSub]) srR rfl hst) ?_ ?_
    · try simp (disch:=first|decide|rfl) only [again_nil,again_skip,again_free]
    simp (disch:=first|omega|(simp only [add_nx,upd_nx] <;> omega)|decide) only [rUz,↓reduceIte,Nat.reduceEqDiff,Nat.reduceAdd,rDz,infoL,Nat.reduceSub]
    repeat refine S.seq ?_
    refine S.region ?_
    simp (disch:=first|omega|(simp only [add_nx,upd_nx] <;> omega)|decide) only [rUz,↓reduceIte,Nat.reduceEqDiff,Nat.reduceAdd,t7]
    refine hn (k + 1) _ _ (by omega) ⟨kp5,own5,b65,l25,hit5,?_,?_,?_,by omega⟩
    all_goals (first|rfl|(simp (disch:=first|omega|(simp only [add_nx,upd_nx] <;> omega)|decide) only [rUz,↓reduceIte,Nat.reduceEqDiff,Nat.reduceAdd,t5,t6]; done)|(simp (disch:=first|omega|(simp only [add_nx,upd_nx] <;> omega)|decide) only [rUz,↓reduceIte,Nat.reduceEqDiff,Nat.reduceAdd,t5,t6]; rfl))
  have hkn:k = O.length:=by have:=of_decide_eq_false e; omega
  subst hkn
  rw [List.take_of_length_le (by omega)] at own hrl hne hsl
  obtain ⟨hvX,htX,huni⟩:=upO_cert hv htr
  have htru:=tru_of hvX htX
  have hpoX:PoAt h (.slice (some ⟨b,0,none⟩) O.length O.length) (upO O ns):=hsl
  have hbd:=fun q j=>bd_cert (q:=q) hvX huni j
  refine S.exit (he _ _ _ _ (fun e=>by cases e) ?_)
  clear hn he K' e own hne hsl t7 hisw hblk hlo
  generalize upO O ns = X at hrl hvX htX huni htru hpoX hbd
  simp (disch:=first|omega|(simp only [add_nx,upd_nx] <;> omega)|decide) only [rUz,↓reduceIte,Nat.reduceEqDiff,Nat.reduceAdd]
  have hn6:B6 < h.nx:=by omega
  repeat refine S.seq ?_
  refine S.region ?_
  simp (disch:=first|omega|(simp only [add_nx,upd_nx] <;> omega)|decide) only [rUz,↓reduceIte,Nat.reduceEqDiff,Nat.reduceAdd,t5,t6,b6h,part_0 pA (poV_len _)]
  refine wr_brings (fid:=13) (first:=#[]) (captured:=#[]) (Post:=fun u h=>∃ v',u = .agg ⟨poV v'⟩ ∧ PoAt h v' X) rfl (hoff _ _ _ rfl) (by simp (disch:=first|omega|(simp only [add_nx,upd_nx] <;> omega)|decide) only [rUz,↓reduceIte,Nat.reduceEqDiff,Nat.reduceAdd]; exact postC_y S hoff h _ X hpoX (by omega)) ?_
  rintro u g2 hkg2 ⟨v2,rfl,hb2⟩
  simp (disch:=first|omega|(simp only [add_nx,upd_nx] <;> omega)|decide) only [rUz,↓reduceIte,Nat.reduceEqDiff,Nat.reduceAdd,t5]
  refine wr_brings (fid:=31) (first:=#[]) (captured:=#[]) (Post:=fun u h=>IAt h u ns) rfl (hoff _ _ _ rfl) (by simp (disch:=first|omega|(simp only [add_nx,upd_nx] <;> omega)|decide) only [rUz,↓reduceIte,Nat.reduceEqDiff,Nat.reduceAdd]; exact list_y S g2 tv ns (hit.mono hkg2) (by omega)) ?_
  rintro tv2 g3 hkg3 ht2
  simp (disch:=first|omega|(simp only [add_nx,upd_nx] <;> omega)|decide) only [rUz,↓reduceIte,Nat.reduceEqDiff,Nat.reduceAdd]
  refine wr_brings (fid:=30) (first:=#[]) (captured:=#[]) (Post:=fun u h=>PlayAt X ns u h) rfl (hoff _ _ _ rfl) (by simp (disch:=first|omega|(simp only [add_nx,upd_nx] <;> omega)|decide) only [rUz,↓reduceIte,Nat.reduceEqDiff,Nat.reduceAdd]; exact play_y S hoff g3 v2 tv2 X ns (hb2.mono hkg3) ht2 (by omega)) ?_
  rintro u g4 hkg4 hpl
  have hkg24:=(hkg2.trans hkg3).trans hkg4
  have hfT:faultT X ns = 0:=by rw [faultT,decide_eq_true (val_iff.2 hvX),htX]; rfl
  obtain ⟨w,rfl,hs⟩:∃ w,u = .tuple ⟨[w,iv 0]⟩ ∧ SlAt g4 4 w ((playZ X ns).2.map cSa):=by
    rcases hpl with ⟨_,w,e,hs,_⟩|⟨hz,_⟩
    · exact ⟨w,e,hs⟩
    · exact absurd hfT hz
  clear hpl
  simp (disch:=first|omega|(simp only [add_nx,upd_nx] <;> omega)|decide) only [rUz,↓reduceIte,Nat.reduceEqDiff,Nat.reduceAdd,extract_tuple,tq0,tq1]
  replace b6h:=(hkg24.get hn6).trans b6h
  replace hn6:=Nat.lt_of_lt_of_le hn6 hkg24.1
  replace kp:=kp.trans hkg24
  replace hpoX:=hpoX.mono hkg24
  replace hit:=hit.mono hkg24
  have h6s:=sales_six hvX htru
  have hso:=sales_saok hvX htru
  clear hkg2 hkg3 hkg4 hkg24 hb2 ht2 hfT l2
  clear h
  repeat refine S.seq ?_
  refine S.region ?_
  simp (disch:=first|omega|(simp only [add_nx,upd_nx] <;> omega)|decide) only [rUz,↓reduceIte,Nat.reduceEqDiff,Nat.reduceAdd,t6,b6h,part_0 pA (poV_len _)]
  refine wr_brings (fid:=13) (first:=#[]) (captured:=#[]) (Post:=fun u h=>∃ v',u = .agg ⟨poV v'⟩ ∧ PoAt h v' X) rfl (hoff _ _ _ rfl) (by simp (disch:=first|omega|(simp only [add_nx,upd_nx] <;> omega)|decide) only [rUz,↓reduceIte,Nat.reduceEqDiff,Nat.reduceAdd]; exact postC_y S hoff g4 _ X hpoX (by omega)) ?_
  rintro u g5 hkg5 ⟨v5,rfl,hb5⟩
  simp (disch:=first|omega|(simp only [add_nx,upd_nx] <;> omega)|decide) only [rUz,↓reduceIte,Nat.reduceEqDiff,Nat.reduceAdd]
  refine wr_brings (fid:=12) (first:=#[]) (captured:=#[]) (Post:=FillsAt X) rfl (hoff _ _ _ rfl) (by simp (disch:=first|omega|(simp only [add_nx,upd_nx] <;> omega)|decide) only [rUz,↓reduceIte,Nat.reduceEqDiff,Nat.reduceAdd]; exact fills_y S hoff g5 v5 X hb5 (by omega)) ?_
  rintro u g6 hkg6 hf
  obtain ⟨fv,mv,rfl,hff,hmm⟩:∃ f m,u = .tuple ⟨[f,m,iv 0]⟩ ∧ SlAt g6 2 f ((rowsQ qN X).map c2) ∧ SlAt g6 2 m ((rowsQ qM X).map c2):=by
    rcases hf with ⟨_,f,m,e,h1,h2⟩|⟨hz,_⟩
    · exact ⟨f,m,e,h1,h2⟩
    · exact absurd (val_iff.2 hvX) hz
  clear hf
  have hk46:=hkg5.trans hkg6
  simp (disch:=first|omega|(simp only [add_nx,upd_nx] <;> omega)|decide) only [rUz,↓reduceIte,Nat.reduceEqDiff,Nat.reduceAdd,extract_tuple,tr0,tr1,tr2']
  replace kp:=kp.trans hk46
  replace hit:=hit.mono hk46
  replace hs:=SlAt.mono hs hk46
  clear hkg5 hkg6 hb5 hk46 b6h hn6 hpoX
  clear g4 g5
  generalize hMq:(playZ X ns).2 = M at hs h6s hso hbd
  have ls:=fun t h1 o=>row_len hs iscS t h1 o
  have lf:=fun t h1 o=>row_len hff isRg t h1 o
  have lm:=fun t h1 o=>row_len hmm isRg t h1 o
  rw [rowsQ_len,hrl] at lf lm
  have h40:decide (40 < (M.length:Int)) = false:=decide_eq_false (by omega)
  repeat refine S.seq ?_
  refine S.region ?_
  simp (disch:=first|omega|(simp only [add_nx,upd_nx] <;> omega)|decide) only [rUz,↓reduceIte,Nat.reduceEqDiff,Nat.reduceAdd,hdd,decide_true,Bool.not_true,ls,lf,lm,lT,t5,h40]
  repeat refine S.seq ?_
  refine S.cond (v:=false) (by first|rfl|(simp (disch:=first|omega|(simp only [add_nx,upd_nx] <;> omega)|decide) only [rUz,↓reduceIte,Nat.reduceEqDiff,Nat.reduceAdd] <;> rfl)) (fun e=>by cases e) (fun _=>?_)
  repeat refine S.seq ?_
  refine S.skip ?_
  simp (disch:=first|omega|(simp only [add_nx,upd_nx] <;> omega)|decide) only [rUz,↓reduceIte,Nat.reduceEqDiff,Nat.reduceAdd]
  repeat refine S.seq ?_
  refine S.region ?_
  simp (disch:=first|omega|(simp only [add_nx,upd_nx] <;> omega)|decide) only [rUz,↓reduceIte,Nat.reduceEqDiff,Nat.reduceAdd]
  repeat refine S.seq ?_
  refine S.block ?_
  refine S.loop (ι:=Nat) (ICf O.length g6 w fv mv tv) (fun k=>O.length - k) ?_ 0 _ _ ?_
  rotate_left
  · refine ⟨Kp.refl,?_,?_,?_,?_,?_,Nat.zero_le _⟩
    all_goals (first|rfl|(simp (disch:=first|omega|(simp only [add_nx,upd_nx] <;> omega)|decide) only [rUz,↓reduceIte,Nat.reduceEqDiff,Nat.reduceAdd,t5]; done)|(simp (disch:=first|omega|(simp only [add_nx,upd_nx] <;> omega)|decide) only [rUz,↓reduceIte,Nat.reduceEqDiff,Nat.reduceAdd,t5]; rfl))
  clear t5 t6
  clear t
  intro k t h ⟨kpa,t5,t8,t10,t11,t13,hk⟩ K' hn he
  repeat refine S.seq ?_
  refine S.region ?_
  simp (disch:=first|omega|(simp only [add_nx,upd_nx] <;> omega)|decide) only [rUz,↓reduceIte,Nat.reduceEqDiff,Nat.reduceAdd,t5,t13,lT]
  repeat refine S.seq ?_
  refine S.cond (v:=decide ((k:Int) < (O.length:Int))) (by first|rfl|(simp (disch:=first|omega|(simp only [add_nx,upd_nx] <;> omega)|decide) only [rUz,↓reduceIte,Nat.reduceEqDiff,Nat.reduceAdd] <;> rfl)) (fun e=>?_) (fun e=>?_)
  · have hkn:k < O.length:=by have:=of_decide_eq_true e; omega
    clear e
    repeat refine S.seq ?_
    refine S.skip ?_
    simp (disch:=first|omega|(simp only [add_nx,upd_nx] <;> omega)|decide) only [rUz,↓reduceIte,Nat.reduceEqDiff,Nat.reduceAdd]
    repeat refine S.seq ?_
    refine S.block ?_
    repeat refine S.seq ?_
    refine S.region ?_
    simp (disch:=first|omega|(simp only [add_nx,upd_nx] <;> omega)|decide) only [rUz,↓reduceIte,Nat.reduceEqDiff,Nat.reduceAdd,t8]
    refine wr_brings (fid:=33) (first:=#[]) (captured:=#[]) (Post:=fun u h=>SlAt h 4 u (M.map cSa)) rfl (hoff _ _ _ rfl) (by simp (disch:=first|omega|(simp only [add_nx,upd_nx] <;> omega)|decide) only [rUz,↓reduceIte,Nat.reduceEqDiff,Nat.reduceAdd]; exact back_y S h w M (SlAt.mono hs kpa) (by omega)) ?_
    rintro u8 g8 hkg8 hs8
    simp (disch:=first|omega|(simp only [add_nx,upd_nx] <;> omega)|decide) only [rUz,↓reduceIte,Nat.reduceEqDiff,Nat.reduceAdd,t13]
    refine wr_brings (fid:=32) (first:=#[]) (captured:=#[]) (Post:=fun u h=>u = .tuple ⟨[iv (fnZ (k:Int) M),iv (fmZ (k:Int) M)]⟩ ∧ g8 = h) rfl (hoff _ _ _ rfl) (by simp (disch:=first|omega|(simp only [add_nx,upd_nx] <;> omega)|decide) only [rUz,↓reduceIte,Nat.reduceEqDiff,Nat.reduceAdd]; exact filled_y S g8 u8 M (k:Int) hs8 hso (by omega)) ?_
    rintro u9 g9 - ⟨rfl,rfl⟩
    simp (disch:=first|omega|(simp only [add_nx,upd_nx] <;> omega)|decide) only [rUz,↓reduceIte,Nat.reduceEqDiff,Nat.reduceAdd,extract_tuple,tq0,tq1]
    have kpg:=kpa.trans hkg8
    have hrN:(rowsQ qN X)[k]? = some (fnZ (k:Int) M,fnZ (k:Int) M):=by rw [rowsQ_get (by omega),hbd,show fqZ qN (k:Int) M = fnZ (k:Int) M from fqZ_n _ _]
    have hrM:(rowsQ qM X)[k]? = some (fmZ (k:Int) M,fmZ (k:Int) M):=by rw [rowsQ_get (by omega),hbd,show fqZ qM (k:Int) M = fmZ (k:Int) M from fqZ_m _ _]
    obtain ⟨b1,f1,o1,e1,u1,u2,u3,u4,u5,u6⟩:=row_idx (SlAt.mono hff kpg) slRg scR hrN
    obtain ⟨b2,f2,o2,e2,w1,w2,w3,w4,w5,w6⟩:=row_idx (SlAt.mono hmm kpg) slRg scR hrM
    have up:=part_at pcR u4 u5
    have wp:=part_at pcR w4 w5
    repeat refine S.seq ?_
    refine S.drawnL [(false,0),(false,0),(false,3),(false,7),(false,0),(false,0),(true,48),(false,127),(false,255),(false,511),(false,511),(false,2047),(false,4095),(false,511),(false,511),(true,25087),(false,65535),(false,131071)] (by kernel_rfl) (by kernel_rfl) (by kernel_rfl) ?_
    simp (disch:=first|omega|(simp only [add_nx,upd_nx] <;> omega)|decide) only [rUz,↓reduceIte,Nat.reduceEqDiff,Nat.reduceAdd,rDz,infoL,Nat.reduceSub,t10,t13,u1,u3,up]
    refine drW_brings (fid:=36) (first:=#[]) (captured:=#[]) (Post:=fun u _=>u = .agg ⟨c2 (fnZ (k:Int) M,fnZ (k:Int) M)⟩) rfl (hoff _ _ _ rfl) (by simp (disch:=first|omega|(simp only [add_nx,upd_nx] <;> omega)|decide) only [rUz,↓reduceIte,Nat.reduceEqDiff,Nat.reduceAdd]; exact between_y S g8 _ _) (Nat.le_of_ble_eq_true rfl) ?_
    rintro u9 g9 hkg9 rfl
    refine ⟨?_,?_⟩
    · try simp (disch:=first|decide|rfl) only [again_nil,again_skip,again_free]
      rw [again_same (v:=.agg ⟨c2 (fnZ (k:Int) M,fnZ (k:Int) M)⟩) (by simp (disch:=first|omega|(simp only [add_nx,upd_nx] <;> omega)|decide) only [rUz,↓reduceIte,Nat.reduceEqDiff,Nat.reduceAdd,rDz,infoL,Nat.reduceSub,(hkg9.get u2).trans u3,up]) (veq_c2 _)]
      try simp (disch:=first|decide|rfl) only [again_nil,again_skip,again_free]
    simp (disch:=first|omega|(simp only [add_nx,upd_nx] <;> omega)|decide) only [rUz,↓reduceIte,Nat.reduceEqDiff,Nat.reduceAdd,rDz,infoL,Nat.reduceSub]
    refine drR_of' (bin_neInts kRg gRg rfl (eqInts_R _ _) (plain_R _) (plain_R _) (by simp (disch:=first|omega|(simp only [add_nx,upd_nx] <;> omega)|decide) only [rUz,↓reduceIte,Nat.reduceEqDiff,Nat.reduceAdd,rDz,infoL,Nat.reduceSub]) (by simp (disch:=first|omega|(simp only [add_nx,upd_nx] <;> omega)|decide) only [rUz,↓reduceIte,Nat.reduceEqDiff,Nat.reduceAdd,rDz,infoL,Nat.reduceSub])) ?_
    have w3g:=(hkg9.get w2).trans w3
    simp (disch:=first|omega|(simp only [add_nx,upd_nx] <;> omega)|decide) only [rUz,↓reduceIte,Nat.reduceEqDiff,Nat.reduceAdd,rDz,infoL,Nat.reduceSub,eqR_self,Bool.not_true,t11,t13,w1,w3g,wp]
    refine drW_brings (fid:=36) (first:=#[]) (captured:=#[]) (Post:=fun u _=>u = .agg ⟨c2 (fmZ (k:Int) M,fmZ (k:Int) M)⟩) rfl (hoff _ _ _ rfl) (by simp (disch:=first|omega|(simp only [add_nx,upd_nx] <;> omega)|decide) only [rUz,↓reduceIte,Nat.reduceEqDiff,Nat.reduceAdd]; exact between_y S g9 _ _) (Nat.le_of_ble_eq_true rfl) ?_
    rintro u10 g10 hkg10 rfl
    refine ⟨?_,?_⟩
    · try simp (disch:=first|decide|rfl) only [again_nil,again_skip,again_free]
      rw [again_same (v:=.agg ⟨c2 (fmZ (k:Int) M,fmZ (k:Int) M)⟩) (by simp (disch:=first|omega|(simp only [add_nx,upd_nx] <;> omega)|decide) only [rUz,↓reduceIte,Nat.reduceEqDiff,Nat.reduceAdd,rDz,infoL,Nat.reduceSub,(hkg10.get (Nat.lt_of_lt_of_le w2 hkg9.1)).trans w3g,wp]) (veq_c2 _)]
      try simp (disch:=first|decide|rfl) only [again_nil,again_skip,again_free]
    simp (disch:=first|omega|(simp only [add_nx,upd_nx] <;> omega)|decide) only [rUz,↓reduceIte,Nat.reduceEqDiff,Nat.reduceAdd,rDz,infoL,Nat.reduceSub]
    refine drR_of' (bin_neInts kRg gRg rfl (eqInts_R _ _) (plain_R _) (plain_R _) (by simp (disch:=first|omega|(simp only [add_nx,upd_nx] <;> omega)|decide) only [rUz,↓reduceIte,Nat.reduceEqDiff,Nat.reduceAdd,rDz,infoL,Nat.reduceSub]) (by simp (disch:=first|omega|(simp only [add_nx,upd_nx] <;> omega)|decide) only [rUz,↓reduceIte,Nat.reduceEqDiff,Nat.reduceAdd,rDz,infoL,Nat.reduceSub])) ?_
    simp (disch:=first|omega|(simp only [add_nx,upd_nx] <;> omega)|decide) only [rUz,↓reduceIte,Nat.reduceEqDiff,Nat.reduceAdd,rDz,infoL,Nat.reduceSub,eqR_self,Bool.not_true]
    repeat refine S.seq ?_
    refine S.cond (v:=false) (by first|rfl|(simp (disch:=first|omega|(simp only [add_nx,upd_nx] <;> omega)|decide) only [rUz,↓reduceIte,Nat.reduceEqDiff,Nat.reduceAdd] <;> rfl)) (fun e=>by cases e) (fun _=>?_)
    repeat refine S.seq ?_
    refine S.skip ?_
    simp (disch:=first|omega|(simp only [add_nx,upd_nx] <;> omega)|decide) only [rUz,↓reduceIte,Nat.reduceEqDiff,Nat.reduceAdd]
    repeat refine S.seq ?_
    refine S.region ?_
    simp (disch:=first|omega|(simp only [add_nx,upd_nx] <;> omega)|decide) only [rUz,↓reduceIte,Nat.reduceEqDiff,Nat.reduceAdd,t13]
    refine hn (k + 1) _ _ (by omega) ⟨(kpg.trans hkg9).trans hkg10,?_,?_,?_,?_,?_,by omega⟩
    all_goals (first|rfl|(simp (disch:=first|omega|(simp only [add_nx,upd_nx] <;> omega)|decide) only [rUz,↓reduceIte,Nat.reduceEqDiff,Nat.reduceAdd,t5,t8,t10,t11]; done)|(simp (disch:=first|omega|(simp only [add_nx,upd_nx] <;> omega)|decide) only [rUz,↓reduceIte,Nat.reduceEqDiff,Nat.reduceAdd,t5,t8,t10,t11]; rfl))
  refine S.exit (he _ _ _ _ (fun e=>by cases e) ?_)
  simp (disch:=first|omega|(simp only [add_nx,upd_nx] <;> omega)|decide) only [rUz,↓reduceIte,Nat.reduceEqDiff,Nat.reduceAdd]
  repeat refine S.seq ?_
  refine S.region ?_
  simp (disch:=first|omega|(simp only [add_nx,upd_nx] <;> omega)|decide) only [rUz,↓reduceIte,Nat.reduceEqDiff,Nat.reduceAdd]
  refine awake ?_
  simp (disch:=first|omega|(simp only [add_nx,upd_nx] <;> omega)|decide) only [rUz,↓reduceIte,Nat.reduceEqDiff,Nat.reduceAdd]
  refine S.ret ?_
  try simp only [seqK_ret,blockK_ret]
  subst hF
  simp only [finish,endMarks]
  rw [show Tryz.f8.results.toList = [.tmp 4] from rfl]
  simp (disch:=first|omega|(simp only [add_nx,upd_nx] <;> omega)|decide) only [resA,ev_tmp,tget_ne,tget_eq,get_ne,get_eq,upd_eq,upd_ne,ag_eq,ag_ne,result1]
  exact hKr _ (kp.trans kpa)
end Go.Proofs.Po
