import Derived.Test.YthgmipngikdknaaGreatPrC
import Derived.Test.YthgmipngikdknaaGreatPhA
import Derived.Test.YthgmipngikdknaaGreatPoT
/- PostCertain. -/
namespace Go.Proofs.Po
open Go Go.Ev Go.RowKit
set_option linter.unusedSimpArgs false
variable {pr:Prim} {R:ExT}
theorem kRg:intKey Tryz.prog 43 = some 2:=by kernel_rfl
theorem gRg:Tryz.prog.eqGuardType Tryz.prog.depth 43 = false:=by kernel_rfl
def eqR (x y:I2):Bool:=beqI x.1 y.1 && beqI x.2 y.2
theorem eqInts_R (x y:I2):eqInts (c2 x) (c2 y) = some (eqR x y):=by
  have hk:beqKind IntKind.i64 IntKind.i64 = true:=rfl
  unfold c2 eqR
  simp only [eqInts,hk,cond_true]
  cases beqI x.1 y.1 <;> cases beqI x.2 y.2 <;> rfl
theorem plain_R (x:I2):plainB (.agg ⟨c2 x⟩) = true:=by simp only [c2,plainB,plainA,plainL,oneA,oneL,oneB,Bool.and_self]
theorem eqR_self (x:I2):eqR x x = true:=by unfold eqR; simp only [beqI_eq,decide_true,Bool.and_self]
/-! ## Orders of which the minutes are known -/
theorem bA1c (p:Option Addr) (n c:Nat):rBuild Tryz.prog 24 [(0,.slice p n c)] = some (.agg ⟨poV (.slice p n c)⟩):=by kernel_rfl
end Go.Proofs.Po

/- Orders that are turned (nothing of the program in it, but for stores). -/
namespace Go.Proofs.Po
open Go Go.Ev Go.RowKit
set_option linter.unusedSimpArgs false
def trO (x:Od):Od:=⟨!x.b,101 - x.l,x.n,x.lo,x.hi⟩
def trS (s:Sa):Sa:=⟨s.se,s.bu,s.nu,101 - s.pr⟩
theorem od_tr {O:List Od} {j:Nat} (h:j < O.length):od (O.map trO) j = trO (od O j):=by
  unfold od
  rw [List.getD_eq_getElem?_getD,List.getD_eq_getElem?_getD,List.getElem?_map,List.getElem?_eq_getElem h]; rfl
theorem at_tr (x:Od) (p:Int):isAtB (trO x) (101 - p) = isAtB x p:=by
  unfold isAtB trO
  cases x.b with
  | true =>
    show decide (101 - x.l ≤ 101 - p) = decide (p ≤ x.l)
    by_cases h:p ≤ x.l
    · rw [decide_eq_true h,decide_eq_true (by omega)]
    · rw [decide_eq_false h,decide_eq_false (by omega)]
  | false =>
    show decide (101 - p ≤ 101 - x.l) = decide (x.l ≤ p)
    by_cases h:x.l ≤ p
    · rw [decide_eq_true h,decide_eq_true (by omega)]
    · rw [decide_eq_false h,decide_eq_false (by omega)]
theorem can_tr {O:List Od} {lf:List Int} {a r:Nat} (ha:a < O.length) (hr:r < O.length):canB (O.map trO) lf a r = canB O lf a r:=by
  unfold canB oppB
  rw [od_tr ha,od_tr hr]
  have e:isAtB (trO (od O a)) (trO (od O r)).l = isAtB (od O a) (od O r).l:=at_tr _ _
  rw [e]
  have e2:((trO (od O a)).b != (trO (od O r)).b) = ((od O a).b != (od O r).b):=by
    show ((!(od O a).b) != (!(od O r).b)) = _
    cases (od O a).b <;> cases (od O r).b <;> rfl
  rw [e2]
theorem bet_tr {O:List Od} {r b:Nat} (hb:b < O.length) (hr:r < O.length):betB (O.map trO) r b = betB O r b:=by
  unfold betB
  rw [od_tr hb,od_tr hr]
  have e:isAtB (trO (od O b)) (trO (od O r)).l = isAtB (od O b) (od O r).l:=at_tr _ _
  rw [e]
theorem pick_tr {O:List Od} {lf:List Int} {a:Nat} (ha:a < O.length):∀ (l:List Nat) (acc:Option Nat),(∀ r,r ∈ l → r < O.length) → (∀ r,acc = some r → r < O.length) → pickZ (O.map trO) lf a l acc = pickZ O lf a l acc
  | [],_,_,_=>rfl
  | r :: l,acc,hl,hc=>by
    have hr:=hl r (by simp)
    have hs:stepP (O.map trO) lf a r acc = stepP O lf a r acc:=by
      unfold stepP
      rw [can_tr ha hr]
      cases acc with
      | none=>rfl
      | some b=>show (bif canB O lf a r && betB (O.map trO) r b then _ else _) = _; rw [bet_tr (hc b rfl) hr]; rfl
    unfold pickZ
    rw [hs]
    refine pick_tr ha l _ (fun q hq=>hl q (by simp [hq])) fun q hq=>?_
    unfold stepP at hq
    cases hx:canB O lf a r && accB O r acc with
    | true=>rw [hx,cond_true] at hq; cases hq; exact hr
    | false=>rw [hx,cond_false] at hq; exact hc q hq
theorem bs_tr {O:List Od} {a r:Nat} (hr:r < O.length):bsZ (O.map trO) a r = ((bsZ O a r).2,(bsZ O a r).1):=by
  unfold bsZ
  rw [od_tr hr]
  show (bif !(od O r).b then (r,a) else (a,r)) = _
  cases (od O r).b <;> rfl
theorem drop_tr {O:List Od} {lf:List Int} {a r:Nat} (hr:r < O.length) (hne:a ≠ r):dropZ (O.map trO) lf a r = dropZ O lf a r:=by
  unfold dropZ subZ
  rw [bs_tr hr]
  have key:∀ x y:Nat,x ≠ y → ∀ n:Int,(lf.set x (lg lf x - n)).set y (lg (lf.set x (lg lf x - n)) y - n) = (lf.set y (lg lf y - n)).set x (lg (lf.set y (lg lf y - n)) x - n):=by
    intro x y hxy n
    have h1:lg (lf.set x (lg lf x - n)) y = lg lf y:=by
      unfold lg; rw [List.getD_eq_getElem?_getD,List.getElem?_set,if_neg hxy,List.getD_eq_getElem?_getD]
    have h2:lg (lf.set y (lg lf y - n)) x = lg lf x:=by
      unfold lg; rw [List.getD_eq_getElem?_getD,List.getElem?_set,if_neg fun e=>hxy e.symm,List.getD_eq_getElem?_getD]
    rw [h1,h2,List.set_comm _ _ hxy]
  rcases bs_cases O a r with e|e
  · rw [e]; exact key a r hne _
  · rw [e]; exact key r a (fun q=>hne q.symm) _
theorem sale_tr {O:List Od} {lf:List Int} {a r:Nat} (hr:r < O.length):saleZ (O.map trO) lf a r = trS (saleZ O lf a r):=by
  unfold saleZ
  rw [bs_tr hr,od_tr hr]
  rfl
theorem come_tr {O:List Od} {a:Nat} (ha:a < O.length) {came:List Nat} (hc:∀ r,r ∈ came → r < O.length):∀ (f:Nat) (lf:List Int) (sl:List Sa),comeZ (O.map trO) came a f (lf,sl.map trS) = ((comeZ O came a f (lf,sl)).1,(comeZ O came a f (lf,sl)).2.map trS)
  | 0,_,_=>rfl
  | f + 1,lf,sl=>by
    have hp:pickZ (O.map trO) lf a came none = pickZ O lf a came none:=pick_tr ha came none hc fun r h=>by cases h
    cases hq:pickZ O lf a came none with
    | none =>
      rw [come_none (st:=(lf,sl.map trS)) (hp.trans hq),come_none (st:=(lf,sl)) hq]
    | some r =>
      obtain ⟨hr,hcan⟩:=pick_in hq
      rw [come_some (st:=(lf,sl.map trS)) (hp.trans hq),come_some (st:=(lf,sl)) hq]
      show comeZ (O.map trO) came a f (dropZ (O.map trO) lf a r,sl.map trS ++ [saleZ (O.map trO) lf a r]) = _
      rw [drop_tr (hc r hr) (can_ne hcan),sale_tr (hc r hr),show sl.map trS ++ [trS (saleZ O lf a r)] = (sl ++ [saleZ O lf a r]).map trS from by rw [List.map_append]; rfl]
      exact come_tr ha hc f _ _
theorem run_tr {O:List Od}:∀ (l came:List Nat) (lf:List Int) (sl:List Sa),(∀ a,a ∈ l → a < O.length) → (∀ r,r ∈ came → r < O.length) → runZ (O.map trO) l came (lf,sl.map trS) = ((runZ O l came (lf,sl)).1,(runZ O l came (lf,sl)).2.map trS)
  | [],_,_,_,_,_=>rfl
  | a :: l,came,lf,sl,hl,hc=>by
    have ha:=hl a (by simp)
    unfold runZ
    rw [come_tr ha hc]
    refine run_tr l _ _ _ (fun b hb=>hl b (by simp [hb])) fun r hr=>?_
    rcases List.mem_append.1 hr with hr|hr
    · exact hc r hr
    · obtain rfl:r = a:=by simpa using hr
      exact ha
theorem left0_tr (O:List Od):left0 (O.map trO) (O.map trO).length = left0 O O.length:=by
  unfold left0
  rw [List.length_map]
  apply List.map_congr_left
  intro j hj
  by_cases hjO:j < O.length
  · rw [if_pos hjO,if_pos hjO,od_tr hjO]; rfl
  · rw [if_neg hjO,if_neg hjO]
theorem play_tr {O:List Od} {t:List Int} (_hv:Val O) (ht:Tru O t):(playZ (O.map trO) t).2 = (playZ O t).2.map trS:=by
  unfold playZ
  rw [left0_tr O]
  have:=run_tr (O:=O) (ordZ t) [] (left0 O O.length) [] (fun a ha=>by have:=ord_lt ha; rw [ht.len] at this; exact this) (fun r h=>by cases h)
  have h2:=congrArg Prod.snd this
  simp only [List.map_nil] at h2
  exact h2
theorem soon_tr {O:List Od} {j:Nat} {last:I2} (hj:j < O.length):soonZ (O.map trO) j last = soonZ O j last:=by
  unfold soonZ soonM
  rw [od_tr hj]; rfl
theorem canC_tr {O:List Od} {a:AR} (ha:a.2 < O.length):canC (O.map trO) a = canC O a:=by
  unfold canC
  rw [od_tr ha]; rfl
theorem comersG_tr {O:List Od} {last:I2}:∀ (W:List Nat) (i:Nat),(∀ j,j ∈ W → j < O.length) → comersG (O.map trO) last W i = comersG O last W i
  | [],_,_=>rfl
  | j :: W,i,h=>by
    have hj:=h j (by simp)
    unfold comersG
    rw [soon_tr hj,canC_tr (show (soonZ O j last).2 < O.length from hj),comersG_tr W (i + 1) fun q hq=>h q (by simp [hq])]
theorem paths_tr {O:List Od}:∀ (n:Nat) (W:List Nat) (last:I2),(∀ j,j ∈ W → j < O.length) → pathsZ (O.map trO) n W last = pathsZ O n W last
  | 0,_,_,_=>rfl
  | n + 1,W,last,h=>by
    rw [paths_succ,paths_succ]
    unfold comersZ
    rw [comersG_tr W 0 h]
    unfold wayZ
    congr 1
    funext x
    rw [paths_tr n _ _ fun j hj=>h j (List.mem_of_mem_eraseIdx hj)]
theorem all_tr (O:List Od):allZ (O.map trO) = allZ O:=by
  unfold allZ pathsA
  rw [List.length_map,paths_tr _ _ _ fun j hj=>List.mem_range.1 hj]
theorem val_tr {O:List Od} (hv:Val O):Val (O.map trO):=by
  refine ⟨by rw [List.length_map]; exact hv.l1,by rw [List.length_map]; exact hv.l6,fun x hx=>?_⟩
  obtain ⟨y,hy,rfl⟩:=List.mem_map.1 hx
  have ok:=hv.ok y hy
  have l1:=ok.l1; have l2:=ok.l2
  exact ⟨by show 1 ≤ 101 - y.l; omega,by show 101 - y.l ≤ 100; omega,ok.n1,ok.n2,ok.m0,ok.m1,ok.m2⟩
theorem truth_tr {O:List Od} {t:List Int} (h:truthB O t = true):truthB (O.map trO) t = true:=by
  rw [truth_iff] at h ⊢
  refine ⟨by rw [List.length_map]; exact h.1,fun i h1 h2=>?_⟩
  rw [List.getElem_map]
  exact h.2 i (by rw [List.length_map] at h1; exact h1) h2
theorem fq_tr (w:Int):∀ l:List Sa,fqZ qN w (l.map trS) = fqZ qN w l
  | []=>rfl
  | s :: l=>by
    rw [List.map_cons]
    unfold fqZ
    rw [fq_tr w l]
    have:hitB (trS s) w = hitB s w:=by unfold hitB trS; exact Bool.or_comm _ _
    rw [this]; rfl
theorem rows_tr {O:List Od} (hv:Val O):rowsQ qN (O.map trO) = rowsQ qN O:=by
  unfold rowsQ
  rw [List.length_map]
  apply List.map_congr_left
  intro j _
  have e:lstQ qN (O.map trO) j (allZ O).length = lstQ qN O j (allZ O).length:=by
    unfold lstQ
    rw [all_tr]
    apply List.map_congr_left
    intro t ht
    have hb:=(all_play hv).1 t (List.mem_of_mem_take ht)
    rw [play_tr hv (tru_of hv hb),fq_tr]
  unfold bdQ
  rw [all_tr,e]
/-! ## Turned one by one -/
def trK (O:List Od) (k:Nat):List Od:=(O.take k).map trO ++ O.drop k
theorem trK_len (O:List Od) (k:Nat) (h:k ≤ O.length):(trK O k).length = O.length:=by unfold trK; rw [List.length_append,List.length_map,List.length_take,List.length_drop]; omega
theorem trK_0 (O:List Od):trK O 0 = O:=by unfold trK; rw [List.take_zero,List.drop_zero]; rfl
theorem trK_all (O:List Od):trK O O.length = O.map trO:=by unfold trK; rw [List.take_of_length_le (Nat.le_refl _),List.drop_of_length_le (Nat.le_refl _),List.append_nil]
theorem trK_get {O:List Od} {k:Nat} {x:Od} (h:O[k]? = some x):(trK O k)[k]? = some x:=by
  have hk:=(List.getElem?_eq_some_iff.1 h).1
  have hl:((O.take k).map trO).length = k:=by rw [List.length_map,List.length_take]; omega
  unfold trK
  rw [List.getElem?_append_right (by omega),hl,Nat.sub_self,List.getElem?_drop,Nat.add_zero,h]
theorem trK_succ {O:List Od} {k:Nat} {x:Od} (h:O[k]? = some x):(trK O k).set k (trO x) = trK O (k + 1):=by
  obtain ⟨hk,e⟩:=List.getElem?_eq_some_iff.1 h
  have hl:((O.take k).map trO).length = k:=by rw [List.length_map,List.length_take]; omega
  unfold trK
  rw [List.set_append_right _ _ (by omega),hl,Nat.sub_self,List.drop_eq_getElem_cons hk,List.set_cons_zero,List.take_add_one,h,List.map_append,List.append_assoc]
  rfl
theorem flat_setc {α:Type} {cv:α → List Value} {n:Nat} (hn:∀ x,(cv x).length = n):∀ (l:List α) (i:Nat) (x y:α) (j:Nat) (u:Value),l[i]? = some x → j < n → (cv x).set j u = cv y → ((l.map cv).flatten.take (i * n + j) ++ [u] ++ (l.map cv).flatten.drop (i * n + j + 1)) = ((l.set i y).map cv).flatten:=by
  intro l i x y j u hx hj hs
  have hi:=(List.getElem?_eq_some_iff.1 hx).1
  have hfl:∀ l:List α,(l.map cv).flatten.length = l.length * n:=fun l=>by
    induction l with
    | nil=>simp
    | cons a l ih=>rw [List.map_cons,List.flatten_cons,List.length_append,ih,List.length_cons,hn,Nat.succ_mul]; omega
  have hlt:i * n + j < (l.map cv).flatten.length:=by
    rw [hfl]
    have:(i + 1) * n ≤ l.length * n:=Nat.mul_le_mul_right n hi
    rw [Nat.succ_mul] at this; omega
  have e1:(l.map cv).flatten.take (i * n + j) ++ [u] ++ (l.map cv).flatten.drop (i * n + j + 1) = (l.map cv).flatten.set (i * n + j) u:=by
    rw [List.set_eq_take_append_cons_drop,if_pos hlt,List.append_assoc]; rfl
  rw [e1]
  clear e1 hlt hfl
  induction l generalizing i with
  | nil=>simp at hx
  | cons a l ih =>
    cases i with
    | zero =>
      obtain rfl:a = x:=by simpa using hx
      rw [List.map_cons,List.flatten_cons,Nat.zero_mul,Nat.zero_add,List.set_append_left _ _ (by rw [hn]; exact hj),hs,List.set_cons_zero,List.map_cons,List.flatten_cons]
    | succ i =>
      rw [List.map_cons,List.flatten_cons,List.set_append_right _ _ (by rw [hn,Nat.succ_mul]; omega),hn,show (i + 1) * n + j - n = i * n + j from by rw [Nat.succ_mul]; omega,ih i (by simpa using hx) (by simpa using hi),List.set_cons_succ,List.map_cons,List.flatten_cons]
theorem aw_storeC1 {P:Program} {call:CallT} {t:T Value} {h h':AHeap} {x y:Operand} {a ty:TypeId} {pos:String} {af:Array Edge} {g:Option (Nat × Bool)} {dst:Option Tmp} {B off:Nat} {v:Value} (hx:ev P t x = .pointer (some ⟨B,off,none⟩)) (hy:ev P t y = v) (hs:sizeB P a = some 1) (ho:okV v = true) (hvl:v.cells.toList = [v])
    (hst:∀ K:AHeap → Bool,storeC h B off [v] K = K h') (K:KV):awrite P call t h ⟨dst,.store a x y,ty,pos,af,g⟩ K = K undef h':=by
  have h2:(okV v && Nat.beq (Value.cells v).size 1) = true:=by
    rw [ho,← Array.length_toList,hvl]; rfl
  simp only [awrite,wStore,hx,hy,hs,h2,cond_true,hvl,hst]
end Go.Proofs.Po

/- PostTurned. -/
namespace Go.Proofs.Po
open Go Go.Ev Go.RowKit
set_option linter.unusedSimpArgs false
variable {pr:Prim} {R:ExT}
theorem sb1:sizeB Tryz.prog 4 = some 1:=by kernel_rfl
theorem veq_slb (b n:Nat):veq (.slice (some ⟨b,0,none⟩) n n) (.slice (some ⟨b,0,none⟩) n n) = true:=by simp only [veq,Nat.beq_refl,Bool.and_self]
structure ITu (O:List Od) (wv:Value) (h0:AHeap) (lo hi lo2 b F B5 B1:Nat) (v:Value) (k:Nat) (t:T Value) (h:AHeap):Prop where
  kp:Kp h0 h
  own:OwnC lo hi h b F ((trK O k).map cOd).flatten
  b5:h.bl.get B5 = some (.cells (poV (.slice (some ⟨b,0,none⟩) O.length O.length)) B5 false)
  b1:h.bl.get B1 = some (.cells (poV v) B1 false)
  l2:lo2 ≤ h.nx
  t1:tget t 1 = wv
  t2:tget t 2 = ptr0 B1
  t5:tget t 5 = ptr0 B5
  t6:tget t 6 = iv (k:Int)
  hk:k ≤ O.length
structure ITv (n:Nat) (G:AHeap) (w wx fv fx:Value) (k:Nat) (t:T Value) (h:AHeap):Prop where
  kp:Kp G h
  t8:tget t 8 = w
  t10:tget t 10 = wx
  t12:tget t 12 = fv
  t15:tget t 15 = fx
  t18:tget t 18 = iv (k:Int)
  hk:k ≤ n
structure ITw (n:Nat) (G:AHeap) (fv fx:Value) (k:Nat) (t:T Value) (h:AHeap):Prop where
  kp:Kp G h
  t12:tget t 12 = fv
  t15:tget t 15 = fx
  t19:tget t 19 = iv (k:Int)
  hk:k ≤ n
set_option maxRecDepth 100000 in
set_option maxHeartbeats 64000000 in
theorem turned_law (S:Ev.Steps Tryz.prog pr R) (hT:Tab pr) (h0:AHeap) (v:Value) (O:List Od) (hb:PoAt h0 v O) (wv:Value) (ws:List Int) (hw:WdAt h0 wv ws) (hwl:(ws.length:Int) < 9223372036854775808) :
    Brings Tryz.prog R 6 [.agg ⟨poV v⟩,wv] h0 fun u _=>u = .bool true:=by
  have hoff:=hT.off
  refine brings_of (fn:=Tryz.f6) (c:=(Tryz.f6.body).getD .skip) (by kernel_rfl) rfl (by kernel_rfl) rfl (fun K hK=>?_)
  generalize hF:finish Tryz.prog Tryz.f6 K = KF
  simp only [Tryz.f6,Option.getD_some,argsT,setArgs,fV1_eq,T.setK_eq,id]
  have hKr:∀ g,Kp h0 g → K (.bool true) g = true:=fun g hk=>hK _ _ hk rfl
  clear hK
  have awake:∀ {ops:Array Oper} {n:Nat} {rest:List Oper} {t:T Value} {h:AHeap} {KR:T Value → AHeap → Bool} {dst:Option Tmp},putR Tryz.prog (withPrim pr (callVal Tryz.prog R)) ops n rest dst t (.bool true) h KR = true →
      wrR Tryz.prog (withPrim pr (callVal Tryz.prog R)) ops n rest (.call ⟨.value (.func 11),#[],#[]⟩) dst t h KR = true:=fun k=>wr_prim (fid:=11) (first:=#[]) (captured:=#[]) (v:=.bool true) rfl (hT.awake _) k
  have tq0:∀ a b:Value,(⟨[a,b]⟩:Array Value)[0]? = some a:=fun _ _=>rfl
  have tq1:∀ a b:Value,(⟨[a,b]⟩:Array Value)[1]? = some b:=fun _ _=>rfl
  have tr0:∀ a b c:Value,(⟨[a,b,c]⟩:Array Value)[0]? = some a:=fun _ _ _=>rfl
  have tr1:∀ a b c:Value,(⟨[a,b,c]⟩:Array Value)[1]? = some b:=fun _ _ _=>rfl
  have tr2':∀ a b c:Value,(⟨[a,b,c]⟩:Array Value)[2]? = some c:=fun _ _ _=>rfl
  have hdd:∀ z:Int,decide (z = z) = true:=fun z=>decide_eq_true rfl
  repeat refine S.seq ?_
  refine S.region ?_
  simp (disch:=first|omega|(simp only [add_nx,upd_nx] <;> omega)|decide) only [rUz,↓reduceIte,Nat.reduceEqDiff,Nat.reduceAdd]
  have hb1:(h0.add (poV v)).bl.get h0.nx = some (.cells (poV v) h0.nx false):=ag_eq rfl
  have hn1:h0.nx < (h0.add (poV v)).nx:=Nat.lt_succ_self _
  have hk1:Kp h0 (h0.add (poV v)):=Kp.refl.add
  generalize h0.add (poV v) = H at hb1 hn1 hk1 ⊢
  generalize h0.nx = B1 at hb1 hn1 ⊢
  repeat refine S.seq ?_
  refine S.region ?_
  simp (disch:=first|omega|(simp only [add_nx,upd_nx] <;> omega)|decide) only [rUz,↓reduceIte,Nat.reduceEqDiff,Nat.reduceAdd,hb1,part_0 pA (poV_len v)]
  refine wr_brings (fid:=28) (first:=#[]) (captured:=#[]) (Post:=fun u _=>u = .bool (readyB O)) rfl (hoff _ _ _ rfl) (by simp (disch:=first|omega|(simp only [add_nx,upd_nx] <;> omega)|decide) only [rUz,↓reduceIte,Nat.reduceEqDiff,Nat.reduceAdd]; exact ready_y S hoff H v O (hb.mono hk1)) ?_
  rintro u g hkg rfl
  replace hb1:=(hkg.get hn1).trans hb1
  replace hn1:=Nat.lt_of_lt_of_le hn1 hkg.1
  replace hk1:=hk1.trans hkg
  clear hkg
  clear H
  cases hre:readyB O with
  | false =>
    simp (disch:=first|omega|(simp only [add_nx,upd_nx] <;> omega)|decide) only [rUz,↓reduceIte,Nat.reduceEqDiff,Nat.reduceAdd,un_not,hre,Bool.not_false]
    repeat refine S.seq ?_
    refine S.cond (v:=true) (by first|rfl|(simp (disch:=first|omega|(simp only [add_nx,upd_nx] <;> omega)|decide) only [rUz,↓reduceIte,Nat.reduceEqDiff,Nat.reduceAdd] <;> rfl)) (fun _=>?_) (fun e=>by cases e)
    repeat refine S.seq ?_
    refine S.region ?_
    simp (disch:=first|omega|(simp only [add_nx,upd_nx] <;> omega)|decide) only [rUz,↓reduceIte,Nat.reduceEqDiff,Nat.reduceAdd]
    refine awake ?_
    simp (disch:=first|omega|(simp only [add_nx,upd_nx] <;> omega)|decide) only [rUz,↓reduceIte,Nat.reduceEqDiff,Nat.reduceAdd]
    refine S.ret ?_
    try simp only [seqK_ret,blockK_ret]
    subst hF
    simp only [finish,endMarks]
    rw [show Tryz.f6.results.toList = [.tmp 4] from rfl]
    simp (disch:=first|omega|(simp only [add_nx,upd_nx] <;> omega)|decide) only [resA,ev_tmp,tget_ne,tget_eq,get_ne,get_eq,upd_eq,upd_ne,ag_eq,ag_ne,result1]
    exact hKr _ hk1
  | true =>
  have hv:Val O:=by
    unfold readyB at hre
    rw [Bool.and_eq_true] at hre
    exact val_iff.1 (of_decide_eq_true hre.2)
  have h6:=hv.l6
  have h1O:=hv.l1
  simp (disch:=first|omega|(simp only [add_nx,upd_nx] <;> omega)|decide) only [rUz,↓reduceIte,Nat.reduceEqDiff,Nat.reduceAdd,un_not,hre,Bool.not_true]
  repeat refine S.seq ?_
  refine S.cond (v:=false) (by first|rfl|(simp (disch:=first|omega|(simp only [add_nx,upd_nx] <;> omega)|decide) only [rUz,↓reduceIte,Nat.reduceEqDiff,Nat.reduceAdd] <;> rfl)) (fun e=>by cases e) (fun _=>?_)
  repeat refine S.seq ?_
  refine S.skip ?_
  simp (disch:=first|omega|(simp only [add_nx,upd_nx] <;> omega)|decide) only [rUz,↓reduceIte,Nat.reduceEqDiff,Nat.reduceAdd]
  have hk0:Kp g (g.add []):=Kp.refl.add
  have hb1a:=(hk0.get hn1).trans hb1
  repeat refine S.seq ?_
  refine S.region ?_
  simp (disch:=first|omega|(simp only [add_nx,upd_nx] <;> omega)|decide) only [rUz,↓reduceIte,Nat.reduceEqDiff,Nat.reduceAdd,w_buildSlice]
  refine wr_lit0 slrO srO zrO rfl ?_
  simp (disch:=first|omega|(simp only [add_nx,upd_nx] <;> omega)|decide) only [rUz,↓reduceIte,Nat.reduceEqDiff,Nat.reduceAdd,hb1a,fieldAddr_ptr fA0 lrO,qrO,po0,w_append]
  refine wr_copyE (b:=g.nx) (v:=v) (cs:=O.map cOd) slrO urO (by simp (disch:=first|omega|(simp only [add_nx,upd_nx] <;> omega)|decide) only [rUz,↓reduceIte,Nat.reduceEqDiff,Nat.reduceAdd]) (by simp (disch:=first|omega|(simp only [add_nx,upd_nx] <;> omega)|decide) only [rUz,↓reduceIte,Nat.reduceEqDiff,Nat.reduceAdd]) srO (ag_eq rfl) (af_eq rfl) (Nat.lt_succ_self _) (SlAt.mono hb (hk1.trans hk0)) nrO (by rw [List.length_map]; show _ < 1000000; omega) ?_
  intro v3 h3 hc3
  have hk3:Kp g h3:=hc3.kp hk0 (Nat.le_refl _)
  obtain ⟨b,hv3,own⟩:=copied_own hc3 (lo:=g.nx) (Nat.le_refl _) (Nat.lt_succ_self _)
  rw [List.length_map] at hv3
  subst hv3
  simp (disch:=first|omega|(simp only [add_nx,upd_nx] <;> omega)|decide) only [rUz,↓reduceIte,Nat.reduceEqDiff,Nat.reduceAdd,rd_build,List.map_cons,List.map_nil,bA1c,wr_alloc zA]
  refine wr_storeN (B:=h3.nx) (c:=[nl]) (fam:=h3.nx) (k:=h3.nx) (l:=poV (.slice (some ⟨b,0,none⟩) O.length O.length)) (by simp (disch:=first|omega|(simp only [add_nx,upd_nx] <;> omega)|decide) only [rUz,↓reduceIte,Nat.reduceEqDiff,Nat.reduceAdd]) (by simp (disch:=first|omega|(simp only [add_nx,upd_nx] <;> omega)|decide) only [rUz,↓reduceIte,Nat.reduceEqDiff,Nat.reduceAdd]) sA (by omega) rfl (ag_eq rfl) (af_eq rfl) rfl ?_
  have hk4:Kp h3 ((h3.add [nl]).upd h3.nx (poV (.slice (some ⟨b,0,none⟩) O.length O.length)) h3.nx):=Kp.refl.add.upd (Nat.le_refl _)
  have hb5:((h3.add [nl]).upd h3.nx (poV (.slice (some ⟨b,0,none⟩) O.length O.length)) h3.nx).bl.get h3.nx = some (.cells (poV (.slice (some ⟨b,0,none⟩) O.length O.length)) h3.nx false):=upd_eq _ _ _
  have hn5:((h3.add [nl]).upd h3.nx (poV (.slice (some ⟨b,0,none⟩) O.length O.length)) h3.nx).nx = h3.nx + 1:=rfl
  simp (disch:=first|omega|(simp only [add_nx,upd_nx] <;> omega)|decide) only [rUz,↓reduceIte,Nat.reduceEqDiff,Nat.reduceAdd]
  generalize (h3.add [nl]).upd h3.nx (poV (.slice (some ⟨b,0,none⟩) O.length O.length)) h3.nx = h4 at hk4 hb5 hn5 ⊢
  replace own:=own.mono hk4
  have kp4:=(hk1.trans hk3).trans hk4
  have hlo:=hk1.1
  have hb14:=((hk3.trans hk4).get hn1).trans hb1
  have hn1b:B1 < g.nx:=hn1
  obtain ⟨lo,hlo'⟩:∃ z,z = g.nx:=⟨_,rfl⟩
  obtain ⟨B5,hB5⟩:∃ z,z = h3.nx:=⟨_,rfl⟩
  obtain ⟨lo2,hlo2⟩:∃ z,z = h4.nx:=⟨_,rfl⟩
  rw [← hlo',← hB5] at own
  rw [← hB5] at hb5 hn5 ⊢
  rw [← hlo'] at hlo hn1b
  have hh5:B5 < lo2:=by omega
  have hl24:lo2 ≤ h4.nx:=by omega
  clear hlo2 hB5 hlo' hc3 hk3 hk4 hb1a hk0 hb1 hn1 hk1 hn5 hre
  try clear h3
  obtain ⟨F,hF2⟩:∃ F,OwnC lo B5 h4 b F (O.map cOd).flatten:=⟨_,own⟩
  clear own
  try clear g
  repeat refine S.seq ?_
  refine S.region ?_
  simp (disch:=first|omega|(simp only [add_nx,upd_nx] <;> omega)|decide) only [rUz,↓reduceIte,Nat.reduceEqDiff,Nat.reduceAdd]
  repeat refine S.seq ?_
  refine S.block ?_
  refine S.loop (ι:=Nat) (ITu O wv h0 lo B5 lo2 b F B5 B1 v) (fun k=>O.length - k) ?_ 0 _ _ ?_
  rotate_left
  · refine ⟨kp4,by rw [trK_0]; exact hF2,hb5,hb14,hl24,?_,?_,?_,?_,Nat.zero_le _⟩
    all_goals (first|rfl|(simp (disch:=first|omega|(simp only [add_nx,upd_nx] <;> omega)|decide) only [rUz,↓reduceIte,Nat.reduceEqDiff,Nat.reduceAdd]; done)|(simp (disch:=first|omega|(simp only [add_nx,upd_nx] <;> omega)|decide) only [rUz,↓reduceIte,Nat.reduceEqDiff,Nat.reduceAdd]; rfl))
  clear kp4 hb5 hb14 hl24 hF2
  clear h4
  intro k t h ⟨kp,own,b5h,b1h,l2,t1,t2,t5,t6,hk⟩ K' hn he
  have hrl:=trK_len O k hk
  have hne:trK O k ≠ []:=fun e=>by rw [e] at hrl; simp at hrl; omega
  have hsl:=own_at own hne
  rw [hrl] at hsl
  have lX:∀ (t:T Value) (h1:AHeap) (o:Oper),rLen Tryz.prog t h1 o 22 (.slice (some ⟨b,0,none⟩) O.length O.length) = some (iv (O.length:Int)):=fun t h1 o=>by rw [row_len hsl isrO t h1 o,hrl]
  repeat refine S.seq ?_
  refine S.region ?_
  simp (disch:=first|omega|(simp only [add_nx,upd_nx] <;> omega)|decide) only [rUz,↓reduceIte,Nat.reduceEqDiff,Nat.reduceAdd,t5,t6,b5h,fieldAddr_ptr fA0 lrO,qrO,po0,lX]
  repeat refine S.seq ?_
  refine S.cond (v:=decide ((k:Int) < (O.length:Int))) (by first|rfl|(simp (disch:=first|omega|(simp only [add_nx,upd_nx] <;> omega)|decide) only [rUz,↓reduceIte,Nat.reduceEqDiff,Nat.reduceAdd] <;> rfl)) (fun e=>?_) (fun e=>?_)
  · have hkn:k < O.length:=by have:=of_decide_eq_true e; omega
    clear e
    have hps:O[k]? = some O[k]:=List.getElem?_eq_getElem hkn
    have hox:=hv.ok _ (List.getElem_mem hkn)
    have hx1:=hox.l1; have hx2:=hox.l2
    generalize O[k] = x at hps hox hx1 hx2
    have hxu:=trK_get hps
    have hpo:=hb.mono kp
    obtain ⟨rb,rf,ro,rc,r1,r2,r3,r4,r5,r6⟩:=row_idx hpo slrO srO hps
    have y0:=r6 0 _ (cOd0 x)
    have y1:=r6 1 _ (cOd1 x)
    rw [Nat.add_zero] at y0
    have ia:rIndexAddr Tryz.prog 22 (.slice (some ⟨b,0,none⟩) O.length O.length) (iv (k:Int)) = some (.pointer (some ⟨b,k * 5,none⟩)):=by rw [indexAddr_sl slrO srO hkn,Nat.zero_add]
    have hfl:∀ l:List Od,(l.map cOd).flatten.length = l.length * 5:=fun l=>by
      induction l with
      | nil=>rfl
      | cons a l ih=>rw [List.map_cons,List.flatten_cons,List.length_append,ih,List.length_cons,cOd_len]; omega
    obtain ⟨h5,hst,win,own5⟩:=own.store (off:=k * 5) (ls:=[.bool !x.b]) (by simp) (by rw [hfl,hrl]; show k * 5 + 1 ≤ _; omega)
    have own5':OwnC lo B5 h5 b F (((trK O k).set k ⟨!x.b,x.l,x.n,x.lo,x.hi⟩).map cOd).flatten:=by
      rw [← flat_setc (cv:=cOd) (n:=5) cOd_len (trK O k) k x ⟨!x.b,x.l,x.n,x.lo,x.hi⟩ 0 (.bool !x.b) hxu (by omega) rfl]
      exact own5
    have hxu2:((trK O k).set k ⟨!x.b,x.l,x.n,x.lo,x.hi⟩)[k]? = some ⟨!x.b,x.l,x.n,x.lo,x.hi⟩:=by rw [List.getElem?_set,if_pos rfl,if_pos (by omega)]
    obtain ⟨h6,hst6,win6,own6⟩:=own5'.store (off:=k * 5 + 1) (ls:=[iv (101 - x.l)]) (by simp) (by rw [hfl,List.length_set,hrl]; show k * 5 + 1 + 1 ≤ _; omega)
    have own6':OwnC lo B5 h6 b F ((trK O (k + 1)).map cOd).flatten:=by
      rw [← trK_succ hps,show (trK O k).set k (trO x) = ((trK O k).set k ⟨!x.b,x.l,x.n,x.lo,x.hi⟩).set k (trO x) from by rw [List.set_set],← flat_setc (cv:=cOd) (n:=5) cOd_len _ k ⟨!x.b,x.l,x.n,x.lo,x.hi⟩ (trO x) 1 (iv (101 - x.l)) hxu2 (by omega) rfl]
      exact own6
    have kp6:=win6.kp hlo (win.kp hlo kp)
    have b55:=(win.2 B5 (.inr (Nat.le_refl _))).1.trans b5h
    have b56:=(win6.2 B5 (.inr (Nat.le_refl _))).1.trans b55
    have b16:=(win6.2 B1 (.inl hn1b)).1.trans ((win.2 B1 (.inl hn1b)).1.trans b1h)
    have l26:lo2 ≤ h6.nx:=by rw [win6.1,win.1]; exact l2
    have hvX:=veq_slb b O.length
    repeat refine S.seq ?_
    refine S.skip ?_
    simp (disch:=first|omega|(simp only [add_nx,upd_nx] <;> omega)|decide) only [rUz,↓reduceIte,Nat.reduceEqDiff,Nat.reduceAdd]
    repeat refine S.seq ?_
    refine S.block ?_
    repeat refine S.seq ?_
    refine S.drawnL [(false,0),(false,1),(false,0),(false,0),(false,8),(false,0),(false,0),(false,64),(false,0),(false,448),(false,960),(false,1984),(false,4032),(false,0),(false,8192),(false,0),(false,57344),(false,122880),(false,253952),(false,516096),(false,524231),(false,1572807),(true,3669959),(false,8388607),(false,16777215),(true,33554431)] (by kernel_rfl) (by kernel_rfl) (by kernel_rfl) ?_
    simp (disch:=first|omega|(simp only [add_nx,upd_nx] <;> omega)|decide) only [rUz,↓reduceIte,Nat.reduceEqDiff,Nat.reduceAdd,rDz,infoL,Nat.reduceSub,t2,t5,t6,b5h,b1h,fieldAddr_ptr fA0 lrO,qrO,po0,r1,r3,fieldAddr_ptr frO0 sb,fieldAddr_ptr frO1 s3,pb,p3,y0,y1,un_not,ia]
    refine drW_giveN (aw_storeC1 (B:=b) (off:=k * 5) (v:=.bool !x.b) (by simp (disch:=first|omega|(simp only [add_nx,upd_nx] <;> omega)|decide) only [rUz,↓reduceIte,Nat.reduceEqDiff,Nat.reduceAdd,rDz,infoL,Nat.reduceSub]) (by simp (disch:=first|omega|(simp only [add_nx,upd_nx] <;> omega)|decide) only [rUz,↓reduceIte,Nat.reduceEqDiff,Nat.reduceAdd,rDz,infoL,Nat.reduceSub]) sb1 rfl rfl hst) ?_ ?_
    · try simp (disch:=first|decide|rfl) only [again_nil,again_skip,again_free]
      rw [again_same (v:=.slice (some ⟨b,0,none⟩) O.length O.length) (by simp (disch:=first|omega|(simp only [add_nx,upd_nx] <;> omega)|decide) only [rUz,↓reduceIte,Nat.reduceEqDiff,Nat.reduceAdd,rDz,infoL,Nat.reduceSub,b55,fieldAddr_ptr fA0 lrO,qrO,po0]) hvX]
      try simp (disch:=first|decide|rfl) only [again_nil,again_skip,again_free]
    simp (disch:=first|omega|(simp only [add_nx,upd_nx] <;> omega)|decide) only [rUz,↓reduceIte,Nat.reduceEqDiff,Nat.reduceAdd,rDz,infoL,Nat.reduceSub,ia,fieldAddr_ptr frO1 s3]
    refine drW_giveN (aw_storeC1 (B:=b) (off:=k * 5 + 1) (v:=iv (101 - x.l)) (by simp (disch:=first|omega|(simp only [add_nx,upd_nx] <;> omega)|decide) only [rUz,↓reduceIte,Nat.reduceEqDiff,Nat.reduceAdd,rDz,infoL,Nat.reduceSub]) (by simp (disch:=first|omega|(simp only [add_nx,upd_nx] <;> omega)|decide) only [rUz,↓reduceIte,Nat.reduceEqDiff,Nat.reduceAdd,rDz,infoL,Nat.reduceSub]) s3' rfl rfl hst6) ?_ ?_
    · try simp (disch:=first|decide|rfl) only [again_nil,again_skip,again_free]
    simp (disch:=first|omega|(simp only [add_nx,upd_nx] <;> omega)|decide) only [rUz,↓reduceIte,Nat.reduceEqDiff,Nat.reduceAdd,rDz,infoL,Nat.reduceSub]
    repeat refine S.seq ?_
    refine S.region ?_
    simp (disch:=first|omega|(simp only [add_nx,upd_nx] <;> omega)|decide) only [rUz,↓reduceIte,Nat.reduceEqDiff,Nat.reduceAdd,t6]
    refine hn (k + 1) _ _ (by omega) ⟨kp6,own6',b56,b16,l26,?_,?_,?_,?_,by omega⟩
    all_goals (first|rfl|(simp (disch:=first|omega|(simp only [add_nx,upd_nx] <;> omega)|decide) only [rUz,↓reduceIte,Nat.reduceEqDiff,Nat.reduceAdd,t1,t2,t5]; done)|(simp (disch:=first|omega|(simp only [add_nx,upd_nx] <;> omega)|decide) only [rUz,↓reduceIte,Nat.reduceEqDiff,Nat.reduceAdd,t1,t2,t5]; rfl))
  have hkn:k = O.length:=by have:=of_decide_eq_false e; omega
  subst hkn
  rw [trK_all] at own hrl hne hsl
  have hpoX:PoAt h (.slice (some ⟨b,0,none⟩) O.length O.length) (O.map trO):=hsl
  refine S.exit (he _ _ _ _ (fun e=>by cases e) ?_)
  have hn5:B5 < h.nx:=by omega
  have hn1:B1 < h.nx:=by have:=own.1; have:=own.2.1; omega
  clear hn he K' e own hne hsl t6 hlo hn1b lX
  have hvX:=val_tr hv
  simp (disch:=first|omega|(simp only [add_nx,upd_nx] <;> omega)|decide) only [rUz,↓reduceIte,Nat.reduceEqDiff,Nat.reduceAdd]
  repeat refine S.seq ?_
  refine S.region ?_
  simp (disch:=first|omega|(simp only [add_nx,upd_nx] <;> omega)|decide) only [rUz,↓reduceIte,Nat.reduceEqDiff,Nat.reduceAdd,t1,t2,b1h,part_0 pA (poV_len v)]
  refine wr_brings (fid:=29) (first:=#[]) (captured:=#[]) (Post:=fun u h=>∃ t0,IS h u t0 ∧ truthB O t0 = true) rfl (hoff _ _ _ rfl) (by simp (disch:=first|omega|(simp only [add_nx,upd_nx] <;> omega)|decide) only [rUz,↓reduceIte,Nat.reduceEqDiff,Nat.reduceAdd]; exact picked_y S hoff h v O (hb.mono kp) hv wv ws (hw.mono kp) hwl) ?_
  rintro tv g1 hkg1 ⟨ns,hit,htr⟩
  have hnl:ns.length = O.length:=(tru_of hv htr).len
  have htru:=tru_of hv htr
  have htX:=truth_tr htr
  have htruX:=tru_of hvX htX
  replace b1h:=(hkg1.get hn1).trans b1h
  replace hn1:=Nat.lt_of_lt_of_le hn1 hkg1.1
  replace b5h:=(hkg1.get hn5).trans b5h
  replace hn5:=Nat.lt_of_lt_of_le hn5 hkg1.1
  replace kp:=kp.trans hkg1
  replace hpoX:=hpoX.mono hkg1
  clear hkg1 l2 hh5
  clear h
  simp (disch:=first|omega|(simp only [add_nx,upd_nx] <;> omega)|decide) only [rUz,↓reduceIte,Nat.reduceEqDiff,Nat.reduceAdd]
  repeat refine S.seq ?_
  refine S.region ?_
  simp (disch:=first|omega|(simp only [add_nx,upd_nx] <;> omega)|decide) only [rUz,↓reduceIte,Nat.reduceEqDiff,Nat.reduceAdd,t2,b1h,part_0 pA (poV_len _)]
  refine wr_brings (fid:=13) (first:=#[]) (captured:=#[]) (Post:=fun u h=>∃ v',u = .agg ⟨poV v'⟩ ∧ PoAt h v' O) rfl (hoff _ _ _ rfl) (by simp (disch:=first|omega|(simp only [add_nx,upd_nx] <;> omega)|decide) only [rUz,↓reduceIte,Nat.reduceEqDiff,Nat.reduceAdd]; exact postC_y S hoff g1 _ O (hb.mono kp) (by omega)) ?_
  rintro u g2 hkg2 ⟨v2,rfl,hb2⟩
  simp (disch:=first|omega|(simp only [add_nx,upd_nx] <;> omega)|decide) only [rUz,↓reduceIte,Nat.reduceEqDiff,Nat.reduceAdd]
  refine wr_brings (fid:=31) (first:=#[]) (captured:=#[]) (Post:=fun u h=>IAt h u ns) rfl (hoff _ _ _ rfl) (by simp (disch:=first|omega|(simp only [add_nx,upd_nx] <;> omega)|decide) only [rUz,↓reduceIte,Nat.reduceEqDiff,Nat.reduceAdd]; exact list_y S g2 tv ns (hit.mono hkg2) (by omega)) ?_
  rintro tv2 g3 hkg3 ht2
  simp (disch:=first|omega|(simp only [add_nx,upd_nx] <;> omega)|decide) only [rUz,↓reduceIte,Nat.reduceEqDiff,Nat.reduceAdd]
  refine wr_brings (fid:=30) (first:=#[]) (captured:=#[]) (Post:=fun u h=>PlayAt O ns u h) rfl (hoff _ _ _ rfl) (by simp (disch:=first|omega|(simp only [add_nx,upd_nx] <;> omega)|decide) only [rUz,↓reduceIte,Nat.reduceEqDiff,Nat.reduceAdd]; exact play_y S hoff g3 v2 tv2 O ns (hb2.mono hkg3) ht2 (by omega)) ?_
  rintro u g4 hkg4 hpl
  have hkg24:=(hkg2.trans hkg3).trans hkg4
  have hfT:faultT O ns = 0:=by rw [faultT,decide_eq_true (val_iff.2 hv),htr]; rfl
  obtain ⟨w,rfl,hsw⟩:∃ w,u = .tuple ⟨[w,iv 0]⟩ ∧ SlAt g4 4 w ((playZ O ns).2.map cSa):=by
    rcases hpl with ⟨_,w,e,hs,_⟩|⟨hz,_⟩
    · exact ⟨w,e,hs⟩
    · exact absurd hfT hz
  clear hpl
  simp (disch:=first|omega|(simp only [add_nx,upd_nx] <;> omega)|decide) only [rUz,↓reduceIte,Nat.reduceEqDiff,Nat.reduceAdd,extract_tuple,tq0,tq1]
  replace b5h:=(hkg24.get hn5).trans b5h
  replace hn5:=Nat.lt_of_lt_of_le hn5 hkg24.1
  replace b1h:=(hkg24.get hn1).trans b1h
  replace hn1:=Nat.lt_of_lt_of_le hn1 hkg24.1
  replace kp:=kp.trans hkg24
  replace hpoX:=hpoX.mono hkg24
  replace hit:=hit.mono hkg24
  clear hkg2 hkg3 hkg4 hkg24 hb2 ht2 hfT
  clear g1 g2 g3
  repeat refine S.seq ?_
  refine S.region ?_
  simp (disch:=first|omega|(simp only [add_nx,upd_nx] <;> omega)|decide) only [rUz,↓reduceIte,Nat.reduceEqDiff,Nat.reduceAdd,t5,b5h,part_0 pA (poV_len _)]
  refine wr_brings (fid:=13) (first:=#[]) (captured:=#[]) (Post:=fun u h=>∃ v',u = .agg ⟨poV v'⟩ ∧ PoAt h v' (O.map trO)) rfl (hoff _ _ _ rfl) (by simp (disch:=first|omega|(simp only [add_nx,upd_nx] <;> omega)|decide) only [rUz,↓reduceIte,Nat.reduceEqDiff,Nat.reduceAdd]; exact postC_y S hoff g4 _ (O.map trO) hpoX (by rw [List.length_map]; omega)) ?_
  rintro u g2 hkg2 ⟨v2,rfl,hb2⟩
  simp (disch:=first|omega|(simp only [add_nx,upd_nx] <;> omega)|decide) only [rUz,↓reduceIte,Nat.reduceEqDiff,Nat.reduceAdd]
  refine wr_brings (fid:=31) (first:=#[]) (captured:=#[]) (Post:=fun u h=>IAt h u ns) rfl (hoff _ _ _ rfl) (by simp (disch:=first|omega|(simp only [add_nx,upd_nx] <;> omega)|decide) only [rUz,↓reduceIte,Nat.reduceEqDiff,Nat.reduceAdd]; exact list_y S g2 tv ns (hit.mono hkg2) (by omega)) ?_
  rintro tv2 g3 hkg3 ht2
  simp (disch:=first|omega|(simp only [add_nx,upd_nx] <;> omega)|decide) only [rUz,↓reduceIte,Nat.reduceEqDiff,Nat.reduceAdd]
  refine wr_brings (fid:=30) (first:=#[]) (captured:=#[]) (Post:=fun u h=>PlayAt (O.map trO) ns u h) rfl (hoff _ _ _ rfl) (by simp (disch:=first|omega|(simp only [add_nx,upd_nx] <;> omega)|decide) only [rUz,↓reduceIte,Nat.reduceEqDiff,Nat.reduceAdd]; exact play_y S hoff g3 v2 tv2 (O.map trO) ns (hb2.mono hkg3) ht2 (by rw [List.length_map]; omega)) ?_
  rintro u g8 hkg4 hpl
  have hkg24:=(hkg2.trans hkg3).trans hkg4
  have hfT:faultT (O.map trO) ns = 0:=by rw [faultT,decide_eq_true (val_iff.2 hvX),htX]; rfl
  obtain ⟨wx,rfl,hswx⟩:∃ w,u = .tuple ⟨[w,iv 0]⟩ ∧ SlAt g8 4 w ((playZ (O.map trO) ns).2.map cSa):=by
    rcases hpl with ⟨_,w,e,hs,_⟩|⟨hz,_⟩
    · exact ⟨w,e,hs⟩
    · exact absurd hfT hz
  clear hpl
  simp (disch:=first|omega|(simp only [add_nx,upd_nx] <;> omega)|decide) only [rUz,↓reduceIte,Nat.reduceEqDiff,Nat.reduceAdd,extract_tuple,tq0,tq1]
  replace b5h:=(hkg24.get hn5).trans b5h
  replace hn5:=Nat.lt_of_lt_of_le hn5 hkg24.1
  replace b1h:=(hkg24.get hn1).trans b1h
  replace hn1:=Nat.lt_of_lt_of_le hn1 hkg24.1
  replace kp:=kp.trans hkg24
  replace hpoX:=hpoX.mono hkg24
  replace hit:=hit.mono hkg24
  replace hsw:=SlAt.mono hsw hkg24
  clear hkg2 hkg3 hkg4 hkg24 hb2 ht2 hfT
  clear g4 g2 g3
  repeat refine S.seq ?_
  refine S.region ?_
  simp (disch:=first|omega|(simp only [add_nx,upd_nx] <;> omega)|decide) only [rUz,↓reduceIte,Nat.reduceEqDiff,Nat.reduceAdd,t2,b1h,part_0 pA (poV_len _)]
  refine wr_brings (fid:=13) (first:=#[]) (captured:=#[]) (Post:=fun u h=>∃ v',u = .agg ⟨poV v'⟩ ∧ PoAt h v' O) rfl (hoff _ _ _ rfl) (by simp (disch:=first|omega|(simp only [add_nx,upd_nx] <;> omega)|decide) only [rUz,↓reduceIte,Nat.reduceEqDiff,Nat.reduceAdd]; exact postC_y S hoff g8 _ O (hb.mono kp) (by omega)) ?_
  rintro u g2 hkg2 ⟨v2,rfl,hb2⟩
  simp (disch:=first|omega|(simp only [add_nx,upd_nx] <;> omega)|decide) only [rUz,↓reduceIte,Nat.reduceEqDiff,Nat.reduceAdd]
  refine wr_brings (fid:=12) (first:=#[]) (captured:=#[]) (Post:=FillsAt O) rfl (hoff _ _ _ rfl) (by simp (disch:=first|omega|(simp only [add_nx,upd_nx] <;> omega)|decide) only [rUz,↓reduceIte,Nat.reduceEqDiff,Nat.reduceAdd]; exact fills_y S hoff g2 v2 O hb2 (by omega)) ?_
  rintro u g9 hkg6 hf
  obtain ⟨fv,mv,rfl,hfv,-⟩:∃ f m,u = .tuple ⟨[f,m,iv 0]⟩ ∧ SlAt g9 2 f ((rowsQ qN O).map c2) ∧ SlAt g9 2 m ((rowsQ qM O).map c2):=by
    rcases hf with ⟨_,f,m,e,h1,h2⟩|⟨hz,_⟩
    · exact ⟨f,m,e,h1,h2⟩
    · exact absurd (val_iff.2 hv) hz
  clear hf
  have hkg24:=hkg2.trans hkg6
  simp (disch:=first|omega|(simp only [add_nx,upd_nx] <;> omega)|decide) only [rUz,↓reduceIte,Nat.reduceEqDiff,Nat.reduceAdd,extract_tuple,tr0,tr1,tr2']
  replace b5h:=(hkg24.get hn5).trans b5h
  replace hn5:=Nat.lt_of_lt_of_le hn5 hkg24.1
  replace b1h:=(hkg24.get hn1).trans b1h
  replace hn1:=Nat.lt_of_lt_of_le hn1 hkg24.1
  replace kp:=kp.trans hkg24
  replace hpoX:=hpoX.mono hkg24
  replace hit:=hit.mono hkg24
  replace hsw:=SlAt.mono hsw hkg24
  replace hswx:=SlAt.mono hswx hkg24
  clear hkg2 hkg6 hkg24 hb2
  clear g8 g2
  repeat refine S.seq ?_
  refine S.region ?_
  simp (disch:=first|omega|(simp only [add_nx,upd_nx] <;> omega)|decide) only [rUz,↓reduceIte,Nat.reduceEqDiff,Nat.reduceAdd,t5,b5h,part_0 pA (poV_len _)]
  refine wr_brings (fid:=13) (first:=#[]) (captured:=#[]) (Post:=fun u h=>∃ v',u = .agg ⟨poV v'⟩ ∧ PoAt h v' (O.map trO)) rfl (hoff _ _ _ rfl) (by simp (disch:=first|omega|(simp only [add_nx,upd_nx] <;> omega)|decide) only [rUz,↓reduceIte,Nat.reduceEqDiff,Nat.reduceAdd]; exact postC_y S hoff g9 _ (O.map trO) hpoX (by rw [List.length_map]; omega)) ?_
  rintro u g2 hkg2 ⟨v2,rfl,hb2⟩
  simp (disch:=first|omega|(simp only [add_nx,upd_nx] <;> omega)|decide) only [rUz,↓reduceIte,Nat.reduceEqDiff,Nat.reduceAdd]
  refine wr_brings (fid:=12) (first:=#[]) (captured:=#[]) (Post:=FillsAt (O.map trO)) rfl (hoff _ _ _ rfl) (by simp (disch:=first|omega|(simp only [add_nx,upd_nx] <;> omega)|decide) only [rUz,↓reduceIte,Nat.reduceEqDiff,Nat.reduceAdd]; exact fills_y S hoff g2 v2 (O.map trO) hb2 (by rw [List.length_map]; omega)) ?_
  rintro u g10 hkg6 hf
  obtain ⟨fx,mx,rfl,hfx,-⟩:∃ f m,u = .tuple ⟨[f,m,iv 0]⟩ ∧ SlAt g10 2 f ((rowsQ qN (O.map trO)).map c2) ∧ SlAt g10 2 m ((rowsQ qM (O.map trO)).map c2):=by
    rcases hf with ⟨_,f,m,e,h1,h2⟩|⟨hz,_⟩
    · exact ⟨f,m,e,h1,h2⟩
    · exact absurd (val_iff.2 hvX) hz
  clear hf
  have hkg24:=hkg2.trans hkg6
  simp (disch:=first|omega|(simp only [add_nx,upd_nx] <;> omega)|decide) only [rUz,↓reduceIte,Nat.reduceEqDiff,Nat.reduceAdd,extract_tuple,tr0,tr1,tr2']
  replace b5h:=(hkg24.get hn5).trans b5h
  replace hn5:=Nat.lt_of_lt_of_le hn5 hkg24.1
  replace b1h:=(hkg24.get hn1).trans b1h
  replace hn1:=Nat.lt_of_lt_of_le hn1 hkg24.1
  replace kp:=kp.trans hkg24
  replace hpoX:=hpoX.mono hkg24
  replace hit:=hit.mono hkg24
  replace hsw:=SlAt.mono hsw hkg24
  replace hswx:=SlAt.mono hswx hkg24
  replace hfv:=SlAt.mono hfv hkg24
  clear hkg2 hkg6 hkg24 hb2 b1h hn1 b5h hn5 hpoX hit
  clear g9 g2
  rw [play_tr hv htru] at hswx
  rw [rows_tr hv] at hfx
  have h6s:=sales_six hv htru
  have hso:=sales_saok hv htru
  clear htr htru htX htruX hvX hnl
  generalize (playZ O ns).2 = M at hsw hswx h6s hso
  generalize hrq:rowsQ qN O = RQ at hfv hfx
  have hrql:RQ.length = O.length:=by rw [← hrq,rowsQ_len]
  have ls:=fun t h1 o=>row_len hsw iscS t h1 o
  have lsx:=fun t h1 o=>row_len hswx iscS t h1 o
  rw [List.length_map] at lsx
  have lf:=fun t h1 o=>row_len hfv isRg t h1 o
  have lfx:=fun t h1 o=>row_len hfx isRg t h1 o
  rw [hrql] at lf lfx
  have h40:decide (40 < (M.length:Int)) = false:=decide_eq_false (by omega)
  repeat refine S.seq ?_
  refine S.region ?_
  simp (disch:=first|omega|(simp only [add_nx,upd_nx] <;> omega)|decide) only [rUz,↓reduceIte,Nat.reduceEqDiff,Nat.reduceAdd,hdd,decide_true,Bool.not_true,ls,lsx,lf,lfx,h40]
  repeat refine S.seq ?_
  refine S.cond (v:=false) (by first|rfl|(simp (disch:=first|omega|(simp only [add_nx,upd_nx] <;> omega)|decide) only [rUz,↓reduceIte,Nat.reduceEqDiff,Nat.reduceAdd] <;> rfl)) (fun e=>by cases e) (fun _=>?_)
  repeat refine S.seq ?_
  refine S.skip ?_
  simp (disch:=first|omega|(simp only [add_nx,upd_nx] <;> omega)|decide) only [rUz,↓reduceIte,Nat.reduceEqDiff,Nat.reduceAdd]
  repeat refine S.seq ?_
  refine S.region ?_
  simp (disch:=first|omega|(simp only [add_nx,upd_nx] <;> omega)|decide) only [rUz,↓reduceIte,Nat.reduceEqDiff,Nat.reduceAdd]
  repeat refine S.seq ?_
  refine S.block ?_
  refine S.loop (ι:=Nat) (ITv M.length g10 w wx fv fx) (fun k=>M.length - k) ?_ 0 _ _ ?_
  rotate_left
  · refine ⟨Kp.refl,?_,?_,?_,?_,?_,Nat.zero_le _⟩
    all_goals (first|rfl|(simp (disch:=first|omega|(simp only [add_nx,upd_nx] <;> omega)|decide) only [rUz,↓reduceIte,Nat.reduceEqDiff,Nat.reduceAdd]; done)|(simp (disch:=first|omega|(simp only [add_nx,upd_nx] <;> omega)|decide) only [rUz,↓reduceIte,Nat.reduceEqDiff,Nat.reduceAdd]; rfl))
  clear t1 t2 t5
  clear t
  intro k t h ⟨kpa,t8,t10,t12,t15,t18,hk⟩ K' hn he
  repeat refine S.seq ?_
  refine S.region ?_
  simp (disch:=first|omega|(simp only [add_nx,upd_nx] <;> omega)|decide) only [rUz,↓reduceIte,Nat.reduceEqDiff,Nat.reduceAdd,t8,t18,ls]
  repeat refine S.seq ?_
  refine S.cond (v:=decide ((k:Int) < (M.length:Int))) (by first|rfl|(simp (disch:=first|omega|(simp only [add_nx,upd_nx] <;> omega)|decide) only [rUz,↓reduceIte,Nat.reduceEqDiff,Nat.reduceAdd] <;> rfl)) (fun e=>?_) (fun e=>?_)
  · have hkn:k < M.length:=by have:=of_decide_eq_true e; omega
    clear e
    have hps:M[k]? = some M[k]:=List.getElem?_eq_getElem hkn
    have hsok:=hso _ (List.getElem_mem hkn)
    have p0:=hsok.p0; have p1:=hsok.p1
    generalize M[k] = s at hps hsok p0 p1
    have hpx:(M.map trS)[k]? = some (trS s):=by rw [List.getElem?_map,hps]; rfl
    obtain ⟨b1,f1,o1,e1,u1,u2,u3,u4,u5,u6⟩:=row_idx (SlAt.mono hsw kpa) slcS scS hps
    obtain ⟨b2,f2,o2,e2,w1,w2,w3,w4,w5,w6⟩:=row_idx (SlAt.mono hswx kpa) slcS scS hpx
    have c0:=u6 0 (iv s.bu) rfl
    have c1:=u6 1 (iv s.se) rfl
    have cc2:=u6 2 (iv s.nu) rfl
    have c3:=u6 3 (iv s.pr) rfl
    have d0:=w6 0 (iv s.se) rfl
    have d1:=w6 1 (iv s.bu) rfl
    have dd2:=w6 2 (iv s.nu) rfl
    have d3:=w6 3 (iv (101 - s.pr)) rfl
    rw [Nat.add_zero] at c0 d0
    have hpp:(101:Int) - (101 - s.pr) = s.pr:=by omega
    repeat refine S.seq ?_
    refine S.skip ?_
    simp (disch:=first|omega|(simp only [add_nx,upd_nx] <;> omega)|decide) only [rUz,↓reduceIte,Nat.reduceEqDiff,Nat.reduceAdd]
    repeat refine S.seq ?_
    refine S.block ?_
    repeat refine S.seq ?_
    refine S.drawnL [(false,0),(false,0),(false,3),(false,7),(false,15),(false,0),(false,0),(false,96),(false,224),(false,480),(false,1023),(false,2047),(false,4095),(false,4095),(false,16383),(false,32767),(false,65535),(false,4095),(false,4095),(false,397311),(false,921599),(false,1970175),(false,4194303),(false,8388607),(false,16777215),(false,33554431),(false,33554431),(false,134217727),(false,268435455),(false,536870911),(false,33554431),(false,33554431),(false,3254779903),(false,7549747199),(false,16139681791),(false,34359738367),(false,68719476735),(false,137438953471),(false,274877906943),(false,274877906943),(false,1099511627775),(false,2199023255551),(false,4398046511103),(false,274877906943),(false,274877906943),(false,26663156973567),(false,61847529062399),(false,132216273240063),(false,272953761595391),(false,562949953421311),(false,1125899906842623)] (by kernel_rfl) (by kernel_rfl) (by kernel_rfl) ?_
    simp (disch:=first|omega|(simp only [add_nx,upd_nx] <;> omega)|decide) only [rUz,↓reduceIte,Nat.reduceEqDiff,Nat.reduceAdd,rDz,infoL,Nat.reduceSub,t8,t10,t18,u1,u3,w1,w3,fieldAddr_ptr fcS0 s3,fieldAddr_ptr fcS1 s3,fieldAddr_ptr fcS2 s3,fieldAddr_ptr fcS3 s3,p3,c0,c1,cc2,c3,d0,d1,dd2,d3,hdd,decide_true,Bool.not_true,hpp]
    repeat refine S.seq ?_
    refine S.cond (v:=false) (by first|rfl|(simp (disch:=first|omega|(simp only [add_nx,upd_nx] <;> omega)|decide) only [rUz,↓reduceIte,Nat.reduceEqDiff,Nat.reduceAdd] <;> rfl)) (fun e=>by cases e) (fun _=>?_)
    repeat refine S.seq ?_
    refine S.skip ?_
    simp (disch:=first|omega|(simp only [add_nx,upd_nx] <;> omega)|decide) only [rUz,↓reduceIte,Nat.reduceEqDiff,Nat.reduceAdd]
    repeat refine S.seq ?_
    refine S.region ?_
    simp (disch:=first|omega|(simp only [add_nx,upd_nx] <;> omega)|decide) only [rUz,↓reduceIte,Nat.reduceEqDiff,Nat.reduceAdd,t18]
    refine hn (k + 1) _ _ (by omega) ⟨kpa,?_,?_,?_,?_,?_,by omega⟩
    all_goals (first|rfl|(simp (disch:=first|omega|(simp only [add_nx,upd_nx] <;> omega)|decide) only [rUz,↓reduceIte,Nat.reduceEqDiff,Nat.reduceAdd,t8,t10,t12,t15]; done)|(simp (disch:=first|omega|(simp only [add_nx,upd_nx] <;> omega)|decide) only [rUz,↓reduceIte,Nat.reduceEqDiff,Nat.reduceAdd,t8,t10,t12,t15]; rfl))
  refine S.exit (he _ _ _ _ (fun e=>by cases e) ?_)
  clear hn he K' e t18 hk
  simp (disch:=first|omega|(simp only [add_nx,upd_nx] <;> omega)|decide) only [rUz,↓reduceIte,Nat.reduceEqDiff,Nat.reduceAdd]
  repeat refine S.seq ?_
  refine S.region ?_
  simp (disch:=first|omega|(simp only [add_nx,upd_nx] <;> omega)|decide) only [rUz,↓reduceIte,Nat.reduceEqDiff,Nat.reduceAdd]
  repeat refine S.seq ?_
  refine S.block ?_
  refine S.loop (ι:=Nat) (ITw O.length g10 fv fx) (fun k=>O.length - k) ?_ 0 _ _ ?_
  rotate_left
  · refine ⟨kpa,?_,?_,?_,Nat.zero_le _⟩
    all_goals (first|rfl|(simp (disch:=first|omega|(simp only [add_nx,upd_nx] <;> omega)|decide) only [rUz,↓reduceIte,Nat.reduceEqDiff,Nat.reduceAdd,t12,t15]; done)|(simp (disch:=first|omega|(simp only [add_nx,upd_nx] <;> omega)|decide) only [rUz,↓reduceIte,Nat.reduceEqDiff,Nat.reduceAdd,t12,t15]; rfl))
  clear t8 t10 t12 t15 kpa
  clear t h k
  intro k t h ⟨kpa,t12,t15,t19,hk⟩ K' hn he
  repeat refine S.seq ?_
  refine S.region ?_
  simp (disch:=first|omega|(simp only [add_nx,upd_nx] <;> omega)|decide) only [rUz,↓reduceIte,Nat.reduceEqDiff,Nat.reduceAdd,t12,t19,lf]
  repeat refine S.seq ?_
  refine S.cond (v:=decide ((k:Int) < (O.length:Int))) (by first|rfl|(simp (disch:=first|omega|(simp only [add_nx,upd_nx] <;> omega)|decide) only [rUz,↓reduceIte,Nat.reduceEqDiff,Nat.reduceAdd] <;> rfl)) (fun e=>?_) (fun e=>?_)
  · have hkn:k < O.length:=by have:=of_decide_eq_true e; omega
    clear e
    have hps:RQ[k]? = some (RQ[k]'(by omega)):=List.getElem?_eq_getElem (by omega)
    generalize RQ[k]'(by omega) = r at hps
    obtain ⟨b1,f1,o1,e1,u1,u2,u3,u4,u5,u6⟩:=row_idx (SlAt.mono hfv kpa) slRg scR hps
    obtain ⟨b2,f2,o2,e2,w1,w2,w3,w4,w5,w6⟩:=row_idx (SlAt.mono hfx kpa) slRg scR hps
    have up:=part_at pcR u4 u5
    have wp:=part_at pcR w4 w5
    repeat refine S.seq ?_
    refine S.skip ?_
    simp (disch:=first|omega|(simp only [add_nx,upd_nx] <;> omega)|decide) only [rUz,↓reduceIte,Nat.reduceEqDiff,Nat.reduceAdd]
    repeat refine S.seq ?_
    refine S.block ?_
    repeat refine S.seq ?_
    refine S.drawnL [(false,0),(false,0),(false,3),(false,7),(false,0),(false,0),(false,48),(false,112),(false,255)] (by kernel_rfl) (by kernel_rfl) (by kernel_rfl) ?_
    simp (disch:=first|omega|(simp only [add_nx,upd_nx] <;> omega)|decide) only [rUz,↓reduceIte,Nat.reduceEqDiff,Nat.reduceAdd,rDz,infoL,Nat.reduceSub,t12,t15,t19,u1,u3,up,w1,w3,wp]
    refine drR_of' (bin_neInts kRg gRg rfl (eqInts_R _ _) (plain_R _) (plain_R _) (by simp (disch:=first|omega|(simp only [add_nx,upd_nx] <;> omega)|decide) only [rUz,↓reduceIte,Nat.reduceEqDiff,Nat.reduceAdd,rDz,infoL,Nat.reduceSub]) (by simp (disch:=first|omega|(simp only [add_nx,upd_nx] <;> omega)|decide) only [rUz,↓reduceIte,Nat.reduceEqDiff,Nat.reduceAdd,rDz,infoL,Nat.reduceSub])) ?_
    simp (disch:=first|omega|(simp only [add_nx,upd_nx] <;> omega)|decide) only [rUz,↓reduceIte,Nat.reduceEqDiff,Nat.reduceAdd,rDz,infoL,Nat.reduceSub,eqR_self,Bool.not_true]
    repeat refine S.seq ?_
    refine S.cond (v:=false) (by first|rfl|(simp (disch:=first|omega|(simp only [add_nx,upd_nx] <;> omega)|decide) only [rUz,↓reduceIte,Nat.reduceEqDiff,Nat.reduceAdd] <;> rfl)) (fun e=>by cases e) (fun _=>?_)
    repeat refine S.seq ?_
    refine S.skip ?_
    simp (disch:=first|omega|(simp only [add_nx,upd_nx] <;> omega)|decide) only [rUz,↓reduceIte,Nat.reduceEqDiff,Nat.reduceAdd]
    repeat refine S.seq ?_
    refine S.region ?_
    simp (disch:=first|omega|(simp only [add_nx,upd_nx] <;> omega)|decide) only [rUz,↓reduceIte,Nat.reduceEqDiff,Nat.reduceAdd,t19]
    refine hn (k + 1) _ _ (by omega) ⟨kpa,?_,?_,?_,by omega⟩
    all_goals (first|rfl|(simp (disch:=first|omega|(simp only [add_nx,upd_nx] <;> omega)|decide) only [rUz,↓reduceIte,Nat.reduceEqDiff,Nat.reduceAdd,t12,t15]; done)|(simp (disch:=first|omega|(simp only [add_nx,upd_nx] <;> omega)|decide) only [rUz,↓reduceIte,Nat.reduceEqDiff,Nat.reduceAdd,t12,t15]; rfl))
  refine S.exit (he _ _ _ _ (fun e=>by cases e) ?_)
  simp (disch:=first|omega|(simp only [add_nx,upd_nx] <;> omega)|decide) only [rUz,↓reduceIte,Nat.reduceEqDiff,Nat.reduceAdd]
  repeat refine S.seq ?_
  refine S.region ?_
  simp (disch:=first|omega|(simp only [add_nx,upd_nx] <;> omega)|decide) only [rUz,↓reduceIte,Nat.reduceEqDiff,Nat.reduceAdd]
  refine awake ?_
  simp (disch:=first|omega|(simp only [add_nx,upd_nx] <;> omega)|decide) only [rUz,↓reduceIte,Nat.reduceEqDiff,Nat.reduceAdd]
  refine S.ret ?_
  try simp only [seqK_ret,blockK_ret]
  subst hF
  simp only [finish,endMarks]
  rw [show Tryz.f6.results.toList = [.tmp 4] from rfl]
  simp (disch:=first|omega|(simp only [add_nx,upd_nx] <;> omega)|decide) only [resA,ev_tmp,tget_ne,tget_eq,get_ne,get_eq,upd_eq,upd_ne,ag_eq,ag_ne,result1]
  exact hKr _ (kp.trans kpa)
end Go.Proofs.Po
