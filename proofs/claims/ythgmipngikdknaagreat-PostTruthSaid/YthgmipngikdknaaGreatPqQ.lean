import Derived.Test.YthgmipngikdknaaGreatPsB
import Derived.Test.YthgmipngikdknaaGreatPtA
/- Some of the sales; a truth explains them. -/
namespace Go.Ev
open Nat (reduceEqDiff reduceAdd reduceSub)
open Go.RowKit
section
variable {P:Program} {t:T Value} {h:AHeap} {dst:Option Tmp} {ty a b:TypeId} {pos:String} {af:Array Edge} {g:Option (Nat × Bool)} {x y:Operand} {i j:Int}
theorem bin_rem8 (hx:ev P t x = .int .u8 i) (hy:ev P t y = .int .u8 j) (hj:j ≠ 0) :
  nJ P t ⟨dst,.binOp .rem a x y b,ty,pos,af,g⟩ .rem a (.int .u8 j) (.int .u8 i) = some (.int .u8 (i.tmod j)):=by
 show ground P t _ = _
 have e1:evL P t (Op.operands (.binOp .rem a x y b)).toList = [.int .u8 i,.int .u8 j]:=by simp only [Op.operands,evL,hx,hy]
 have e6:pureOf P (execOp (ev P t) ⟨dst,.binOp .rem a x y b,ty,pos,af,g⟩) = some (.value (.int .u8 (i.tmod j))):=by
  simp [execOp,hx,hy,binOp,Op.intDiv,hj,eqGuard,pureOf,bind,Sem.bind,pure]
 unfold ground
 rw [e1,e6]
 rfl
theorem bin_shr8 {m s:Nat} (hx:ev P t x = .int .u8 (m:Int)) (hy:ev P t y = .int .u64 (s:Int)) :
  nJ P t ⟨dst,.binOp .shr a x y b,ty,pos,af,g⟩ .shr a (.int .u64 (s:Int)) (.int .u8 (m:Int)) = some (.int .u8 ((m:Int).fdiv (2 ^ (min s IntKind.u8.bits)))):=by
 show ground P t _ = _
 have e1:evL P t (Op.operands (.binOp .shr a x y b)).toList = [.int .u8 (m:Int),.int .u64 (s:Int)]:=by simp only [Op.operands,evL,hx,hy]
 have hs:¬ (s:Int) < 0:=by omega
 have e6:pureOf P (execOp (ev P t) ⟨dst,.binOp .shr a x y b,ty,pos,af,g⟩) = some (.value (.int .u8 ((m:Int).fdiv (2 ^ (min s IntKind.u8.bits))))):=by
  simp [execOp,hx,hy,binOp,Op.shift,hs,eqGuard,pureOf,bind,Sem.bind,pure]
 unfold ground
 rw [e1,e6]
 rfl
end
end Go.Ev
namespace Go.Proofs.Po
open Nat (reduceEqDiff reduceAdd reduceSub)
open Go Go.Ev Go.RowKit
set_option linter.unusedSimpArgs false
variable {pr:Prim} {R:ExT}
theorem wf_u8 {n:Int} (h:(Lit.int .u8 n).wf = true):0 ≤ n ∧ n ≤ 255:=by
 simp only [Lit.wf,Bool.and_eq_true,decide_eq_true_eq] at h; exact h
theorem cnS_sub (s:Sa) {L M:List Sa} (h:L.Sublist M):cnS s L ≤ cnS s M:=by
 induction h with
 | slnil=>exact Int.le_refl _
 | cons a _ ih =>
  rename_i l1 l2 _
  show cnS s l1 ≤ (bif gB s a then (1:Int) else 0) + cnS s l2
  cases gB s a with
  | true=>rw [cond_true]; omega
  | false=>rw [cond_false]; omega
 | cons_cons a _ ih =>
  rename_i l1 l2 _
  show (bif gB s a then (1:Int) else 0) + cnS s l1 ≤ (bif gB s a then (1:Int) else 0) + cnS s l2
  omega
theorem w_cvu3 {x:Operand}:isW Tryz.prog (.convert 3 78 x) = false:=w_cvu
theorem conv_u8 (n:Nat) (hn:n ≤ 7) (t:T Value) (h1:AHeap) (o:Oper):rConv Tryz.prog t h1 o 3 78 (iv (n:Int)) = some (.int .u64 (n:Int)):=by
 rcases (by omega:n = 0 ∨ n = 1 ∨ n = 2 ∨ n = 3 ∨ n = 4 ∨ n = 5 ∨ n = 6 ∨ n = 7) with rfl|rfl|rfl|rfl|rfl|rfl|rfl|rfl
 all_goals kernel_rfl
structure ISo (l:List Sa) (H:AHeap) (sv:Value) (n:Int) (k:Nat) (t:T Value) (h:AHeap):Prop where
 kp:Kp H h
 ex:∃ (u:Value) (F:Nat) (cs:List Sa),App H.nx h 4 u (cs.map cSa) F ∧ cs.Sublist (l.take k) ∧ cs.length ≤ 6 ∧ tget t 5 = u
 t0:tget t 0 = sv
 t1:tget t 1 = u8v n
 t6:tget t 6 = iv (k:Int)
 hk:k ≤ l.length
set_option maxHeartbeats 16000000 in
theorem some_y (S:Ev.Steps Tryz.prog pr R) (h0:AHeap) (sv:Value) (l:List Sa) (hs:SlAt h0 4 sv (l.map cSa)) (hl:l.length ≤ 1000) (n:Int) (hn8:0 ≤ n ∧ n ≤ 255) :
  bD Tryz.prog R 34 [sv,u8v n] h0 fun u h=>∃ L:List Sa,SlAt h 4 u (L.map cSa) ∧ L.Sublist l ∧ L.length ≤ 6:=by
 refine aW (fn:=Tryz.f34) (c:=(Tryz.f34.body).getD .skip) (by kernel_rfl) rfl (by kernel_rfl) rfl (fun K hK=>?_)
 generalize hF:finish Tryz.prog Tryz.f34 K = KF
 simp only [Tryz.f34,Option.getD_some,bI,aZ,bC,T.setK_eq,id]
 repeat refine S.seq ?_
 refine S.region ?_
 simp (disch:=first|omega|simp only [aA,aB]<;>omega|decide) only [rUz,↓reduceIte,reduceEqDiff,reduceAdd]
 repeat refine S.seq ?_
 refine S.region ?_
 simp (disch:=first|omega|simp only [aA,aB]<;>omega|decide) only [rUz,↓reduceIte,reduceEqDiff,reduceAdd]
 repeat refine S.seq ?_
 refine S.region ?_
 simp (disch:=first|omega|simp only [aA,aB]<;>omega|decide) only [rUz,↓reduceIte,reduceEqDiff,reduceAdd]
 repeat refine S.seq ?_
 refine S.block ?_
 refine S.loop (ι:=Nat) (ISo l h0 sv n) (fun k=>l.length - k) ?_ 0 _ _ ?_
 rotate_left
 ·refine ⟨Kp.refl,⟨nl,0,[],.inl ⟨rfl,rfl⟩,List.nil_sublist _,by simp,?_⟩,?_,?_,?_,Nat.zero_le _⟩
  all_goals (first|rfl|(simp (disch:=first|omega|simp only [aA,aB]<;>omega|decide) only [rUz,↓reduceIte,reduceEqDiff,reduceAdd]<;>rfl))
 intro k t h ⟨kp,⟨u,F,cs,app,sub,hc6,t5⟩,t0,t1,t6,hk⟩ K' hn he
 have lS:=fun t h1 o=>dI (SlAt.mono hs kp) isrS t h1 o
 have lC:=fun t h1 o=>dI app.at isrS t h1 o
 have out:∀ t',tget t' 5 = u → K' (.exit 0) t' h [] = true:=fun t' t5'=>by
  refine he _ _ _ _ (fun e=>by cases e) ?_
  simp (disch:=first|omega|simp only [aA,aB]<;>omega|decide) only [rUz,↓reduceIte,reduceEqDiff,reduceAdd]
  repeat refine S.seq ?_
  refine S.region ?_
  simp (disch:=first|omega|simp only [aA,aB]<;>omega|decide) only [rUz,↓reduceIte,reduceEqDiff,reduceAdd,t5']
  refine S.ret ?_
  try simp only [aI,aF]
  subst hF
  simp only [finish,aJ]
  rw [show Tryz.f34.results.toList = [.tmp 4] from rfl]
  simp (disch:=first|omega|simp only [aA,aB]<;>omega|decide) only [bH,aY,aQ,aS,aT,aU,aO,upd_ne,aP,aX,result1]
  exact hK _ _ kp ⟨cs,app.at,sub.trans (List.take_sublist _ _),hc6⟩
 cases h1:decide ((k:Int) < (l.length:Int)) with
 | false =>
  repeat refine S.seq ?_
  refine S.region ?_
  simp (disch:=first|omega|simp only [aA,aB]<;>omega|decide) only [rUz,↓reduceIte,reduceEqDiff,reduceAdd,t0,t6,lS,h1]
  repeat refine S.seq ?_
  refine S.cond (v:=false) (by first|rfl|(simp (disch:=first|omega|simp only [aA,aB]<;>omega|decide) only [rUz,↓reduceIte,reduceEqDiff,reduceAdd]<;>rfl)) (fun e=>by cases e) (fun _=>?_)
  refine S.exit (out _ ?_)
  simp (disch:=first|omega|simp only [aA,aB]<;>omega|decide) only [rUz,↓reduceIte,reduceEqDiff,reduceAdd,t5]
 | true =>
 have hkn:k < l.length:=by have:=of_decide_eq_true h1; omega
 cases h2:decide ((cs.length:Int) < 6) with
 | false =>
  repeat refine S.seq ?_
  refine S.region ?_
  simp (disch:=first|omega|simp only [aA,aB]<;>omega|decide) only [rUz,↓reduceIte,reduceEqDiff,reduceAdd,t0,t5,t6,lS,lC,h1,h2]
  repeat refine S.seq ?_
  refine S.cond (v:=false) (by first|rfl|(simp (disch:=first|omega|simp only [aA,aB]<;>omega|decide) only [rUz,↓reduceIte,reduceEqDiff,reduceAdd]<;>rfl)) (fun e=>by cases e) (fun _=>?_)
  refine S.exit (out _ ?_)
  simp (disch:=first|omega|simp only [aA,aB]<;>omega|decide) only [rUz,↓reduceIte,reduceEqDiff,reduceAdd,t5]
 | true =>
 have hc5:cs.length < 6:=by have:=of_decide_eq_true h2; omega
 have hps:l[k]? = some l[k]:=List.getElem?_eq_getElem hkn
 have hrows:l.take (k + 1) = l.take k ++ [l[k]]:=nX hkn
 generalize l[k] = x at hps hrows
 obtain ⟨b,f,ro,cells,q1,q2,q3,q4,q5,q6⟩:=dH (SlAt.mono hs kp) slrS srS hps
 have qp:=fF prS q4 q5
 obtain ⟨s,hs8⟩:∃ s:Nat,(k:Int).tmod 8 = (s:Int):=⟨((k:Int).tmod 8).toNat,by have:=Int.tmod_nonneg (8:Int) (by omega:(0:Int) ≤ (k:Int)); omega⟩
 have hs7:s ≤ 7:=by have:=Int.tmod_lt_of_pos (k:Int) (by omega:(0:Int) < 8); omega
 obtain ⟨m,hm⟩:∃ m:Nat,n = (m:Int):=⟨n.toNat,by omega⟩
 subst hm
 have hcu:=conv_u8 s hs7
 repeat refine S.seq ?_
 refine S.region ?_
 simp (disch:=first|omega|simp only [aA,aB]<;>omega|decide) only [rUz,↓reduceIte,reduceEqDiff,reduceAdd,t0,t5,t6,lS,lC,h1,h2]
 repeat refine S.seq ?_
 refine S.cond (v:=true) (by first|rfl|(simp (disch:=first|omega|simp only [aA,aB]<;>omega|decide) only [rUz,↓reduceIte,reduceEqDiff,reduceAdd]<;>rfl)) (fun _=>?_) (fun e=>by cases e)
 repeat refine S.seq ?_
 refine S.skip ?_
 simp (disch:=first|omega|simp only [aA,aB]<;>omega|decide) only [rUz,↓reduceIte,reduceEqDiff,reduceAdd]
 repeat refine S.seq ?_
 refine S.block ?_
 repeat refine S.seq ?_
 refine S.region ?_
 simp (disch:=first|omega|simp only [aA,aB]<;>omega|decide) only [rUz,↓reduceIte,reduceEqDiff,reduceAdd,t1,t6]
 refine dF (bin_rem (i:=(k:Int)) (j:=8) (by simp (disch:=first|omega|simp only [aA,aB]<;>omega|decide) only [rUz,↓reduceIte,reduceEqDiff,reduceAdd,t6]) (by simp (disch:=first|omega|simp only [aA,aB]<;>omega|decide) only [rUz,↓reduceIte,reduceEqDiff,reduceAdd]) (by omega)) ?_
 rw [hs8]
 simp (disch:=first|omega|simp only [aA,aB]<;>omega|decide) only [rUz,↓reduceIte,reduceEqDiff,reduceAdd,w_cvu3,rd_conv,hcu]
 refine dF (bin_shr8 (m:=m) (s:=s) (by simp (disch:=first|omega|simp only [aA,aB]<;>omega|decide) only [rUz,↓reduceIte,reduceEqDiff,reduceAdd,t1]) (by simp (disch:=first|omega|simp only [aA,aB]<;>omega|decide) only [rUz,↓reduceIte,reduceEqDiff,reduceAdd])) ?_
 generalize (m:Int).fdiv (2 ^ (min s IntKind.u8.bits)) = y
 simp (disch:=first|omega|simp only [aA,aB]<;>omega|decide) only [rUz,↓reduceIte,reduceEqDiff,reduceAdd]
 refine dF (bin_rem8 (i:=y) (j:=2) (by simp (disch:=first|omega|simp only [aA,aB]<;>omega|decide) only [rUz,↓reduceIte,reduceEqDiff,reduceAdd]) (by simp (disch:=first|omega|simp only [aA,aB]<;>omega|decide) only [rUz,↓reduceIte,reduceEqDiff,reduceAdd]) (by omega)) ?_
 simp (disch:=first|omega|simp only [aA,aB]<;>omega|decide) only [rUz,↓reduceIte,reduceEqDiff,reduceAdd]
 cases h3:decide (y.tmod 2 = 1) with
 | false =>
  repeat refine S.seq ?_
  refine S.cond (v:=false) (by first|rfl|(simp (disch:=first|omega|simp only [aA,aB]<;>omega|decide) only [rUz,↓reduceIte,reduceEqDiff,reduceAdd,h3]<;>rfl)) (fun e=>by cases e) (fun _=>?_)
  repeat refine S.seq ?_
  refine S.skip ?_
  simp (disch:=first|omega|simp only [aA,aB]<;>omega|decide) only [rUz,↓reduceIte,reduceEqDiff,reduceAdd]
  repeat refine S.seq ?_
  refine S.region ?_
  simp (disch:=first|omega|simp only [aA,aB]<;>omega|decide) only [rUz,↓reduceIte,reduceEqDiff,reduceAdd,t6]
  refine hn (k + 1) _ _ (by omega) ⟨kp,⟨u,F,cs,app,by rw [hrows]; exact sub.trans (List.sublist_append_left _ _),hc6,?_⟩,?_,?_,?_,by omega⟩
  all_goals (first|rfl|(simp (disch:=first|omega|simp only [aA,aB]<;>omega|decide) only [rUz,↓reduceIte,reduceEqDiff,reduceAdd,t0,t1,t5]<;>rfl))
 | true =>
  repeat refine S.seq ?_
  refine S.cond (v:=true) (by first|rfl|(simp (disch:=first|omega|simp only [aA,aB]<;>omega|decide) only [rUz,↓reduceIte,reduceEqDiff,reduceAdd,h3]<;>rfl)) (fun _=>?_) (fun e=>by cases e)
  repeat refine S.seq ?_
  refine S.region ?_
  simp (disch:=first|omega|simp only [aA,aB]<;>omega|decide) only [rUz,↓reduceIte,reduceEqDiff,reduceAdd,t0,t5,t6,q1,q3,qp,fH]
  refine qX slrS srS zrS rfl (by omega) (u:=.agg ⟨cSa x⟩) (l:=cSa x) (by simp (disch:=first|omega|simp only [aA,aB]<;>omega|decide) only [rUz,↓reduceIte,reduceEqDiff,reduceAdd]) rfl rfl ?_
  simp (disch:=first|omega|simp only [aA,aB]<;>omega|decide) only [rUz,↓reduceIte,reduceEqDiff,reduceAdd,jU]
  refine uT (v:=u) (bx:=h.nx) (cx:=1) (c:=cSa x) (sz:=4) (cs:=cs.map cSa) (lo:=h0.nx) (F:=F) slrS urS ?_ ?_ (app.mono (Kp.refl.add (c:=cSa x))) (by have:=kp.1; show h0.nx ≤ h.nx + 1; omega) srS rfl (by omega) (aP rfl) nrS ?_ ?_
  ·simp (disch:=first|omega|simp only [aA,aB]<;>omega|decide) only [rUz,↓reduceIte,reduceEqDiff,reduceAdd,t5]
  ·simp (disch:=first|omega|simp only [aA,aB]<;>omega|decide) only [rUz,↓reduceIte,reduceEqDiff,reduceAdd]
  ·rw [List.length_map]; show _ < 1000000; omega
  intro v7 h3 F3 gapp gsm _ _ _
  have kp3:Kp h0 h3:=gsm.kp (Nat.le_refl _) (kp.trans (Kp.refl.add (c:=cSa x)))
  simp (disch:=first|omega|simp only [aA,aB]<;>omega|decide) only [rUz,↓reduceIte,reduceEqDiff,reduceAdd]
  repeat refine S.seq ?_
  refine S.region ?_
  simp (disch:=first|omega|simp only [aA,aB]<;>omega|decide) only [rUz,↓reduceIte,reduceEqDiff,reduceAdd,t6]
  refine hn (k + 1) _ _ (by omega) ⟨kp3,⟨v7,F3,cs ++ [x],by rw [show (cs ++ [x]).map cSa = cs.map cSa ++ [cSa x] from List.map_append]; exact gapp,by rw [hrows]; exact List.Sublist.append sub (List.Sublist.refl _),by rw [List.length_append]; show cs.length + 1 ≤ 6; omega,?_⟩,?_,?_,?_,by omega⟩
  all_goals (first|rfl|(simp (disch:=first|omega|simp only [aA,aB]<;>omega|decide) only [rUz,↓reduceIte,reduceEqDiff,reduceAdd,t0,t1]<;>rfl))
/-! ## A truth that plays so explains them -/
theorem exp_some {O:List Od} (hv:Val O) {t0:List Int} (h0:fJ O t0 = true) {L:List Sa} (hs:L.Sublist (dG O t0).2):∃ t,t ∈ allZ O ∧ expZ O L t = true:=by
 obtain ⟨t,ht,hp⟩:=(mV hv).2 _ h0
 refine ⟨t,ht,?_⟩
 unfold expZ
 rw [hp,List.all_eq_true]
 exact fun s _=>decide_eq_true (cnS_sub s hs)
theorem can_some {O:List Od} {L:List Sa} (h:∃ t,t ∈ allZ O ∧ expZ O L t = true):canZ O L = true:=List.any_eq_true.2 h
theorem find_some {O:List Od} {L:List Sa} (h:∃ t,t ∈ allZ O ∧ expZ O L t = true):∃ t,(allZ O).find? (expZ O L) = some t ∧ t ∈ allZ O ∧ expZ O L t = true:=by
 obtain ⟨t,ht,he⟩:=h
 cases hf:(allZ O).find? (expZ O L) with
 | none=>exact absurd he (List.find?_eq_none.1 hf t ht)
 | some x=>exact ⟨x,rfl,List.mem_of_find?_eq_some hf,List.find?_some hf⟩
theorem look_0 {O:List Od} (hv:Val O) {L:List Sa} (hL:L.length ≤ 6):gV O L = 0:=by
 unfold gV
 rw [decide_eq_true (kW.2 hv),cond_true,decide_eq_true (by omega:(L.length:Int) ≤ 6),cond_true]
theorem prove_exp {O:List Od} (hv:Val O) {L:List Sa} (hL:L.length ≤ 6) {t:List Int} (ht:fJ O t = true) (he:expZ O L t = true):proveZ O t L = true:=by
 unfold proveZ
 rw [decide_eq_true (look_0 hv hL),ht]
 exact he
theorem lvO_nil (L:List Sa):lvO L [] = L:=othG_none _ _ fun _ _=>rfl
theorem leave_nil {O:List Od} {L:List Sa} (h:canZ O L = true) (n:Nat):(smZ n n).find? (lvQ O L) = some []:=by
 unfold smZ
 refine smF_at ?_
 show List.find? (lvQ O L) [[]] = _
 rw [List.find?_cons,show lvQ O L [] = true from by unfold lvQ; rw [lvO_nil]; exact h]
/-! ## Bounds -/
theorem fmin_le:∀ (l:List Int) (a:Int),l.foldl min2 a ≤ a ∧ ∀ x,x ∈ l → l.foldl min2 a ≤ x
 | [],a=>⟨Int.le_refl _,fun _ h=>by cases h⟩
 | y :: l,a=>by
  obtain ⟨i1,i2⟩:=fmin_le l (min2 a y)
  have h1:min2 a y ≤ a ∧ min2 a y ≤ y:=by unfold min2; split<;>omega
  rw [List.foldl_cons]
  refine ⟨by omega,fun x hx=>?_⟩
  rcases List.mem_cons.1 hx with rfl|hx
  ·omega
  ·exact i2 x hx
theorem fmax_ge:∀ (l:List Int) (a:Int),a ≤ l.foldl max2 a ∧ ∀ x,x ∈ l → x ≤ l.foldl max2 a
 | [],a=>⟨Int.le_refl _,fun _ h=>by cases h⟩
 | y :: l,a=>by
  obtain ⟨i1,i2⟩:=fmax_ge l (max2 a y)
  have h1:a ≤ max2 a y ∧ y ≤ max2 a y:=by unfold max2; split<;>omega
  rw [List.foldl_cons]
  refine ⟨by omega,fun x hx=>?_⟩
  rcases List.mem_cons.1 hx with rfl|hx
  ·omega
  ·exact i2 x hx
theorem minL_le {l:List Int} {x:Int} (h:x ∈ l):minL l ≤ x:=by
 cases l with
 | nil=>cases h
 | cons a l =>
  have:=fmin_le l a
  show l.foldl min2 a ≤ x
  rcases List.mem_cons.1 h with rfl|h
  ·exact this.1
  ·exact this.2 x h
theorem maxL_ge {l:List Int} {x:Int} (h:x ∈ l):x ≤ maxL l:=by
 cases l with
 | nil=>cases h
 | cons a l =>
  have:=fmax_ge l a
  show x ≤ l.foldl max2 a
  rcases List.mem_cons.1 h with rfl|h
  ·exact this.1
  ·exact this.2 x h
theorem bd_in {O:List Od} (hv:Val O) (q:Sa → Int) (j:Nat) {t0:List Int} (h0:fJ O t0 = true):(bdQ q O j).1 ≤ fqZ q (j:Int) (dG O t0).2 ∧ fqZ q (j:Int) (dG O t0).2 ≤ (bdQ q O j).2:=by
 obtain ⟨t,ht,hp⟩:=(mV hv).2 _ h0
 have hm:fqZ q (j:Int) (dG O t0).2 ∈ tX q O j (allZ O).length:=by
  unfold tX
  rw [List.take_of_length_le (Nat.le_refl _)]
  exact List.mem_map.2 ⟨t,ht,by rw [hp]⟩
 exact ⟨minL_le hm,maxL_ge hm⟩
end Go.Proofs.Po
