import Derived.Test.YtefjnhpghgahbaaGreatCr2
import Derived.Test.YtefjnhpghgahbaaGreatCn8
/- Words; what is kept of a company that is being made. -/
namespace Go.Ev
open Go.RowKit
def min2 (x y:Int):Int:=if y < x then y else x
theorem min2_le (x y:Int):min2 x y ≤ x ∧ min2 x y ≤ y ∧ (min2 x y = x ∨ min2 x y = y):=by unfold min2; split <;> omega
theorem max2_ge (x y:Int):x ≤ max2 x y ∧ y ≤ max2 x y ∧ (max2 x y = x ∨ max2 x y = y):=by unfold max2; split <;> omega
def SlX (r p q:Nat) (h:AHeap) (n:Nat) (v:Value) (cs:List (List Value)):Prop:=
 (cs = [] ∧ v = .slice none 0 0) ∨ ∃ b cap f ro,cs ≠ [] ∧ v = .slice (some ⟨b,0,none⟩) cs.length cap ∧ b < h.nx ∧ (r < b ∧ b ≠ p ∧ b ≠ q) ∧ h.bl.get b = some (.cells cs.flatten f ro) ∧ ∀ c,c ∈ cs → c.length = n
section
variable {r p q n lo F:Nat} {h h':AHeap} {v:Value} {cs:List (List Value)}
theorem SlX.at (k:SlX r p q h n v cs):SlAt h n v cs:=by
 rcases k with ⟨k1,k2⟩|⟨b,cap,f,ro,k1,k2,k3,_,k6,k7⟩
 ·exact .inl ⟨k1,.inl k2⟩
 ·exact .inr ⟨b,cap,f,ro,k1,k2,k3,k6,k7⟩
theorem SlX.kp (k:SlX r p q h n v cs) (a:Kp h h'):SlX r p q h' n v cs:=by
 rcases k with k|⟨b,cap,f,ro,k1,k2,k3,k4,k6,k7⟩
 ·exact .inl k
 ·exact .inr ⟨b,cap,f,ro,k1,k2,Nat.lt_of_lt_of_le k3 a.1,k4,(a.get k3).trans k6,k7⟩
theorem SlX.upd (k:SlX r p q h n v cs) {B f':Nat} {c:List Value} (hB:B ≤ r ∨ B = p ∨ B = q):SlX r p q (h.upd B c f') n v cs:=by
 rcases k with k|⟨b,cap,f,ro,k1,k2,k3,k4,k6,k7⟩
 ·exact .inl k
 ·refine .inr ⟨b,cap,f,ro,k1,k2,k3,k4,?_,k7⟩
  rw [upd_ne _ _ _ (by omega)]
  exact k6
theorem SlX.fr (k:SlX r p p h n v cs) (a:Fr h p h'):SlX r p p h' n v cs:=by
 rcases k with k|⟨b,cap,f,ro,k1,k2,k3,k4,k6,k7⟩
 ·exact .inl k
 ·exact .inr ⟨b,cap,f,ro,k1,k2,Nat.lt_of_lt_of_le k3 a.le,k4,(a.bl b k3 k4.2.1).trans k6,k7⟩
theorem SlX.two (k:SlX r p p h n v cs) {q':Nat} (hq:h.nx ≤ q'):SlX r p q' h n v cs:=by
 rcases k with k|⟨b,cap,f,ro,k1,k2,k3,k4,k6,k7⟩
 ·exact .inl k
 ·exact .inr ⟨b,cap,f,ro,k1,k2,k3,⟨k4.1,k4.2.1,by omega⟩,k6,k7⟩
theorem App.slX (k:App lo h n v cs F) (hr:r < lo) (hp:p < lo) (hq:q < lo):SlX r p q h n v cs:=by
 rcases k with k|⟨b,l,k1,k2,k3,k4,k5,k6,_⟩
 ·exact .inl k
 ·exact .inr ⟨b,_,F,false,k1,k2,k4,by omega,k5,k6⟩
theorem SlX.veq (k:SlX r p q h n v cs):Ev.veq v v = true:=by
 rcases k with ⟨_,rfl⟩|⟨b,cap,f,ro,_,rfl,_⟩
 ·simp only [Ev.veq]
 ·simp only [Ev.veq,Nat.beq_refl,Bool.and_self]
theorem RNew.slX (k:RNew lo h n v cs) (hr:r < lo) (hp:p < lo) (hq:q < lo):SlX r p q h n v cs:=by
 obtain ⟨k1,k2,b,c,f,k3,k4,k5,k6⟩:=k
 exact .inr ⟨b,c,f,false,k1,k3,k5,by omega,k6,k2⟩
end
end Go.Ev
namespace Go.Proofs.Cp
open Go Go.Ev
set_option linter.unusedSimpArgs false

abbrev u16v (n:Int):Value:=.int .u16 n
def WdAt (h:AHeap) (v:Value) (l:List Int):Prop:=SlAt h 1 v (l.map fun n=>[u16v n]) ∧ ∀ n,n ∈ l → 0 ≤ n ∧ n ≤ 65535
theorem WdAt.mono {h h':AHeap} {v:Value} {l:List Int} (k:WdAt h v l) (a:Kp h h'):WdAt h' v l:=⟨SlAt.mono k.1 a,k.2⟩
theorem isW16:isSlTy Tryz.prog 23 = true:=by kernel_rfl
theorem slW16:slOf Tryz.prog 23 = some 115:=by kernel_rfl
theorem s16:sizeB Tryz.prog 115 = some 1:=by kernel_rfl
theorem p16 (c:List Value) (o:Nat):partL Tryz.prog 115 c o = c[o]?:=by kernel_rfl
theorem w_cv16 {x:Operand}:isW Tryz.prog (.convert 115 3 x) = false:=by
 show isDig Tryz.prog 115 3 = false
 kernel_rfl
theorem w_cv8 {x:Operand}:isW Tryz.prog (.convert 5 3 x) = false:=by
 show isDig Tryz.prog 5 3 = false
 kernel_rfl
theorem spOrd_snoc:∀ (l:List T3) (last:Int) (d:T3),spOrd last l = true → (∀ s,s ∈ l → s.1 < d.1) → last < d.1 → d.1 ≤ 11 → 1 ≤ d.2.1 ∧ d.2.1 ≤ 6 → 1 ≤ d.2.2 ∧ d.2.2 ≤ 4 → spOrd last (l ++ [d]) = true
 | [],last,d,_,_,h1,h2,h3,h4=>by
  show ((inB d.1 (last + 1) 11 && (inB d.2.1 1 6 && inB d.2.2 1 4)) && true) = true
  rw [inB_iff.2 ⟨by omega,h2⟩,inB_iff.2 h3,inB_iff.2 h4]; rfl
 | s :: l,last,d,h,h0,h1,h2,h3,h4=>by
  rw [spOrd,Bool.and_eq_true] at h
  rw [List.cons_append,spOrd,h.1,spOrd_snoc l s.1 d h.2 (fun x hx=>h0 x (by simp [hx])) (h0 s (by simp)) h2 h3 h4]; rfl

variable {pr:Prim} {R:ExT}
set_option maxHeartbeats 4000000 in
theorem word_y (S:Ev.Steps Tryz.prog pr R) (h0:AHeap) (wv:Value) (ws:List Int) (hw:WdAt h0 wv ws) (hsz:(ws.length:Int) < 9223372036854775808) (i:Int) (hi:0 ≤ i ∧ i ≤ 1000) :
  Brings Tryz.prog R 30 [wv,iv i] h0 fun u h=>(∃ n,u = iv n ∧ 0 ≤ n ∧ n ≤ 65535) ∧ h0 = h:=by
 refine brings_of (fn:=Tryz.f30) (c:=(Tryz.f30.body).getD .skip) (by kernel_rfl) rfl (by kernel_rfl) rfl (fun K hK=>?_)
 generalize hF:finish Tryz.prog Tryz.f30 K = KF
 simp only [Tryz.f30,Option.getD_some,argsT,setArgs,fV1_eq,T.setK_eq,id]
 have hln:=fun t h1 o=>(by have:=SlAt.len (P:=Tryz.prog) hw.1 isW16 (t:=t) h1 o; rwa [List.length_map] at this:rLen Tryz.prog t h1 o 23 wv = some (iv (ws.length:Int)))
 repeat refine S.seq ?_
 refine S.region ?_
 simp (disch:=first|omega|decide) only [rUz]
 by_cases h0l:(ws.length:Int) = 0
 ·repeat refine S.seq ?_
  refine S.region ?_
  simp (disch:=first|omega|decide) only [rUz,hln,decide_eq_true h0l]
  repeat refine S.seq ?_
  refine S.cond (v:=true) rfl (fun _=>?_) (fun e=>by cases e)
  repeat refine S.seq ?_
  refine S.region ?_
  simp (disch:=first|omega|decide) only [rUz]
  refine S.ret ?_
  try simp only [seqK_ret,blockK_ret]
  subst hF
  simp only [finish,endMarks]
  rw [show Tryz.f30.results.toList = [.tmp 4] from rfl]
  simp (disch:=first|omega|decide) only [resA,ev_tmp,tget_ne,tget_eq,get_ne,get_eq,upd_eq,upd_ne,ag_eq,ag_ne,result1]
  exact hK _ _ Kp.refl ⟨⟨0,rfl,by omega,by omega⟩,rfl⟩
 ·repeat refine S.seq ?_
  refine S.region ?_
  simp (disch:=first|omega|decide) only [rUz,hln,decide_eq_false h0l]
  repeat refine S.seq ?_
  refine S.cond (v:=false) rfl (fun e=>by cases e) (fun _=>?_)
  repeat refine S.seq ?_
  refine S.skip ?_
  simp (disch:=first|omega|decide) only [rUz]
  have hpos:0 < (ws.length:Int):=by omega
  obtain ⟨k,hk⟩:∃ k:Nat,(k:Int) = i.tmod (ws.length:Int):=⟨(i.tmod (ws.length:Int)).toNat,by have:=Int.tmod_nonneg (ws.length:Int) hi.1; omega⟩
  have hkl:k < ws.length:=by have:=Int.tmod_lt_of_pos i hpos; omega
  obtain ⟨b,f,ro,q1,q2,q3⟩:=SlAt.idx (P:=Tryz.prog) hw.1 slW16 s16 (i:=k) (by rw [List.length_map]; exact hkl)
  have hm:(ws.map fun n=>[u16v n])[k]? = some [u16v ws[k]]:=by rw [List.getElem?_map,List.getElem?_eq_getElem hkl]; rfl
  have q4:=flat_get (SlAt.sized hw.1) (j:=0) hm (x:=u16v ws[k]) rfl
  have hb:=hw.2 ws[k] (List.getElem_mem hkl)
  generalize ws[k] = n at q4 hb
  rw [Nat.mul_one] at q1
  rw [Nat.mul_one,Nat.add_zero] at q4
  repeat refine S.seq ?_
  refine S.region ?_
  simp (disch:=first|omega|decide) only [rUz,hln]
  refine optR_of' (bin_rem (i:=i) (j:=(ws.length:Int)) (by simp (disch:=first|omega|decide) only [rUz]) (by simp (disch:=first|omega|decide) only [rUz]) (by omega)) ?_
  rw [← hk]
  simp (disch:=first|omega|decide) only [rUz,q1,q3,p16,q4,w_cv16,rd_conv]
  refine optR_of' (v:=iv n) (conv_int Tryz.underlying115 Tryz.underlying3 (by omega) (by omega)) ?_
  simp (disch:=first|omega|decide) only [rUz]
  refine S.ret ?_
  try simp only [seqK_ret,blockK_ret]
  subst hF
  simp only [finish,endMarks]
  rw [show Tryz.f30.results.toList = [.tmp 4] from rfl]
  simp (disch:=first|omega|decide) only [resA,ev_tmp,tget_ne,tget_eq,get_ne,get_eq,upd_eq,upd_ne,ag_eq,ag_ne,result1]
  exact hK _ _ Kp.refl ⟨⟨n,rfl,hb.1,hb.2⟩,rfl⟩
theorem listC_y (S:Ev.Steps Tryz.prog pr R) (h0:AHeap) (v:Value) (l:List Int) (hv:SlAt h0 1 v (l.map fun n=>[iv n])) (hl:l.length ≤ 1000) :
  Brings Tryz.prog R 29 [v] h0 fun u h=>AppC h0.nx h 1 u (l.map fun n=>[iv n]) h0.nx:=by
 refine brings_of (fn:=Tryz.f29) (c:=(Tryz.f29.body).getD .skip) (by kernel_rfl) rfl (by kernel_rfl) rfl (fun K hK=>?_)
 generalize hF:finish Tryz.prog Tryz.f29 K = KF
 simp only [Tryz.f29,Option.getD_some,argsT,setArgs,fV1_eq,T.setK_eq,id]
 repeat refine S.seq ?_
 refine S.region ?_
 simp (disch:=first|omega|decide) only [rUz]
 repeat refine S.seq ?_
 refine S.region ?_
 simp (disch:=first|omega|decide) only [rUz,w_append,w_buildSlice]
 refine wr_lit0 slI s3' z3 rfl ?_
 simp (disch:=first|omega|decide) only [rUz,w_append]
 refine wr_copyE (b:=h0.nx) (v:=v) slI uI (by simp (disch:=first|omega|decide) only [rUz]) (by simp (disch:=first|omega|decide) only [rUz]) s3' (ag_eq rfl) (af_eq rfl) (Nat.lt_succ_self _) (SlAt.mono hv Kp.refl.add) nI (by rw [List.length_map]; show _ < 1000000; omega) ?_
 intro v' h' hc
 have hle:=hc.le
 have hn:(h0.add []).nx = h0.nx + 1:=rfl
 have hkp:Kp h0 h':=⟨by omega,fun k hk=>by
  rw [hc.bl k (by omega) (by omega),hc.fam k (by omega) (by omega),ag_ne (by omega),af_ne (by omega)]
  exact ⟨rfl,rfl⟩⟩
 simp (disch:=first|omega|decide) only [rUz]
 refine S.ret ?_
 try simp only [seqK_ret,blockK_ret]
 subst hF
 simp only [finish,endMarks]
 rw [show Tryz.f29.results.toList = [.tmp 2] from rfl]
 simp (disch:=first|omega|decide) only [resA,ev_tmp,tget_ne,tget_eq,get_ne,get_eq,upd_eq,upd_ne,ag_eq,ag_ne,result1]
 exact hK _ _ hkp (hc.appC (Nat.le_refl _) (Nat.lt_succ_self _) fun c hcm=>by obtain ⟨n,_,rfl⟩:=List.mem_map.1 hcm; rfl)
end Go.Proofs.Cp
