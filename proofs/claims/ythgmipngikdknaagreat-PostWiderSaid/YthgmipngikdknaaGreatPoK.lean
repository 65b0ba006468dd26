import Derived.Test.YthgmipngikdknaaGreatPoJ
/- An order comes. -/
namespace Go.Proofs.Po
open Nat (reduceEqDiff reduceAdd reduceSub)
open Go Go.Ev Go.RowKit
set_option linter.unusedSimpArgs false
variable {pr:Prim} {R:ExT}
set_option maxRecDepth 100000 in
theorem eqlN {t:T Value} {x y:Operand} {b:TypeId} {dst:Option Tmp} {ty:TypeId} {pos:String} {af:Array Edge} {g:Option (Nat × Bool)} (l:List Int) (hl:l.length = 6) (z:List Int) (hz:z.length = 6)
  (hx:ev Tryz.prog t x = .agg ⟨l.map iv⟩) (hy:ev Tryz.prog t y = .agg ⟨z.map iv⟩):ground Tryz.prog t ⟨dst,.binOp .eql 112 x y b,ty,pos,af,g⟩ = some (.bool (l == z)):=by
 unfold ground
 have e1:evL Tryz.prog t (Op.operands (.binOp .eql 112 x y b)).toList = [.agg ⟨l.map iv⟩,.agg ⟨z.map iv⟩]:=by simp only [Op.operands,evL,hx,hy]
 have e2:plainL [.agg ⟨l.map iv⟩,.agg ⟨z.map iv⟩] = true:=by simp only [plainL,plain_ints]; rfl
 have e3:=xJ (P:=Tryz.prog) 9998 (t:=112) (e:=3) (n:=6) (by kernel_rfl) (by kernel_rfl) (by kernel_rfl) (by kernel_rfl) l z hl hz
 have e4:pureOf Tryz.prog (eqGuard .eql 112 x y (.agg ⟨l.map iv⟩) (.agg ⟨z.map iv⟩)) = some ():=by kernel_rfl
 have e5:binOp .eql 112 (.agg ⟨l.map iv⟩) (.agg ⟨z.map iv⟩) = (Op.equalIn 10000 112 (.agg ⟨l.map iv⟩) (.agg ⟨z.map iv⟩) >>= fun r=>pure (.bool r)):=rfl
 have e6:pureOf Tryz.prog (execOp (ev Tryz.prog t) ⟨dst,.binOp .eql 112 x y b,ty,pos,af,g⟩) = some (.value (.bool (l == z))):=by
  simp only [execOp,hx,hy,bind_assoc]
  rw [iH _ _ _ e4,e5]
  simp only [bind_assoc]
  rw [iH _ _ _ e3]
  rfl
 rw [e1,e2,cond_true,e6]
 rfl
set_option maxRecDepth 100000 in
theorem eqlN2 {t:T Value} {o:Oper} (z l:List Value):nV Tryz.prog t o .eql 112 (.agg ⟨z⟩) (.agg ⟨l⟩) = ground Tryz.prog t o:=by
 have h:qH Tryz.prog 112 (.agg ⟨l⟩) (.agg ⟨z⟩) = none:=by kernel_rfl
 show rBin2 Tryz.prog t o .eql (qH Tryz.prog 112 (.agg ⟨l⟩) (.agg ⟨z⟩)) = _
 rw [h]; rfl
theorem come_next {O:List Od} {came:List Nat} {a f:Nat} {st:ST}:iO O came a (f + 1) st = (match fZ O st.1 a came none with|none=>st|some _=>iO O came a f (jI O a came st)):=by
 show (match fZ O st.1 a came none with|none=>st|some r=>iO O came a f (jO O st.1 a r,st.2 ++ [iM O st.1 a r])) = _
 unfold jI
 cases fZ O st.1 a came none<;>rfl
theorem come_end {O:List Od} {came:List Nat} {a:Nat} {st:ST} (h:fZ O st.1 a came none = none) (f:Nat):iO O came a f st = st:=come_none h f
structure ICo (H:AHeap) (O:List Od) (a:Nat) (came:List Nat) (Bc:Nat) (v:Value) (st0:ST) (f:Nat) (t:T Value) (h:AHeap):Prop where
 ex:∃ st:ST,(lg st.1 a).toNat ≤ f ∧ iO O came a f st = iO O came a 20 st0 ∧ st.2.length + f ≤ st0.2.length + 20 ∧ CrAt H Bc v came st.1 st.2 h
 t0:tget t 0 = bG Bc
 t1:tget t 1 = iv (a:Int)
theorem nextS_len {O:List Od} {a:Nat} {came:List Nat} {st:ST}:(jI O a came st).2.length ≤ st.2.length + 1:=by
 unfold jI
 cases fZ O st.1 a came none with
 | none=>simp
 | some r=>simp
set_option maxHeartbeats 32000000 in
theorem come_y (S:Ev.Steps Tryz.prog pr R) (hoff:Off pr) (H h0:AHeap) (Bc:Nat) (v:Value) (O:List Od) (came:List Nat) (lf:List Int) (sl:List Sa) (a:Nat) (hc:CrAt H Bc v came lf sl h0) (hp:PoF H Bc v O) (h6:O.length ≤ 6) (ha:a < O.length) (hcm:∀ r,r ∈ came → r < O.length) (hl6:came.length ≤ 6) (hsl:sl.length ≤ 900) :
  gJ Tryz.prog R 76 [bG Bc,iv (a:Int)] h0 fun _ h=>CrAt H Bc v (came ++ [a]) (iO O came a 20 (lf,sl)).1 (iO O came a 20 (lf,sl)).2 h ∧ (iO O came a 20 (lf,sl)).2.length ≤ sl.length + 20:=by
 refine gW (fn:=Tryz.f76) (c:=(Tryz.f76.body).getD .skip) (by kernel_rfl) rfl (by kernel_rfl) rfl (fun K hK=>?_)
 generalize hF:finish Tryz.prog Tryz.f76 K = KF
 simp only [Tryz.f76,Option.getD_some,bJ,aX,aZ,T.setK_eq,id]
 have hBH:=hc.hB
 have hfam:=hc.fam
 repeat refine S.seq ?_
 refine S.block ?_
 refine S.loop (ι:=Nat) (ICo H O a came Bc v (lf,sl)) (fun f=>f) ?_ 20 _ _ ?_
 rotate_left
 ·refine ⟨⟨(lf,sl),?_,rfl,by simp,hc⟩,?_,?_⟩
  ·have:=hc.ok.b a
   show (lg lf a).toNat ≤ 20
   omega
  all_goals (first|rfl|(simp (disch:=first|omega|simp only [aA,aB]<;>omega|decide) only [rUz,↓reduceIte,reduceEqDiff,reduceAdd]<;>rfl))
 intro f t h ⟨⟨st,hf,hcz,hln,hst⟩,t0,t1⟩ K' hn he
 obtain ⟨cv,sv,F1,F2,hbc,htwo⟩:=hst.ex
 have hln':st.2.length + f ≤ sl.length + 20:=hln
 have h6l:=hst.ok.len
 have hlt:=hst.lt
 have hm6:(st.1.map iv).length = 6:=by rw [List.length_map]; exact h6l
 repeat refine S.seq ?_
 refine S.block ?_
 repeat refine S.seq ?_
 refine S.region ?_
 simp (disch:=first|omega|simp only [aA,aB]<;>omega|decide) only [rUz,↓reduceIte,reduceEqDiff,reduceAdd,t0,hbc,aC fC2 SN,crN h6l,cO zN]
 refine dF (B:=h.nx) (c:=[iv 0,iv 0,iv 0,iv 0,iv 0,iv 0]) (fam:=h.nx) (k:=h.nx) (l:=st.1.map iv) (by simp (disch:=first|omega|simp only [aA,aB]<;>omega|decide) only [rUz,↓reduceIte,reduceEqDiff,reduceAdd]) (by simp (disch:=first|omega|simp only [aA,aB]<;>omega|decide) only [rUz,↓reduceIte,reduceEqDiff,reduceAdd]) sN (by omega) hm6 (aP rfl) (dL rfl) rfl ?_
 have hk4:Kp h ((h.add [iv 0,iv 0,iv 0,iv 0,iv 0,iv 0]).upd h.nx (st.1.map iv) h.nx):=Kp.refl.add.upd (Nat.le_refl _)
 have hg4:((h.add [iv 0,iv 0,iv 0,iv 0,iv 0,iv 0]).upd h.nx (st.1.map iv) h.nx).bl.get h.nx = some (.cells (st.1.map iv) h.nx false):=aO _ _ _
 have hn4:h.nx < ((h.add [iv 0,iv 0,iv 0,iv 0,iv 0,iv 0]).upd h.nx (st.1.map iv) h.nx).nx:=Nat.lt_succ_self _
 simp (disch:=first|omega|simp only [aA,aB]<;>omega|decide) only [rUz,↓reduceIte,reduceEqDiff,reduceAdd]
 generalize (h.add [iv 0,iv 0,iv 0,iv 0,iv 0,iv 0]).upd h.nx (st.1.map iv) h.nx = g at hk4 hg4 hn4 ⊢
 obtain ⟨B4,hB4⟩:∃ x,x = h.nx:=⟨_,rfl⟩
 rw [← hB4] at hg4 hn4 ⊢
 have hcg:=hst.mono hk4
 repeat refine S.seq ?_
 refine S.region ?_
 simp (disch:=first|omega|simp only [aA,aB]<;>omega|decide) only [rUz,↓reduceIte,reduceEqDiff,reduceAdd,t0,t1]
 refine iT (fid:=97) (first:=#[]) (captured:=#[]) (Post:=fun _ h=>CrAt H Bc v came (jI O a came (st.1,st.2)).1 (jI O a came (st.1,st.2)).2 h ∧ h.bl.get B4 = some (.cells (st.1.map iv) B4 false)) rfl (hoff _ _ _ rfl) (by simp (disch:=first|omega|simp only [aA,aB]<;>omega|decide) only [rUz,↓reduceIte,reduceEqDiff,reduceAdd]; exact meet_y S hoff H g Bc v O came st.1 st.2 a hcg hp h6 ha hcm hl6 (by omega) B4 (st.1.map iv) hg4 hn4 (by omega) ⟨cv,sv,F1,F2,(hk4.get hlt).trans hbc,htwo.mono hk4,fun hne=>by have:=htwo.fy hne; omega⟩) ?_
 rintro u g2 ⟨hc2,hg2⟩
 have hst2:((st.1,st.2):ST) = st:=rfl
 rw [hst2] at hc2
 have hl2:=hc2.ok.len
 obtain ⟨cv2,sv2,F12,F22,hbc2,_⟩:=hc2.ex
 have hpN:dD Tryz.prog 112 (st.1.map iv) 0 = some (.agg ⟨st.1.map iv⟩):=bT pN hm6
 simp (disch:=first|omega|simp only [aA,aB]<;>omega|decide) only [rUz,↓reduceIte,reduceEqDiff,reduceAdd]
 have hsame:fZ O st.1 a came none = none → ((jI O a came st).1 == st.1) = true:=fun e=>by
  have:jI O a came st = st:=by unfold jI; rw [e]
  rw [this]; simp
 have hdiff:∀ r,fZ O st.1 a came none = some r → ((jI O a came st).1 == st.1) = false ∧ lg (jI O a came st).1 a < lg st.1 a:=fun r e=>by
  have hn':jI O a came st = (jO O st.1 a r,st.2 ++ [iM O st.1 a r]):=by unfold jI; rw [e]
  have hr:r ∈ came ∧ qE O st.1 a r = true:=by
   rcases qF e with h|h
   ·cases h
   ·exact h
  have hlt2:=(drop_ok (O:=O) hst.ok (by omega:a < 6) (by have:=hcm r hr.1; omega:r < 6) hr.2).2
  rw [hn']
  refine ⟨?_,hlt2⟩
  cases hq:(jO O st.1 a r == st.1) with
  | false=>rfl
  | true =>
   rw [beq_iff_eq] at hq
   rw [hq] at hlt2
   omega
 repeat refine S.seq ?_
 refine S.drawnL [(false,0),(false,1),(false,3),(false,7),(false,0),(false,31)] (by kernel_rfl) (by kernel_rfl) (by kernel_rfl) ?_
 simp (disch:=first|omega|simp only [aA,aB]<;>omega|decide) only [rUz,↓reduceIte,reduceEqDiff,reduceAdd,rDz,infoL,reduceSub,t0,hbc2,aC fC2 SN,crN hl2,hg2,hpN]
 refine rD (v:=.bool ((jI O a came st).1 == st.1)) ?_ ?_
 ·rw [eqlN2]
  exact eqlN _ hl2 _ h6l (by simp (disch:=first|omega|simp only [aA,aB]<;>omega|decide) only [rUz,↓reduceIte,reduceEqDiff,reduceAdd]) (by simp (disch:=first|omega|simp only [aA,aB]<;>omega|decide) only [rUz,↓reduceIte,reduceEqDiff,reduceAdd])
 simp (disch:=first|omega|simp only [aA,aB]<;>omega|decide) only [rUz,↓reduceIte,reduceEqDiff,reduceAdd,rDz,infoL,reduceSub]
 cases hpk:fZ O st.1 a came none with
 | none =>
  have hbq:=hsame hpk
  have hfin:iO O came a 20 (lf,sl) = st:=by rw [← hcz,come_end hpk]
  have hnx:jI O a came st = st:=by unfold jI; rw [hpk]
  rw [hnx] at hc2 hbc2 hl2
  rw [hfin] at hK
  repeat refine S.seq ?_
  refine S.cond (v:=true) (by first|rfl|(simp (disch:=first|omega|simp only [aA,aB]<;>omega|decide) only [rUz,↓reduceIte,reduceEqDiff,reduceAdd,hbq]<;>rfl)) (fun _=>?_) (fun e=>by cases e)
  refine S.exit ?_
  rw [qW (by decide)]
  refine he _ _ _ _ (fun e=>by cases e) ?_
  have hlt2:=hc2.lt
  obtain ⟨cv3,sv3,F13,F23,hbc3,two3⟩:=hc2.ex
  have hf3:=hc2.famh
  simp (disch:=first|omega|simp only [aA,aB]<;>omega|decide) only [rUz,↓reduceIte,reduceEqDiff,reduceAdd]
  repeat refine S.seq ?_
  refine S.region ?_
  simp (disch:=first|omega|simp only [aA,aB]<;>omega|decide) only [rUz,↓reduceIte,reduceEqDiff,reduceAdd,t0,t1,hbc3,aC fC1 lI,qI,cr1,fH]
  refine uT slI s3' z3 rfl (by omega) (u:=iv (a:Int)) (l:=cn a) (by simp (disch:=first|omega|simp only [aA,aB]<;>omega|decide) only [rUz,↓reduceIte,reduceEqDiff,reduceAdd]) rfl rfl ?_
  have hbx:(g2.add (cn a)).bl.get Bc = some (.cells (crV v cv3 st.1 sv3) Bc false):=by rw [aW (by omega)]; exact hbc3
  have hfx:(g2.add (cn a)).fams.get Bc = some [Bc]:=by rw [nD (by omega)]; exact hf3
  have hle2:=hc2.fr.le
  simp (disch:=first|omega|simp only [aA,aB]<;>omega|decide) only [rUz,↓reduceIte,reduceEqDiff,reduceAdd,kW]
  refine wr_grown (bx:=g2.nx) (cx:=1) (v:=cv3) slI uI (by simp (disch:=first|omega|simp only [aA,aB]<;>omega|decide) only [rUz,↓reduceIte,reduceEqDiff,reduceAdd]) (by simp (disch:=first|omega|simp only [aA,aB]<;>omega|decide) only [rUz,↓reduceIte,reduceEqDiff,reduceAdd]) (two3.mono Kp.refl.add).x (by show H.nx ≤ g2.nx + 1; omega) s3' rfl (by omega) (aP rfl) nI (by rw [List.length_map]; show _ < 1000000; omega) ?_
  intro v' h' F' gr
  obtain ⟨qb,nb,cb,hv'⟩:=gr.app.sl
  subst hv'
  have two4:=(two3.mono Kp.refl.add).grow gr
  have hBl:Bc < H.nx:=hBH
  have hby:h'.bl.get Bc = some (.cells (crV v cv3 st.1 sv3) Bc false):=by rw [(gr.sm.2 Bc hBH).1]; exact hbx
  have hfy:h'.fams.get Bc = some [Bc]:=by rw [(gr.sm.2 Bc hBH).2]; exact hfx
  have fry:Fr H Bc h':=(hc2.fr.kp (Kp.refl.add (c:=cn a))).sm gr.sm (Nat.le_refl _)
  have hl9:=cr_len (v:=v) (cv:=cv3) (sv:=sv3) h6l
  simp (disch:=first|omega|simp only [aA,aB]<;>omega|decide) only [rUz,↓reduceIte,reduceEqDiff,reduceAdd,t0,aC fC1 lI]
  refine mP lI' ?_
  simp (disch:=first|omega|simp only [aA,aB]<;>omega|decide) only [rUz,↓reduceIte,reduceEqDiff,reduceAdd,stR_sl,hby,hfy]
  subst hF
  simp only [finish,aI]
  rw [show Tryz.f76.results.toList = [] from rfl]
  simp only [bK,result1]
  refine hK _ _ ⟨⟨fry.upd,hBH,hfam,hc2.ok,.slice qb nb cb,sv3,F',F23,aO _ _ _,?_⟩,by show st.2.length ≤ sl.length + 20; have:st.2.length + f ≤ sl.length + 20:=hln; omega⟩
  rw [List.map_append]
  exact two4.upd hBH
 | some r =>
  obtain ⟨hbq,hlt2⟩:=hdiff r hpk
  repeat refine S.seq ?_
  refine S.cond (v:=false) (by first|rfl|(simp (disch:=first|omega|simp only [aA,aB]<;>omega|decide) only [rUz,↓reduceIte,reduceEqDiff,reduceAdd,hbq]<;>rfl)) (fun e=>by cases e) (fun _=>?_)
  repeat refine S.seq ?_
  refine S.skip ?_
  simp (disch:=first|omega|simp only [aA,aB]<;>omega|decide) only [rUz,↓reduceIte,reduceEqDiff,reduceAdd]
  have hc0:=hst.ok.b a
  have hpos:0 < lg st.1 a:=by
   rcases qF hpk with h|h
   ·cases h
   ·exact (vH h.2).1
  obtain ⟨f',rfl⟩:∃ f',f = f' + 1:=⟨f - 1,by omega⟩
  rw [come_next,hpk] at hcz
  have hnl:=nextS_len (O:=O) (a:=a) (came:=came) (st:=st)
  refine hn f' _ _ (by omega) ⟨⟨jI O a came st,by omega,hcz,by omega,hc2⟩,?_,?_⟩
  all_goals (first|rfl|(simp (disch:=first|omega|simp only [aA,aB]<;>omega|decide) only [rUz,↓reduceIte,reduceEqDiff,reduceAdd,t0,t1]<;>rfl))
end Go.Proofs.Po
