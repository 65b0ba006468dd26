import Derived.Test.YthgmipngikdknaaGreatPwA
import Derived.Test.YthgmipngikdknaaGreatEvE
/- How arrivals are sorted. -/
namespace Go.Proofs.Po
open Nat (reduceEqDiff reduceAdd reduceSub)
open Go Go.Ev Go.RowKit
set_option linter.unusedSimpArgs false
variable {pr:Prim} {R:ExT}
def cA (x:AR):List Value:=[iv x.1,iv (x.2:Int)]
theorem cA_len (x:AR):(cA x).length = 2:=rfl
theorem cA0 (x:AR):(cA x)[0]? = some (iv x.1):=rfl
theorem cA1 (x:AR):(cA x)[1]? = some (iv (x.2:Int)):=rfl
def cmpA (x y:AR):Int:=orZ [jT x.1 y.1,jT (x.2:Int) (y.2:Int)]
theorem cmpA_lt (x y:AR):decide (cmpA x y < 0) = ltA x y:=by
 rw [Bool.eq_iff_iff,decide_eq_true_eq,uB]
 unfold cmpA jT
 simp only [orZ]
 by_cases h1:x.1 < y.1
 ·simp [h1]
 ·by_cases h2:y.1 < x.1
  ·simp [h1,h2]; omega
  ·have:x.1 = y.1:=by omega
   by_cases h3:(x.2:Int) < (y.2:Int)
   ·simp [this,h3]; omega
   ·by_cases h4:(y.2:Int) < (x.2:Int)
    ·simp [this,h3,h4]; omega
    ·simp [this,h3,h4]; omega
set_option maxHeartbeats 8000000 in
theorem cmpA_y (S:Ev.Steps Tryz.prog pr R) (hoff:Off pr) (h0:AHeap) (x y:AR):bD Tryz.prog R 96 [.agg ⟨cA x⟩,.agg ⟨cA y⟩] h0 fun u _=>u = iv (cmpA x y):=by
 refine aV (fn:=Tryz.f96) (c:=(Tryz.f96.body).getD .skip) (by kernel_rfl) rfl (by kernel_rfl) rfl (fun K hK=>?_)
 generalize hF:finish Tryz.prog Tryz.f96 K = KF
 simp only [Tryz.f96,Option.getD_some,bJ,aX,aZ,T.setK_eq,id]
 unfold cmpA at hK
 repeat refine S.seq ?_
 refine S.region ?_
 simp (disch:=first|omega|simp only [aA,aB]<;>omega|decide) only [rUz,↓reduceIte,reduceEqDiff,reduceAdd]
 obtain ⟨B2,hB2⟩:∃ z,z = h0.nx:=⟨_,rfl⟩
 obtain ⟨B3,hB3⟩:∃ z,z = h0.nx + 1:=⟨_,rfl⟩
 have hb2:((h0.add (cA x)).add (cA y)).bl.get B2 = some (.cells (cA x) B2 false):=by rw [aW (by show B2 ≠ h0.nx + 1; omega)]; subst hB2; exact aP rfl
 have hb3:((h0.add (cA x)).add (cA y)).bl.get B3 = some (.cells (cA y) B3 false):=by subst hB3; exact aP rfl
 have hk1:Kp h0 ((h0.add (cA x)).add (cA y)):=Kp.refl.add.add
 rw [← hB3,← hB2]
 clear hB2 hB3
 generalize (h0.add (cA x)).add (cA y) = g at hb2 hb3 hk1 ⊢
 repeat refine S.seq ?_
 refine S.drawnL [(false,0),(false,1),(false,0),(false,4),(true,15),(false,0),(false,32),(false,0),(false,128),(true,511),(true,1023),(true,2047),(false,4095)] (by kernel_rfl) (by kernel_rfl) (by kernel_rfl) ?_
 simp (disch:=first|omega|simp only [aA,aB]<;>omega|decide) only [rUz,↓reduceIte,reduceEqDiff,reduceAdd,rDz,infoL,reduceSub,hb2,hb3,aC fV0 s3,p3,cA0]
 refine dH rfl ?_
 simp (disch:=first|omega|simp only [aA,aB]<;>omega|decide) only [rUz,↓reduceIte,reduceEqDiff,reduceAdd,rDz,infoL,reduceSub,hb2,hb3,aC fV1 s3,p3,cA1]
 refine dH rfl ?_
 simp (disch:=first|omega|simp only [aA,aB]<;>omega|decide) only [rUz,↓reduceIte,reduceEqDiff,reduceAdd,rDz,infoL,reduceSub,hb2,hb3,aC fV1 s3,p3,cA1]
 refine dH rfl ?_
 simp (disch:=first|omega|simp only [aA,aB]<;>omega|decide) only [rUz,↓reduceIte,reduceEqDiff,reduceAdd,rDz,infoL,reduceSub,hb2,hb3,aC fV1 s3,p3,cA1]
 refine dH rfl ?_
 simp (disch:=first|omega|simp only [aA,aB]<;>omega|decide) only [rUz,↓reduceIte,reduceEqDiff,reduceAdd,rDz,infoL,reduceSub,hb2,hb3,aC fV1 s3,p3,cA1]
 refine dC (fid:=106) (first:=#[]) (captured:=#[]) (Post:=fun u h=>u = iv (jT x.1 y.1) ∧ h = g) rfl (hoff _ _ _ rfl) (by simp (disch:=first|omega|simp only [aA,aB]<;>omega|decide) only [rUz,↓reduceIte,reduceEqDiff,reduceAdd]; exact uZ S hoff g _ _) (Nat.le_of_ble_eq_true rfl) ?_
 rintro u g3 - ⟨rfl,rfl⟩
 refine ⟨?_,?_⟩
 ·try simp (disch:=first|decide|rfl) only [aK,aG,aH]
  rw [bF (v:=iv (y.2:Int)) (by simp (disch:=first|omega|simp only [aA,aB]<;>omega|decide) only [rUz,↓reduceIte,reduceEqDiff,reduceAdd,rDz,infoL,reduceSub,hb3,aC fV1 s3,p3,cA1]) fU]
  try simp (disch:=first|decide|rfl) only [aK,aG,aH]
  rw [bF (v:=iv (x.2:Int)) (by simp (disch:=first|omega|simp only [aA,aB]<;>omega|decide) only [rUz,↓reduceIte,reduceEqDiff,reduceAdd,rDz,infoL,reduceSub,hb2,aC fV1 s3,p3,cA1]) fU]
  try simp (disch:=first|decide|rfl) only [aK,aG,aH]
 simp (disch:=first|omega|simp only [aA,aB]<;>omega|decide) only [rUz,↓reduceIte,reduceEqDiff,reduceAdd,rDz,infoL,reduceSub]
 refine dC (fid:=106) (first:=#[]) (captured:=#[]) (Post:=fun u h=>u = iv (jT (x.2:Int) (y.2:Int)) ∧ h = g3) rfl (hoff _ _ _ rfl) (by simp (disch:=first|omega|simp only [aA,aB]<;>omega|decide) only [rUz,↓reduceIte,reduceEqDiff,reduceAdd]; exact uZ S hoff g3 _ _) (Nat.le_of_ble_eq_true rfl) ?_
 rintro u g4 - ⟨rfl,rfl⟩
 refine ⟨?_,?_⟩
 ·try simp (disch:=first|decide|rfl) only [aK,aG,aH]
 simp (disch:=first|omega|simp only [aA,aB]<;>omega|decide) only [rUz,↓reduceIte,reduceEqDiff,reduceAdd,rDz,infoL,reduceSub]
 refine jS (aw_lit2 slI s3' z3 rfl (by omega) (u:=iv (jT x.1 y.1)) (w:=iv (jT (x.2:Int) (y.2:Int))) (l:=[iv (jT x.1 y.1),iv (jT (x.2:Int) (y.2:Int))]) (by simp (disch:=first|omega|simp only [aA,aB]<;>omega|decide) only [rUz,↓reduceIte,reduceEqDiff,reduceAdd,rDz,infoL,reduceSub]) (by simp (disch:=first|omega|simp only [aA,aB]<;>omega|decide) only [rUz,↓reduceIte,reduceEqDiff,reduceAdd,rDz,infoL,reduceSub]) rfl rfl rfl) (Nat.le_of_ble_eq_true rfl) ?_ ?_
 ·try simp (disch:=first|decide|rfl) only [aK,aG,aH]
 simp (disch:=first|omega|simp only [aA,aB]<;>omega|decide) only [rUz,↓reduceIte,reduceEqDiff,reduceAdd,rDz,infoL,reduceSub]
 refine dC (fid:=105) (first:=#[]) (captured:=#[]) (Post:=fun u h=>u = iv (orZ [jT x.1 y.1,jT (x.2:Int) (y.2:Int)]) ∧ h = g4.add [iv (jT x.1 y.1),iv (jT (x.2:Int) (y.2:Int))]) rfl (hoff _ _ _ rfl) (by simp (disch:=first|omega|simp only [aA,aB]<;>omega|decide) only [rUz,↓reduceIte,reduceEqDiff,reduceAdd]; exact or_y S _ _ [jT x.1 y.1,jT (x.2:Int) (y.2:Int)] (.inr ⟨g4.nx,2,g4.nx,false,rfl,Nat.lt_succ_self _,aP rfl⟩) (by simp)) (Nat.le_of_ble_eq_true rfl) ?_
 rintro u g7 - ⟨rfl,rfl⟩
 refine ⟨?_,?_⟩
 ·try simp (disch:=first|decide|rfl) only [aK,aG,aH]
 simp (disch:=first|omega|simp only [aA,aB]<;>omega|decide) only [rUz,↓reduceIte,reduceEqDiff,reduceAdd,rDz,infoL,reduceSub]
 refine S.ret ?_
 try simp only [aJ,aF]
 subst hF
 simp only [finish,aI]
 rw [show Tryz.f96.results.toList = [.tmp 4] from rfl]
 simp (disch:=first|omega|simp only [aA,aB]<;>omega|decide) only [bK,aY,aS,aT,aQ,aU,aO,upd_ne,aP,aW,result1]
 exact hK _ _ hk1.add rfl
/-! ## Rows of arrivals -/
def arrF:List Int → Nat → List AR
 | [],_=>[]
 | a :: r,k=>(a,k) :: arrF r (k + 1)
theorem arrF_len:∀ (l:List Int) (k:Nat),(arrF l k).length = l.length
 | [],_=>rfl
 | a :: r,k=>by show (arrF r (k + 1)).length + 1 = _; rw [arrF_len r]; rfl
theorem arrF_get:∀ (l:List Int) (k i:Nat) (h:i < l.length),(arrF l k)[i]? = some (l[i],k + i)
 | a :: r,k,0,_=>rfl
 | a :: r,k,i + 1,h=>by
  show (arrF r (k + 1))[i]? = _
  rw [arrF_get r (k + 1) i (by simpa using h)]
  simp only [List.getElem_cons_succ]
  rw [show k + 1 + i = k + (i + 1) from by omega]
def nH (t:List Int) (k:Nat):List AR:=cmZ (t.take k) ++ (arrF t 0).drop k
theorem rowsK_cons {t:List Int} {k:Nat} (hk:k < t.length):nH t k = cmZ (t.take k) ++ (t[k],k) :: (arrF t 0).drop (k + 1):=by
 have hl:k < (arrF t 0).length:=by rw [arrF_len]; exact hk
 have e:=arrF_get t 0 k hk
 rw [Nat.zero_add,List.getElem?_eq_getElem hl] at e
 unfold nH
 rw [List.drop_eq_getElem_cons hl]
 have:(arrF t 0)[k] = (t[k],k):=by simpa using e
 rw [this]
theorem rowsK_0 (t:List Int):nH t 0 = arrF t 0:=by
 unfold nH
 rw [List.take_zero,List.drop_zero]
 show cmU [] 31 ++ _ = _
 rw [cmU_nil]; rfl
theorem rowsK_1 {t:List Int} (h:∀ x,x ∈ t → 0 ≤ x ∧ x ≤ 30) (hk:0 < t.length):nH t 1 = arrF t 0:=by
 have e0:cmZ (t.take 0) = []:=by rw [List.take_zero]; exact cmU_nil 31
 have e1:=cm_step h hk
 rw [e0] at e1
 have e2:=rowsK_cons hk
 rw [rowsK_0,e0] at e2
 rw [e2]
 unfold nH
 rw [e1]; rfl
theorem rowsK_n (t:List Int):nH t t.length = cmZ t:=by
 unfold nH
 rw [List.take_of_length_le (Nat.le_refl _),List.drop_of_length_le (by rw [arrF_len]; exact Nat.le_refl _),List.append_nil]
/-- Rows at a block of their own. -/
def RAt (h:AHeap) (B:Nat) (L:List AR):Prop:=h.bl.get B = some (.cells (L.map cA).flatten B false)
theorem xN (L:List AR):(L.map cA).flatten.length = L.length * 2:=by
 induction L with
 | nil=>rfl
 | cons a l ih=>rw [List.map_cons,List.flatten_cons,List.length_append,ih,cA_len,List.length_cons]; omega
theorem part2 {c:List Value} {o:Nat} (h:o + 2 ≤ c.length):dD Tryz.prog 126 c o = some (.agg ⟨(c.drop o).take 2⟩):=by
 rw [pV,show Nat.ble (Nat.add o 2) c.length = true from Nat.ble_eq_true_of_le h,cond_true]
theorem part_row {L:List AR} {j:Nat} {x:AR} (h:L[j]? = some x):dD Tryz.prog 126 (L.map cA).flatten (j * 2) = some (.agg ⟨cA x⟩):=by
 have hj:j < L.length:=(List.getElem?_eq_some_iff.1 h).1
 have hm:(L.map cA)[j]? = some (cA x):=by rw [List.getElem?_map,h]; rfl
 have hs:∀ c,c ∈ L.map cA → c.length = 2:=by
  intro c hc
  obtain ⟨y,_,rfl⟩:=List.mem_map.1 hc
  rfl
 obtain ⟨e1,e2⟩:=flat_part hs hm
 rw [part2 e2,e1]
theorem set_row {L:List AR} {j:Nat} (x:AR) (h:j < L.length):(L.map cA).flatten.take (j * 2) ++ cA x ++ (L.map cA).flatten.drop (j * 2 + 2) = ((L.set j x).map cA).flatten:=uV cA_len L j x h
structure IIn (t0:List Int) (k B:Nat) (sv:Value) (n:Nat) (H:AHeap) (j:Nat) (t:T Value) (h:AHeap):Prop where
 fr:Fr H B h
 a0:tget t 0 = sv
 a1:tget t 1 = iv 0
 a2:tget t 2 = iv (n:Int)
 a3:tget t 3 = .func (.func 96) #[] #[]
 a8:tget t 8 = iv (k:Int)
 a9:tget t 9 = iv (j:Int)
 ex:∃ (P:List AR) (x:AR) (Q:List AR),P.length = j ∧ RAt h B (P ++ x :: Q) ∧ Sorted P ∧ lD x P ++ Q = nH t0 (k + 1) ∧ (P ++ x :: Q).length = n
structure IOu (t0:List Int) (B:Nat) (sv:Value) (n:Nat) (H:AHeap) (k:Nat) (t:T Value) (h:AHeap):Prop where
 k1:1 ≤ k
 hk:k ≤ n
 fr:Fr H B h
 a0:tget t 0 = sv
 a1:tget t 1 = iv 0
 a2:tget t 2 = iv (n:Int)
 a3:tget t 3 = .func (.func 96) #[] #[]
 a8:tget t 8 = iv (k:Int)
 at_:RAt h B (nH t0 k)
theorem snoc_of {α:Type} {P:List α} {j:Nat} (h:P.length = j + 1):∃ P' y,P = P' ++ [y] ∧ P'.length = j:=by
 refine ⟨P.take j,P[j]'(by omega),?_,by rw [List.length_take]; omega⟩
 rw [← vG (by omega),List.take_of_length_le (by omega)]
set_option maxHeartbeats 32000000 in
theorem isort_y (S:Ev.Steps Tryz.prog pr R) (hoff:Off pr) (h0:AHeap) (t0:List Int) (ht:∀ x,x ∈ t0 → 0 ≤ x ∧ x ≤ 30) (hl:1 ≤ t0.length) (h6:t0.length ≤ 6) (B:Nat) (hB:B < h0.nx) (hb:RAt h0 B (arrF t0 0)) (hf:h0.fams.get B = some [B]) :
  gJ Tryz.prog R 122 [.slice (some ⟨B,0,none⟩) t0.length t0.length,iv 0,iv (t0.length:Int),.func (.func 96) #[] #[]] h0 fun _ h=>Fr h0 B h ∧ RAt h B (cmZ t0):=by
 refine gW (fn:=Tryz.f122) (c:=(Tryz.f122.body).getD .skip) (by kernel_rfl) rfl (by kernel_rfl) rfl (fun K hK=>?_)
 generalize hF:finish Tryz.prog Tryz.f122 K = KF
 simp only [Tryz.f122,Option.getD_some,bJ,aX,aZ,T.setK_eq,id]
 repeat refine S.seq ?_
 refine S.region ?_
 simp (disch:=first|omega|simp only [aA,aB]<;>omega|decide) only [rUz,↓reduceIte,reduceEqDiff,reduceAdd]
 repeat refine S.seq ?_
 refine S.block ?_
 refine S.loop (ι:=Nat) (IOu t0 B (.slice (some ⟨B,0,none⟩) t0.length t0.length) t0.length h0) (fun k=>t0.length - k) ?_ 1 _ _ ?_
 rotate_left
 ·refine ⟨Nat.le_refl _,hl,Fr.refl,?_,?_,?_,?_,?_,by rw [rowsK_1 ht hl]; exact hb⟩
  all_goals (first|rfl|(simp (disch:=first|omega|simp only [aA,aB]<;>omega|decide) only [rUz,↓reduceIte,reduceEqDiff,reduceAdd]<;>rfl))
 intro k t h ⟨k1,hk,fr,a0,a1,a2,a3,a8,at_⟩ K' hn he
 repeat refine S.seq ?_
 refine S.region ?_
 simp (disch:=first|omega|simp only [aA,aB]<;>omega|decide) only [rUz,↓reduceIte,reduceEqDiff,reduceAdd,a8,a2]
 repeat refine S.seq ?_
 refine S.cond (v:=decide ((k:Int) < (t0.length:Int))) (by first|rfl|(simp (disch:=first|omega|simp only [aA,aB]<;>omega|decide) only [rUz,↓reduceIte,reduceEqDiff,reduceAdd]<;>rfl)) (fun e=>?_) (fun e=>?_)
 ·have hkn:k < t0.length:=by have:=of_decide_eq_true e; omega
  clear e
  have hcm:=cm_ok ht k hk
  have hrk:=rowsK_cons hkn
  have hstep:=cm_step ht hkn
  have hnext:lD (t0[k],k) (cmZ (t0.take k)) ++ (arrF t0 0).drop (k + 1) = nH t0 (k + 1):=by unfold nH; rw [hstep]
  repeat refine S.seq ?_
  refine S.skip ?_
  simp (disch:=first|omega|simp only [aA,aB]<;>omega|decide) only [rUz,↓reduceIte,reduceEqDiff,reduceAdd]
  repeat refine S.seq ?_
  refine S.block ?_
  repeat refine S.seq ?_
  refine S.region ?_
  simp (disch:=first|omega|simp only [aA,aB]<;>omega|decide) only [rUz,↓reduceIte,reduceEqDiff,reduceAdd,a8]
  repeat refine S.seq ?_
  refine S.block ?_
  refine S.loop (ι:=Nat) (IIn t0 k B (.slice (some ⟨B,0,none⟩) t0.length t0.length) t0.length h0) (fun j=>j) ?_ k _ _ ?_
  rotate_left
  ·refine ⟨fr,?_,?_,?_,?_,?_,?_,cmZ (t0.take k),(t0[k],k),(arrF t0 0).drop (k + 1),hcm.len,by rw [← hrk]; exact at_,hcm.sorted,hnext,?_⟩
   rotate_left 6
   ·rw [List.length_append,List.length_cons,List.length_drop,arrF_len,hcm.len]; omega
   all_goals (first|rfl|(simp (disch:=first|omega|simp only [aA,aB]<;>omega|decide) only [rUz,↓reduceIte,reduceEqDiff,reduceAdd,a0,a1,a2,a3,a8]<;>rfl))
  clear a0 a1 a2 a3 a8 at_ fr hnext hrk hcm hstep
  clear t h
  intro j t h ⟨fr,a0,a1,a2,a3,a8,a9,P,x,Q,hP,hr,hs,hx,hlen⟩ K2 hn2 he2
  have hBh:B < h.nx:=Nat.lt_of_lt_of_le hB fr.le
  have hfh:h.fams.get B = some [B]:=(fr.fam B hB).trans hf
  have stop:lD x P = P ++ [x] → IOu t0 B (.slice (some ⟨B,0,none⟩) t0.length t0.length) t0.length h0 k t h → RAt h B (nH t0 (k + 1)):=fun e _=>by
   rw [← hx,e,List.append_assoc]; exact hr
  cases j with
  | zero =>
   obtain rfl:P = []:=List.length_eq_zero_iff.1 hP
   have hr':RAt h B (nH t0 (k + 1)):=by rw [← hx]; exact hr
   have hd:decide ((0:Int) < ((0:Nat):Int)) = false:=rfl
   repeat refine S.seq ?_
   refine S.drawnL [(false,0),(false,0),(false,3),(false,7),(false,15),(false,15),(false,15),(false,111),(false,239),(false,15),(false,15),(false,1039),(false,3599),(false,7695),(true,16383),(false,32767),(false,65535)] (by kernel_rfl) (by kernel_rfl) (by kernel_rfl) ?_
   simp (disch:=first|omega|simp only [aA,aB]<;>omega|decide) only [rUz,↓reduceIte,reduceEqDiff,reduceAdd,rDz,infoL,reduceSub,a9,a1,hd]
   repeat refine S.seq ?_
   refine S.cond (v:=false) (by first|rfl|(simp (disch:=first|omega|simp only [aA,aB]<;>omega|decide) only [rUz,↓reduceIte,reduceEqDiff,reduceAdd]<;>rfl)) (fun e=>by cases e) (fun _=>?_)
   refine S.exit (he2 _ _ _ _ (fun e=>by cases e) ?_)
   simp (disch:=first|omega|simp only [aA,aB]<;>omega|decide) only [rUz,↓reduceIte,reduceEqDiff,reduceAdd]
   repeat refine S.seq ?_
   refine S.region ?_
   simp (disch:=first|omega|simp only [aA,aB]<;>omega|decide) only [rUz,↓reduceIte,reduceEqDiff,reduceAdd,a8]
   refine hn (k + 1) _ _ (by omega) ⟨by omega,by omega,fr,?_,?_,?_,?_,?_,hr'⟩
   all_goals (first|rfl|(simp (disch:=first|omega|simp only [aA,aB]<;>omega|decide) only [rUz,↓reduceIte,reduceEqDiff,reduceAdd,a0,a1,a2,a3]<;>rfl))
  | succ j =>
   obtain ⟨P',y,rfl,hP'⟩:=snoc_of hP
   have hd:decide ((0:Int) < ((j + 1:Nat):Int)) = true:=decide_eq_true (by omega)
   have hd':decide ((0:Int) < (j:Int) + 1) = true:=decide_eq_true (by omega)
   have hjm:(j:Int) + 1 - 1 = (j:Int):=by omega
   have hjm':((j + 1:Nat):Int) - 1 = (j:Int):=by omega
   have hn6:j + 1 < t0.length:=by
    have:(P' ++ [y] ++ x :: Q).length = t0.length:=hlen
    rw [List.length_append,List.length_append,List.length_cons] at this
    simp at this; omega
   have hL:P' ++ [y] ++ x :: Q = P' ++ y :: x :: Q:=by simp
   rw [hL] at hr
   have g1:(P' ++ y :: x :: Q)[j + 1]? = some x:=by rw [List.getElem?_append_right (by omega),hP',show j + 1 - j = 1 from by omega]; rfl
   have g0:(P' ++ y :: x :: Q)[j]? = some y:=by rw [List.getElem?_append_right (by omega),hP',Nat.sub_self]; rfl
   have ia1:bY Tryz.prog 131 (.slice (some ⟨B,0,none⟩) t0.length t0.length) (iv ((j:Int) + 1)) = some (.pointer (some ⟨B,(j + 1) * 2,none⟩)):=by
    rw [show (j:Int) + 1 = ((j + 1:Nat):Int) from by omega,eQ slV sV hn6,Nat.zero_add]
   have ia0:bY Tryz.prog 131 (.slice (some ⟨B,0,none⟩) t0.length t0.length) (iv (j:Int)) = some (.pointer (some ⟨B,j * 2,none⟩)):=by
    rw [eQ slV sV (by omega),Nat.zero_add]
   have p1:=part_row g1
   have p0:=part_row g0
   unfold RAt at hr
   repeat refine S.seq ?_
   refine S.drawnL [(false,0),(false,0),(false,3),(false,7),(false,15),(false,15),(false,15),(false,111),(false,239),(false,15),(false,15),(false,1039),(false,3599),(false,7695),(true,16383),(false,32767),(false,65535)] (by kernel_rfl) (by kernel_rfl) (by kernel_rfl) ?_
   simp (disch:=first|omega|simp only [aA,aB]<;>omega|decide) only [rUz,↓reduceIte,reduceEqDiff,reduceAdd,rDz,infoL,reduceSub,a9,a1,a3,a0,hd,hd',hjm,hjm',ia1,ia0,hr,p1,p0]
   refine dC (fid:=96) (first:=#[]) (captured:=#[]) (Post:=fun u _=>u = iv (cmpA x y)) (by simp (disch:=first|omega|simp only [aA,aB]<;>omega|decide) only [rUz,↓reduceIte,reduceEqDiff,reduceAdd]) (hoff _ _ _ rfl) (by simp (disch:=first|omega|simp only [aA,aB]<;>omega|decide) only [rUz,↓reduceIte,reduceEqDiff,reduceAdd]; exact cmpA_y S hoff h x y) (Nat.le_of_ble_eq_true rfl) ?_
   rintro u g hkg rfl
   have hrg:=(hkg.get hBh).trans hr
   have hfg:=(hkg.fget hBh).trans hfh
   have hBg:=Nat.lt_of_lt_of_le hBh hkg.1
   have frg:=fr.kp hkg
   have hlt:=cmpA_lt x y
   refine ⟨?_,?_⟩
   ·try simp (disch:=first|decide|rfl) only [aK,aG,aH]
   simp (disch:=first|omega|simp only [aA,aB]<;>omega|decide) only [rUz,↓reduceIte,reduceEqDiff,reduceAdd,rDz,infoL,reduceSub,hlt]
   cases hxy:ltA x y with
   | false =>
    have hr':RAt g B (nH t0 (k + 1)):=by
     rw [← hx,insA_end (sorted_last hs hxy)]
     unfold RAt
     rw [hrg]
     simp
    repeat refine S.seq ?_
    refine S.cond (v:=false) (by first|rfl|(simp (disch:=first|omega|simp only [aA,aB]<;>omega|decide) only [rUz,↓reduceIte,reduceEqDiff,reduceAdd,hxy]<;>rfl)) (fun e=>by cases e) (fun _=>?_)
    refine S.exit (he2 _ _ _ _ (fun e=>by cases e) ?_)
    simp (disch:=first|omega|simp only [aA,aB]<;>omega|decide) only [rUz,↓reduceIte,reduceEqDiff,reduceAdd]
    repeat refine S.seq ?_
    refine S.region ?_
    simp (disch:=first|omega|simp only [aA,aB]<;>omega|decide) only [rUz,↓reduceIte,reduceEqDiff,reduceAdd,a8]
    refine hn (k + 1) _ _ (by omega) ⟨by omega,by omega,frg,?_,?_,?_,?_,?_,hr'⟩
    all_goals (first|rfl|(simp (disch:=first|omega|simp only [aA,aB]<;>omega|decide) only [rUz,↓reduceIte,reduceEqDiff,reduceAdd,a0,a1,a2,a3]<;>rfl))
   | true =>
    have hnx:lD x P' ++ y :: Q = nH t0 (k + 1):=by
     rw [← hx,insA_app (fun b hb=>by simp at hb; subst hb; exact hxy),List.append_assoc]; rfl
    have hs':Sorted P':=by unfold Sorted at hs ⊢; rw [List.pairwise_append] at hs; exact hs.1
    have q1:=set_row (L:=P' ++ y :: x :: Q) (j:=j + 1) y (by rw [← hL]; omega)
    have q0:=set_row (L:=(P' ++ y :: x :: Q).set (j + 1) y) (j:=j) x (by rw [List.length_set,← hL]; omega)
    have qe:((P' ++ y :: x :: Q).set (j + 1) y).set j x = P' ++ x :: y :: Q:=by
     rw [List.set_append_right _ _ (by omega),hP',show j + 1 - j = 1 from by omega,List.set_append_right _ _ (by omega),hP',Nat.sub_self]; rfl
    rw [qe] at q0
    have len1:(P' ++ y :: x :: Q).length = t0.length:=by rw [← hL]; exact hlen
    repeat refine S.seq ?_
    refine S.cond (v:=true) (by first|rfl|(simp (disch:=first|omega|simp only [aA,aB]<;>omega|decide) only [rUz,↓reduceIte,reduceEqDiff,reduceAdd,hxy]<;>rfl)) (fun _=>?_) (fun e=>by cases e)
    repeat refine S.seq ?_
    refine S.skip ?_
    simp (disch:=first|omega|simp only [aA,aB]<;>omega|decide) only [rUz,↓reduceIte,reduceEqDiff,reduceAdd]
    repeat refine S.seq ?_
    refine S.block ?_
    repeat refine S.seq ?_
    refine S.drawnL [(false,0),(false,0),(false,0),(false,0),(false,8),(false,0),(false,0),(false,64),(false,224),(false,480),(false,0),(false,0),(false,3072),(false,7168),(false,16355),(true,32739),(false,65535),(true,131071)] (by kernel_rfl) (by kernel_rfl) (by kernel_rfl) ?_
    simp (disch:=first|omega|simp only [aA,aB]<;>omega|decide) only [rUz,↓reduceIte,reduceEqDiff,reduceAdd,rDz,infoL,reduceSub,a9,a0,hjm,hjm',ia1,ia0,hrg,p1,p0]
    refine fP (uU (B:=B) (off:=(j + 1) * 2) (s:=2) (c:=((P' ++ y :: x :: Q).map cA).flatten) (ls:=cA y) (by simp (disch:=first|omega|simp only [aA,aB]<;>omega|decide) only [rUz,↓reduceIte,reduceEqDiff,reduceAdd,rDz,infoL,reduceSub]) (by simp (disch:=first|omega|simp only [aA,aB]<;>omega|decide) only [rUz,↓reduceIte,reduceEqDiff,reduceAdd,rDz,infoL,reduceSub]) sV (by omega) rfl hrg hfg (by rw [xN,len1]; omega)) ?_ ?_
    ·try simp (disch:=first|decide|rfl) only [aK,aG,aH]
    rw [q1]
    simp (disch:=first|omega|simp only [aA,aB]<;>omega|decide) only [rUz,↓reduceIte,reduceEqDiff,reduceAdd,rDz,infoL,reduceSub,ia0]
    refine fP (uU (B:=B) (off:=j * 2) (s:=2) (c:=(((P' ++ y :: x :: Q).set (j + 1) y).map cA).flatten) (ls:=cA x) (by simp (disch:=first|omega|simp only [aA,aB]<;>omega|decide) only [rUz,↓reduceIte,reduceEqDiff,reduceAdd,rDz,infoL,reduceSub]) (by simp (disch:=first|omega|simp only [aA,aB]<;>omega|decide) only [rUz,↓reduceIte,reduceEqDiff,reduceAdd,rDz,infoL,reduceSub]) sV (by omega) rfl (aO _ _ _) (by rw [bM]; exact hfg) (by rw [xN,List.length_set,len1]; omega)) ?_ ?_
    ·try simp (disch:=first|decide|rfl) only [aK,aG,aH]
    rw [q0]
    simp (disch:=first|omega|simp only [aA,aB]<;>omega|decide) only [rUz,↓reduceIte,reduceEqDiff,reduceAdd,rDz,infoL,reduceSub]
    repeat refine S.seq ?_
    refine S.region ?_
    simp (disch:=first|omega|simp only [aA,aB]<;>omega|decide) only [rUz,↓reduceIte,reduceEqDiff,reduceAdd,a9,hjm,hjm']
    refine hn2 j _ _ (by omega) ⟨frg.upd.upd,?_,?_,?_,?_,?_,?_,P',x,y :: Q,hP',aO _ _ _,hs',hnx,?_⟩
    rotate_left 6
    ·have:(P' ++ x :: y :: Q).length = (P' ++ y :: x :: Q).length:=by simp
     rw [this]; exact len1
    all_goals (first|rfl|(simp (disch:=first|omega|simp only [aA,aB]<;>omega|decide) only [rUz,↓reduceIte,reduceEqDiff,reduceAdd,a0,a1,a2,a3,a8]<;>rfl))
 have hkn:k = t0.length:=by have:=of_decide_eq_false e; omega
 subst hkn
 rw [rowsK_n] at at_
 refine S.exit (he _ _ _ _ (fun e=>by cases e) ?_)
 simp (disch:=first|omega|simp only [aA,aB]<;>omega|decide) only [rUz,↓reduceIte,reduceEqDiff,reduceAdd]
 subst hF
 simp only [finish,aI]
 rw [show Tryz.f122.results.toList = [] from rfl]
 simp only [bK,result1]
 exact hK _ _ ⟨fr,at_⟩
end Go.Proofs.Po
