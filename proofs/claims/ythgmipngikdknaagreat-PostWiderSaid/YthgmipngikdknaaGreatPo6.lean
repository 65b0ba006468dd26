import Derived.Test.YthgmipngikdknaaGreatPo5
/- Least, Greatest, the comparisons; the offer at a price. -/
set_option maxHeartbeats 8000000
namespace Go.Proofs.Po
open Nat (reduceEqDiff reduceAdd reduceSub)
open Go Go.Ev Go.RowKit
set_option linter.unusedSimpArgs false
variable {pr:Prim} {R:ExT}
section
variable {P:Program} {call:CallT} {t:T Value} {h:AHeap} {dst:Option Tmp} {ty:TypeId} {pos:String} {af:Array Edge} {g:Option (Nat × Bool)}
/-- A slice literal of two elements. -/
theorem aw_lit2 {e:TypeId} {sz:Nat} {sl:TypeId} {z u w:Value} {x y:Operand} {l:List Value} (h1:fE P sl = some e) (h2:bH P e = some sz) (h3:zeroOf P e = some z) (h4:z.cells.size = sz) (hs:sz ≤ 1000) (hx:ev P t x = u) (hy:ev P t y = w) (hu:okV u = true) (hw:okV w = true)
  (hfill:Instr.fill (fun k=>some (k * sz,sz)) ⟨repl z.cells.toList 2 []⟩ [(0,u),(1,w)] = some ⟨l⟩) (K:KV):bI P call t h ⟨dst,.buildSlice sl 2 #[(0,x),(1,y)],ty,pos,af,g⟩ K = K (.slice (some ⟨h.nx,0,none⟩) 2 2) (h.add l):=by
 have h5:Nat.ble (Nat.mul 2 sz) 16777216 = true:=Nat.ble_eq_true_of_le (by show 2 * sz ≤ _; omega)
 have h6:okP [(0,u),(1,w)] = true:=by simp only [okP,hu,hw]; rfl
 have h7:Nat.beq z.cells.size sz = true:=by rw [h4]; exact Nat.beq_refl _
 simp only [bI,jE,h1,h2,h3,List.map_cons,List.map_nil,hx,hy,h6,h5,h7,Bool.and_self,cond_true,hfill,uH,kV]
end
def min2 (x y:Int):Int:=if y < x then y else x
def IG (l:List Int) (a:Int) (h0:AHeap) (v:Value) (k:Nat) (t:T Value) (h:AHeap):Prop:=
 k ≤ l.length ∧ h = h0 ∧ tget t 7 = v ∧ tget t 8 = iv (l.length:Int) ∧ tget t 9 = iv (k:Int) ∧ ∃ x,tget t 0 = iv x ∧ (l.drop k).foldl max2 x = l.foldl max2 a
theorem greatest_y (S:Ev.Steps Tryz.prog pr R) (h0:AHeap) (a:Int) (v:Value) (l:List Int) (hl:IAt h0 v l) (hsz:(l.length:Int) ≤ 1000000) :
  bD Tryz.prog R 92 [iv a,v] h0 fun u h=>u = iv (l.foldl max2 a) ∧ h = h0:=by
 refine aV (fn:=Tryz.f92) (c:=(Tryz.f92.body).getD .skip) (by kernel_rfl) rfl (by kernel_rfl) rfl (fun K hK=>?_)
 generalize hF:finish Tryz.prog Tryz.f92 K = KF
 simp only [Tryz.f92,Option.getD_some,bJ,aX,aZ,T.setK_eq,id]
 have hlen:=fun t h1 o=>hl.len isI t h1 o
 repeat refine S.seq ?_
 refine S.region ?_
 simp (disch:=first|omega|simp only [aA,aB]<;>omega|decide) only [rUz,↓reduceIte,reduceEqDiff,reduceAdd]
 repeat refine S.seq ?_
 refine S.region ?_
 simp (disch:=first|omega|simp only [aA,aB]<;>omega|decide) only [rUz,↓reduceIte,reduceEqDiff,reduceAdd,hlen]
 repeat refine S.seq ?_
 refine S.block ?_
 refine S.loop (ι:=Nat) (IG l a h0 v) (fun k=>l.length - k) ?_ 0 _ _ ?_
 ·intro k t h ⟨hk,hh,t7,t8,t9,x,t0,hx⟩ K' hn he
  subst hh
  repeat refine S.seq ?_
  refine S.region ?_
  simp (disch:=first|omega|simp only [aA,aB]<;>omega|decide) only [rUz,↓reduceIte,reduceEqDiff,reduceAdd,t8,t9]
  repeat refine S.seq ?_
  refine S.cond (v:=decide ((k:Int) < (l.length:Int))) (by first|rfl|(simp (disch:=first|omega|simp only [aA,aB]<;>omega|decide) only [rUz,↓reduceIte,reduceEqDiff,reduceAdd]<;>rfl)) (fun e=>?_) (fun e=>?_)
  ·have hkn:k < l.length:=by have:=of_decide_eq_true e; omega
   clear e
   obtain ⟨b,f,ro,q1,q2,q3,q4⟩:=hl.idx slI s3' hkn
   rw [List.drop_eq_getElem_cons hkn,List.foldl_cons] at hx
   generalize l[k] = y at q4 hx
   repeat refine S.seq ?_
   refine S.skip ?_
   simp (disch:=first|omega|simp only [aA,aB]<;>omega|decide) only [rUz,↓reduceIte,reduceEqDiff,reduceAdd]
   repeat refine S.seq ?_
   refine S.block ?_
   repeat refine S.seq ?_
   refine S.region ?_
   simp (disch:=first|omega|simp only [aA,aB]<;>omega|decide) only [rUz,↓reduceIte,reduceEqDiff,reduceAdd,t7,t9,q1,q3,p3,q4]
   repeat refine S.seq ?_
   refine S.region ?_
   simp (disch:=first|omega|simp only [aA,aB]<;>omega|decide) only [rUz,↓reduceIte,reduceEqDiff,reduceAdd,t0,sW,w_max]
   refine dG (v:=iv (max2 x y)) (oU (t':=T.set 15 (T.set 14 .leaf 13 (iv x)) 14 (iv y)) (u:=iv x) (v:=iv y) ?_ ?_ (by kernel_rfl) (by kernel_rfl) (by kernel_rfl)) ?_
   ·simp (disch:=first|omega|simp only [aA,aB]<;>omega|decide) only [rUz,↓reduceIte,reduceEqDiff,reduceAdd,t0]
   ·simp (disch:=first|omega|simp only [aA,aB]<;>omega|decide) only [rUz,↓reduceIte,reduceEqDiff,reduceAdd]
   simp (disch:=first|omega|simp only [aA,aB]<;>omega|decide) only [rUz,↓reduceIte,reduceEqDiff,reduceAdd]
   repeat refine S.seq ?_
   refine S.region ?_
   simp (disch:=first|omega|simp only [aA,aB]<;>omega|decide) only [rUz,↓reduceIte,reduceEqDiff,reduceAdd,t9]
   refine hn (k + 1) _ _ (by omega) ⟨by omega,rfl,?_,?_,?_,max2 x y,?_,hx⟩
   all_goals (first|rfl|(simp (disch:=first|omega|simp only [aA,aB]<;>omega|decide) only [rUz,↓reduceIte,reduceEqDiff,reduceAdd,t7,t8,t9]<;>rfl))
  ·have hkn:k = l.length:=by have:=of_decide_eq_false e; omega
   subst hkn
   rw [List.drop_of_length_le (Nat.le_refl _),List.foldl_nil] at hx
   subst hx
   refine S.exit (he _ _ _ _ (fun e=>by cases e) ?_)
   simp (disch:=first|omega|simp only [aA,aB]<;>omega|decide) only [rUz,↓reduceIte,reduceEqDiff,reduceAdd]
   repeat refine S.seq ?_
   refine S.region ?_
   simp (disch:=first|omega|simp only [aA,aB]<;>omega|decide) only [rUz,↓reduceIte,reduceEqDiff,reduceAdd,t0]
   refine S.ret ?_
   try simp only [aJ,aF]
   subst hF
   simp only [finish,aI]
   rw [show Tryz.f92.results.toList = [.tmp 4] from rfl]
   simp (disch:=first|omega|simp only [aA,aB]<;>omega|decide) only [bK,aY,aS,aT,aQ,aU,aO,upd_ne,aP,aW,result1]
   exact hK _ _ Kp.refl ⟨rfl,rfl⟩
 ·refine ⟨Nat.zero_le _,rfl,?_,?_,?_,a,?_,rfl⟩
  all_goals (first|rfl|(simp (disch:=first|omega|simp only [aA,aB]<;>omega|decide) only [rUz,↓reduceIte,reduceEqDiff,reduceAdd]<;>rfl))
def IL (l:List Int) (a:Int) (h0:AHeap) (v:Value) (k:Nat) (t:T Value) (h:AHeap):Prop:=
 k ≤ l.length ∧ h = h0 ∧ tget t 7 = v ∧ tget t 8 = iv (l.length:Int) ∧ tget t 9 = iv (k:Int) ∧ ∃ x,tget t 0 = iv x ∧ (l.drop k).foldl min2 x = l.foldl min2 a
theorem least_y (S:Ev.Steps Tryz.prog pr R) (h0:AHeap) (a:Int) (v:Value) (l:List Int) (hl:IAt h0 v l) (hsz:(l.length:Int) ≤ 1000000) :
  bD Tryz.prog R 88 [iv a,v] h0 fun u h=>u = iv (l.foldl min2 a) ∧ h = h0:=by
 refine aV (fn:=Tryz.f88) (c:=(Tryz.f88.body).getD .skip) (by kernel_rfl) rfl (by kernel_rfl) rfl (fun K hK=>?_)
 generalize hF:finish Tryz.prog Tryz.f88 K = KF
 simp only [Tryz.f88,Option.getD_some,bJ,aX,aZ,T.setK_eq,id]
 have hlen:=fun t h1 o=>hl.len isI t h1 o
 repeat refine S.seq ?_
 refine S.region ?_
 simp (disch:=first|omega|simp only [aA,aB]<;>omega|decide) only [rUz,↓reduceIte,reduceEqDiff,reduceAdd]
 repeat refine S.seq ?_
 refine S.region ?_
 simp (disch:=first|omega|simp only [aA,aB]<;>omega|decide) only [rUz,↓reduceIte,reduceEqDiff,reduceAdd,hlen]
 repeat refine S.seq ?_
 refine S.block ?_
 refine S.loop (ι:=Nat) (IL l a h0 v) (fun k=>l.length - k) ?_ 0 _ _ ?_
 ·intro k t h ⟨hk,hh,t7,t8,t9,x,t0,hx⟩ K' hn he
  subst hh
  repeat refine S.seq ?_
  refine S.region ?_
  simp (disch:=first|omega|simp only [aA,aB]<;>omega|decide) only [rUz,↓reduceIte,reduceEqDiff,reduceAdd,t8,t9]
  repeat refine S.seq ?_
  refine S.cond (v:=decide ((k:Int) < (l.length:Int))) (by first|rfl|(simp (disch:=first|omega|simp only [aA,aB]<;>omega|decide) only [rUz,↓reduceIte,reduceEqDiff,reduceAdd]<;>rfl)) (fun e=>?_) (fun e=>?_)
  ·have hkn:k < l.length:=by have:=of_decide_eq_true e; omega
   clear e
   obtain ⟨b,f,ro,q1,q2,q3,q4⟩:=hl.idx slI s3' hkn
   rw [List.drop_eq_getElem_cons hkn,List.foldl_cons] at hx
   generalize l[k] = y at q4 hx
   repeat refine S.seq ?_
   refine S.skip ?_
   simp (disch:=first|omega|simp only [aA,aB]<;>omega|decide) only [rUz,↓reduceIte,reduceEqDiff,reduceAdd]
   repeat refine S.seq ?_
   refine S.block ?_
   repeat refine S.seq ?_
   refine S.region ?_
   simp (disch:=first|omega|simp only [aA,aB]<;>omega|decide) only [rUz,↓reduceIte,reduceEqDiff,reduceAdd,t7,t9,q1,q3,p3,q4]
   repeat refine S.seq ?_
   refine S.region ?_
   simp (disch:=first|omega|simp only [aA,aB]<;>omega|decide) only [rUz,↓reduceIte,reduceEqDiff,reduceAdd,t0,sZ,w_min]
   refine dG (v:=iv (min2 x y)) (oU (t':=T.set 15 (T.set 14 .leaf 13 (iv x)) 14 (iv y)) (u:=iv x) (v:=iv y) ?_ ?_ (by kernel_rfl) (by kernel_rfl) (by kernel_rfl)) ?_
   ·simp (disch:=first|omega|simp only [aA,aB]<;>omega|decide) only [rUz,↓reduceIte,reduceEqDiff,reduceAdd,t0]
   ·simp (disch:=first|omega|simp only [aA,aB]<;>omega|decide) only [rUz,↓reduceIte,reduceEqDiff,reduceAdd]
   simp (disch:=first|omega|simp only [aA,aB]<;>omega|decide) only [rUz,↓reduceIte,reduceEqDiff,reduceAdd]
   repeat refine S.seq ?_
   refine S.region ?_
   simp (disch:=first|omega|simp only [aA,aB]<;>omega|decide) only [rUz,↓reduceIte,reduceEqDiff,reduceAdd,t9]
   refine hn (k + 1) _ _ (by omega) ⟨by omega,rfl,?_,?_,?_,min2 x y,?_,hx⟩
   all_goals (first|rfl|(simp (disch:=first|omega|simp only [aA,aB]<;>omega|decide) only [rUz,↓reduceIte,reduceEqDiff,reduceAdd,t7,t8,t9]<;>rfl))
  ·have hkn:k = l.length:=by have:=of_decide_eq_false e; omega
   subst hkn
   rw [List.drop_of_length_le (Nat.le_refl _),List.foldl_nil] at hx
   subst hx
   refine S.exit (he _ _ _ _ (fun e=>by cases e) ?_)
   simp (disch:=first|omega|simp only [aA,aB]<;>omega|decide) only [rUz,↓reduceIte,reduceEqDiff,reduceAdd]
   repeat refine S.seq ?_
   refine S.region ?_
   simp (disch:=first|omega|simp only [aA,aB]<;>omega|decide) only [rUz,↓reduceIte,reduceEqDiff,reduceAdd,t0]
   refine S.ret ?_
   try simp only [aJ,aF]
   subst hF
   simp only [finish,aI]
   rw [show Tryz.f88.results.toList = [.tmp 4] from rfl]
   simp (disch:=first|omega|simp only [aA,aB]<;>omega|decide) only [bK,aY,aS,aT,aQ,aU,aO,upd_ne,aP,aW,result1]
   exact hK _ _ Kp.refl ⟨rfl,rfl⟩
 ·refine ⟨Nat.zero_le _,rfl,?_,?_,?_,a,?_,rfl⟩
  all_goals (first|rfl|(simp (disch:=first|omega|simp only [aA,aB]<;>omega|decide) only [rUz,↓reduceIte,reduceEqDiff,reduceAdd]<;>rfl))
/-! ## Comparisons -/
def jT (a b:Int):Int:=bif decide (a < b) then -1 else bif decide (b < a) then 1 else 0
def orZ:List Int → Int
 | []=>0
 | a :: r=>bif decide (a = 0) then orZ r else a
theorem isNaN_y (S:Ev.Steps Tryz.prog pr R) (h0:AHeap) (a:Int):bD Tryz.prog R 120 [iv a] h0 fun u h=>u = .bool false ∧ h = h0:=by
 refine aV (fn:=Tryz.f120) (c:=(Tryz.f120.body).getD .skip) (by kernel_rfl) rfl (by kernel_rfl) rfl (fun K hK=>?_)
 generalize hF:finish Tryz.prog Tryz.f120 K = KF
 simp only [Tryz.f120,Option.getD_some,bJ,aX,aZ,T.setK_eq,id]
 have hdd:decide (a = a) = true:=decide_eq_true rfl
 repeat refine S.seq ?_
 refine S.region ?_
 simp (disch:=first|omega|simp only [aA,aB]<;>omega|decide) only [rUz,↓reduceIte,reduceEqDiff,reduceAdd]
 repeat refine S.seq ?_
 refine S.region ?_
 simp (disch:=first|omega|simp only [aA,aB]<;>omega|decide) only [rUz,↓reduceIte,reduceEqDiff,reduceAdd,hdd,Bool.not_true]
 refine S.ret ?_
 try simp only [aJ,aF]
 subst hF
 simp only [finish,aI]
 rw [show Tryz.f120.results.toList = [.tmp 2] from rfl]
 simp (disch:=first|omega|simp only [aA,aB]<;>omega|decide) only [bK,aY,aS,aT,aQ,aU,aO,upd_ne,aP,aW,result1]
 exact hK _ _ Kp.refl ⟨rfl,rfl⟩
theorem uZ (S:Ev.Steps Tryz.prog pr R) (hoff:Off pr) (h0:AHeap) (a b:Int):bD Tryz.prog R 106 [iv a,iv b] h0 fun u h=>u = iv (jT a b) ∧ h = h0:=by
 refine aV (fn:=Tryz.f106) (c:=(Tryz.f106.body).getD .skip) (by kernel_rfl) rfl (by kernel_rfl) rfl (fun K hK=>?_)
 generalize hF:finish Tryz.prog Tryz.f106 K = KF
 simp only [Tryz.f106,Option.getD_some,bJ,aX,aZ,T.setK_eq,id]
 unfold jT at hK
 repeat refine S.seq ?_
 refine S.region ?_
 simp (disch:=first|omega|simp only [aA,aB]<;>omega|decide) only [rUz,↓reduceIte,reduceEqDiff,reduceAdd]
 repeat refine S.seq ?_
 refine S.region ?_
 simp (disch:=first|omega|simp only [aA,aB]<;>omega|decide) only [rUz,↓reduceIte,reduceEqDiff,reduceAdd]
 refine bC (fid:=120) (first:=#[]) (captured:=#[]) (Post:=fun u h=>u = .bool false ∧ h = h0) rfl (hoff _ _ _ rfl) (by simp (disch:=first|omega|simp only [aA,aB]<;>omega|decide) only [rUz,↓reduceIte,reduceEqDiff,reduceAdd]; exact isNaN_y S h0 a) ?_
 rintro u g - ⟨rfl,rfl⟩
 simp (disch:=first|omega|simp only [aA,aB]<;>omega|decide) only [rUz,↓reduceIte,reduceEqDiff,reduceAdd]
 repeat refine S.seq ?_
 refine S.region ?_
 simp (disch:=first|omega|simp only [aA,aB]<;>omega|decide) only [rUz,↓reduceIte,reduceEqDiff,reduceAdd]
 refine bC (fid:=120) (first:=#[]) (captured:=#[]) (Post:=fun u h=>u = .bool false ∧ h = g) rfl (hoff _ _ _ rfl) (by simp (disch:=first|omega|simp only [aA,aB]<;>omega|decide) only [rUz,↓reduceIte,reduceEqDiff,reduceAdd]; exact isNaN_y S g b) ?_
 rintro u g2 - ⟨rfl,rfl⟩
 simp (disch:=first|omega|simp only [aA,aB]<;>omega|decide) only [rUz,↓reduceIte,reduceEqDiff,reduceAdd]
 repeat refine S.seq ?_
 refine S.region ?_
 simp (disch:=first|omega|simp only [aA,aB]<;>omega|decide) only [rUz,↓reduceIte,reduceEqDiff,reduceAdd]
 repeat refine S.seq ?_
 refine S.cond (v:=false) (by first|rfl|(simp (disch:=first|omega|simp only [aA,aB]<;>omega|decide) only [rUz,↓reduceIte,reduceEqDiff,reduceAdd]<;>rfl)) (fun e=>by cases e) (fun _=>?_)
 repeat refine S.seq ?_
 refine S.skip ?_
 simp (disch:=first|omega|simp only [aA,aB]<;>omega|decide) only [rUz,↓reduceIte,reduceEqDiff,reduceAdd]
 repeat refine S.seq ?_
 refine S.region ?_
 simp (disch:=first|omega|simp only [aA,aB]<;>omega|decide) only [rUz,↓reduceIte,reduceEqDiff,reduceAdd]
 repeat refine S.seq ?_
 refine S.cond (v:=false) (by first|rfl|(simp (disch:=first|omega|simp only [aA,aB]<;>omega|decide) only [rUz,↓reduceIte,reduceEqDiff,reduceAdd]<;>rfl)) (fun e=>by cases e) (fun _=>?_)
 repeat refine S.seq ?_
 refine S.skip ?_
 simp (disch:=first|omega|simp only [aA,aB]<;>omega|decide) only [rUz,↓reduceIte,reduceEqDiff,reduceAdd]
 cases h1:decide (a < b) with
 | true =>
  rw [h1,cond_true] at hK
  repeat refine S.seq ?_
  refine S.region ?_
  simp (disch:=first|omega|simp only [aA,aB]<;>omega|decide) only [rUz,↓reduceIte,reduceEqDiff,reduceAdd,h1]
  repeat refine S.seq ?_
  refine S.cond (v:=true) (by first|rfl|(simp (disch:=first|omega|simp only [aA,aB]<;>omega|decide) only [rUz,↓reduceIte,reduceEqDiff,reduceAdd]<;>rfl)) (fun _=>?_) (fun e=>by cases e)
  repeat refine S.seq ?_
  refine S.region ?_
  simp (disch:=first|omega|simp only [aA,aB]<;>omega|decide) only [rUz,↓reduceIte,reduceEqDiff,reduceAdd]
  refine S.ret ?_
  try simp only [aJ,aF]
  subst hF
  simp only [finish,aI]
  rw [show Tryz.f106.results.toList = [.tmp 4] from rfl]
  simp (disch:=first|omega|simp only [aA,aB]<;>omega|decide) only [bK,aY,aS,aT,aQ,aU,aO,upd_ne,aP,aW,result1]
  exact hK _ _ Kp.refl ⟨rfl,rfl⟩
 | false =>
 rw [h1,cond_false] at hK
 repeat refine S.seq ?_
 refine S.region ?_
 simp (disch:=first|omega|simp only [aA,aB]<;>omega|decide) only [rUz,↓reduceIte,reduceEqDiff,reduceAdd,h1]
 repeat refine S.seq ?_
 refine S.cond (v:=false) (by first|rfl|(simp (disch:=first|omega|simp only [aA,aB]<;>omega|decide) only [rUz,↓reduceIte,reduceEqDiff,reduceAdd]<;>rfl)) (fun e=>by cases e) (fun _=>?_)
 repeat refine S.seq ?_
 refine S.skip ?_
 simp (disch:=first|omega|simp only [aA,aB]<;>omega|decide) only [rUz,↓reduceIte,reduceEqDiff,reduceAdd]
 cases h2:decide (b < a) with
 | true =>
  rw [h2,cond_true] at hK
  repeat refine S.seq ?_
  refine S.region ?_
  simp (disch:=first|omega|simp only [aA,aB]<;>omega|decide) only [rUz,↓reduceIte,reduceEqDiff,reduceAdd,h2]
  repeat refine S.seq ?_
  refine S.cond (v:=true) (by first|rfl|(simp (disch:=first|omega|simp only [aA,aB]<;>omega|decide) only [rUz,↓reduceIte,reduceEqDiff,reduceAdd]<;>rfl)) (fun _=>?_) (fun e=>by cases e)
  repeat refine S.seq ?_
  refine S.region ?_
  simp (disch:=first|omega|simp only [aA,aB]<;>omega|decide) only [rUz,↓reduceIte,reduceEqDiff,reduceAdd]
  refine S.ret ?_
  try simp only [aJ,aF]
  subst hF
  simp only [finish,aI]
  rw [show Tryz.f106.results.toList = [.tmp 4] from rfl]
  simp (disch:=first|omega|simp only [aA,aB]<;>omega|decide) only [bK,aY,aS,aT,aQ,aU,aO,upd_ne,aP,aW,result1]
  exact hK _ _ Kp.refl ⟨rfl,rfl⟩
 | false =>
 rw [h2,cond_false] at hK
 repeat refine S.seq ?_
 refine S.region ?_
 simp (disch:=first|omega|simp only [aA,aB]<;>omega|decide) only [rUz,↓reduceIte,reduceEqDiff,reduceAdd,h2]
 repeat refine S.seq ?_
 refine S.cond (v:=false) (by first|rfl|(simp (disch:=first|omega|simp only [aA,aB]<;>omega|decide) only [rUz,↓reduceIte,reduceEqDiff,reduceAdd]<;>rfl)) (fun e=>by cases e) (fun _=>?_)
 repeat refine S.seq ?_
 refine S.skip ?_
 simp (disch:=first|omega|simp only [aA,aB]<;>omega|decide) only [rUz,↓reduceIte,reduceEqDiff,reduceAdd]
 repeat refine S.seq ?_
 refine S.region ?_
 simp (disch:=first|omega|simp only [aA,aB]<;>omega|decide) only [rUz,↓reduceIte,reduceEqDiff,reduceAdd]
 refine S.ret ?_
 try simp only [aJ,aF]
 subst hF
 simp only [finish,aI]
 rw [show Tryz.f106.results.toList = [.tmp 4] from rfl]
 simp (disch:=first|omega|simp only [aA,aB]<;>omega|decide) only [bK,aY,aS,aT,aQ,aU,aO,upd_ne,aP,aW,result1]
 exact hK _ _ Kp.refl ⟨rfl,rfl⟩
def IOr (l:List Int) (h0:AHeap) (v:Value) (k:Nat) (t:T Value) (h:AHeap):Prop:=
 k ≤ l.length ∧ h = h0 ∧ tget t 3 = iv 0 ∧ tget t 6 = v ∧ tget t 7 = iv (l.length:Int) ∧ tget t 8 = iv (k:Int) ∧ orZ (l.drop k) = orZ l
theorem or_y (S:Ev.Steps Tryz.prog pr R) (h0:AHeap) (v:Value) (l:List Int) (hl:IAt h0 v l) (hsz:(l.length:Int) ≤ 1000000) :
  bD Tryz.prog R 105 [v] h0 fun u h=>u = iv (orZ l) ∧ h = h0:=by
 refine aV (fn:=Tryz.f105) (c:=(Tryz.f105.body).getD .skip) (by kernel_rfl) rfl (by kernel_rfl) rfl (fun K hK=>?_)
 generalize hF:finish Tryz.prog Tryz.f105 K = KF
 simp only [Tryz.f105,Option.getD_some,bJ,aX,aZ,T.setK_eq,id]
 have hlen:=fun t h1 o=>hl.len isI t h1 o
 repeat refine S.seq ?_
 refine S.region ?_
 simp (disch:=first|omega|simp only [aA,aB]<;>omega|decide) only [rUz,↓reduceIte,reduceEqDiff,reduceAdd]
 repeat refine S.seq ?_
 refine S.region ?_
 simp (disch:=first|omega|simp only [aA,aB]<;>omega|decide) only [rUz,↓reduceIte,reduceEqDiff,reduceAdd]
 repeat refine S.seq ?_
 refine S.region ?_
 simp (disch:=first|omega|simp only [aA,aB]<;>omega|decide) only [rUz,↓reduceIte,reduceEqDiff,reduceAdd,hlen]
 repeat refine S.seq ?_
 refine S.block ?_
 refine S.loop (ι:=Nat) (IOr l h0 v) (fun k=>l.length - k) ?_ 0 _ _ ?_
 ·intro k t h ⟨hk,hh,t3,t6,t7,t8,hx⟩ K' hn he
  subst hh
  repeat refine S.seq ?_
  refine S.region ?_
  simp (disch:=first|omega|simp only [aA,aB]<;>omega|decide) only [rUz,↓reduceIte,reduceEqDiff,reduceAdd,t7,t8]
  repeat refine S.seq ?_
  refine S.cond (v:=decide ((k:Int) < (l.length:Int))) (by first|rfl|(simp (disch:=first|omega|simp only [aA,aB]<;>omega|decide) only [rUz,↓reduceIte,reduceEqDiff,reduceAdd]<;>rfl)) (fun e=>?_) (fun e=>?_)
  ·have hkn:k < l.length:=by have:=of_decide_eq_true e; omega
   clear e
   obtain ⟨b,f,ro,q1,q2,q3,q4⟩:=hl.idx slI s3' hkn
   rw [List.drop_eq_getElem_cons hkn,orZ] at hx
   generalize l[k] = y at q4 hx
   repeat refine S.seq ?_
   refine S.skip ?_
   simp (disch:=first|omega|simp only [aA,aB]<;>omega|decide) only [rUz,↓reduceIte,reduceEqDiff,reduceAdd]
   repeat refine S.seq ?_
   refine S.block ?_
   repeat refine S.seq ?_
   refine S.region ?_
   simp (disch:=first|omega|simp only [aA,aB]<;>omega|decide) only [rUz,↓reduceIte,reduceEqDiff,reduceAdd,t6,t8,q1,q3,p3,q4]
   cases h1:decide (y = 0) with
   | false =>
    rw [h1,cond_false] at hx
    repeat refine S.seq ?_
    refine S.region ?_
    simp (disch:=first|omega|simp only [aA,aB]<;>omega|decide) only [rUz,↓reduceIte,reduceEqDiff,reduceAdd,t3,h1,Bool.not_false]
    repeat refine S.seq ?_
    refine S.cond (v:=true) (by first|rfl|(simp (disch:=first|omega|simp only [aA,aB]<;>omega|decide) only [rUz,↓reduceIte,reduceEqDiff,reduceAdd]<;>rfl)) (fun _=>?_) (fun e=>by cases e)
    repeat refine S.seq ?_
    refine S.region ?_
    simp (disch:=first|omega|simp only [aA,aB]<;>omega|decide) only [rUz,↓reduceIte,reduceEqDiff,reduceAdd]
    refine S.ret ?_
    simp only [aJ,aF]
    refine he _ _ _ _ (fun e=>by cases e) ?_
    try simp only [aJ,aF]
    subst hF
    simp only [finish,aI]
    rw [show Tryz.f105.results.toList = [.tmp 2] from rfl]
    simp (disch:=first|omega|simp only [aA,aB]<;>omega|decide) only [bK,aY,aS,aT,aQ,aU,aO,upd_ne,aP,aW,result1]
    exact hK _ _ Kp.refl ⟨by rw [hx],rfl⟩
   | true =>
    rw [h1,cond_true] at hx
    repeat refine S.seq ?_
    refine S.region ?_
    simp (disch:=first|omega|simp only [aA,aB]<;>omega|decide) only [rUz,↓reduceIte,reduceEqDiff,reduceAdd,t3,h1,Bool.not_true]
    repeat refine S.seq ?_
    refine S.cond (v:=false) (by first|rfl|(simp (disch:=first|omega|simp only [aA,aB]<;>omega|decide) only [rUz,↓reduceIte,reduceEqDiff,reduceAdd]<;>rfl)) (fun e=>by cases e) (fun _=>?_)
    repeat refine S.seq ?_
    refine S.skip ?_
    simp (disch:=first|omega|simp only [aA,aB]<;>omega|decide) only [rUz,↓reduceIte,reduceEqDiff,reduceAdd]
    repeat refine S.seq ?_
    refine S.region ?_
    simp (disch:=first|omega|simp only [aA,aB]<;>omega|decide) only [rUz,↓reduceIte,reduceEqDiff,reduceAdd,t8]
    refine hn (k + 1) _ _ (by omega) ⟨by omega,rfl,?_,?_,?_,?_,hx⟩
    all_goals (first|rfl|(simp (disch:=first|omega|simp only [aA,aB]<;>omega|decide) only [rUz,↓reduceIte,reduceEqDiff,reduceAdd,t3,t6,t7,t8]<;>rfl))
  ·have hkn:k = l.length:=by have:=of_decide_eq_false e; omega
   subst hkn
   rw [List.drop_of_length_le (Nat.le_refl _)] at hx
   refine S.exit (he _ _ _ _ (fun e=>by cases e) ?_)
   simp (disch:=first|omega|simp only [aA,aB]<;>omega|decide) only [rUz,↓reduceIte,reduceEqDiff,reduceAdd]
   repeat refine S.seq ?_
   refine S.region ?_
   simp (disch:=first|omega|simp only [aA,aB]<;>omega|decide) only [rUz,↓reduceIte,reduceEqDiff,reduceAdd,t3]
   refine S.ret ?_
   try simp only [aJ,aF]
   subst hF
   simp only [finish,aI]
   rw [show Tryz.f105.results.toList = [.tmp 2] from rfl]
   simp (disch:=first|omega|simp only [aA,aB]<;>omega|decide) only [bK,aY,aS,aT,aQ,aU,aO,upd_ne,aP,aW,result1]
   exact hK _ _ Kp.refl ⟨by rw [← hx]; rfl,rfl⟩
 ·refine ⟨Nat.zero_le _,rfl,?_,?_,?_,?_,rfl⟩
  all_goals (first|rfl|(simp (disch:=first|omega|simp only [aA,aB]<;>omega|decide) only [rUz,↓reduceIte,reduceEqDiff,reduceAdd]<;>rfl))
/-! ## An order at a price -/
def oM (x:Od) (p:Int):Bool:=bif x.b then decide (p ≤ x.l) else decide (x.l ≤ p)
theorem isAt_y (S:Ev.Steps Tryz.prog pr R) (h0:AHeap) (x:Od) (p:Int):bD Tryz.prog R 104 [.agg ⟨cOd x⟩,iv p] h0 fun u h=>u = .bool (oM x p) ∧ h = h0.add (cOd x):=by
 refine aV (fn:=Tryz.f104) (c:=(Tryz.f104.body).getD .skip) (by kernel_rfl) rfl (by kernel_rfl) rfl (fun K hK=>?_)
 generalize hF:finish Tryz.prog Tryz.f104 K = KF
 simp only [Tryz.f104,Option.getD_some,bJ,aX,aZ,T.setK_eq,id]
 have hK':∀ b,b = oM x p → K (.bool b) (h0.add (cOd x)) = true:=fun b e=>hK _ _ Kp.refl.add ⟨by rw [e],rfl⟩
 clear hK
 unfold oM at hK'
 repeat refine S.seq ?_
 refine S.region ?_
 simp (disch:=first|omega|simp only [aA,aB]<;>omega|decide) only [rUz,↓reduceIte,reduceEqDiff,reduceAdd]
 repeat refine S.seq ?_
 refine S.region ?_
 simp (disch:=first|omega|simp only [aA,aB]<;>omega|decide) only [rUz,↓reduceIte,reduceEqDiff,reduceAdd,aC fcO0 sb,pb,cOd0]
 cases hb:x.b with
 | true =>
  rw [hb,cond_true] at hK'
  repeat refine S.seq ?_
  refine S.cond (v:=true) (by first|rfl|(simp (disch:=first|omega|simp only [aA,aB]<;>omega|decide) only [rUz,↓reduceIte,reduceEqDiff,reduceAdd,hb]<;>rfl)) (fun _=>?_) (fun e=>by cases e)
  repeat refine S.seq ?_
  refine S.region ?_
  simp (disch:=first|omega|simp only [aA,aB]<;>omega|decide) only [rUz,↓reduceIte,reduceEqDiff,reduceAdd,aC fcO1 s3,p3,cOd1]
  refine S.ret ?_
  try simp only [aJ,aF]
  subst hF
  simp only [finish,aI]
  rw [show Tryz.f104.results.toList = [.tmp 4] from rfl]
  simp (disch:=first|omega|simp only [aA,aB]<;>omega|decide) only [bK,aY,aS,aT,aQ,aU,aO,upd_ne,aP,aW,result1]
  exact hK' _ rfl
 | false =>
  rw [hb,cond_false] at hK'
  repeat refine S.seq ?_
  refine S.cond (v:=false) (by first|rfl|(simp (disch:=first|omega|simp only [aA,aB]<;>omega|decide) only [rUz,↓reduceIte,reduceEqDiff,reduceAdd,hb]<;>rfl)) (fun e=>by cases e) (fun _=>?_)
  repeat refine S.seq ?_
  refine S.skip ?_
  simp (disch:=first|omega|simp only [aA,aB]<;>omega|decide) only [rUz,↓reduceIte,reduceEqDiff,reduceAdd]
  repeat refine S.seq ?_
  refine S.region ?_
  simp (disch:=first|omega|simp only [aA,aB]<;>omega|decide) only [rUz,↓reduceIte,reduceEqDiff,reduceAdd,aC fcO1 s3,p3,cOd1]
  refine S.ret ?_
  try simp only [aJ,aF]
  subst hF
  simp only [finish,aI]
  rw [show Tryz.f104.results.toList = [.tmp 4] from rfl]
  simp (disch:=first|omega|simp only [aA,aB]<;>omega|decide) only [bK,aY,aS,aT,aQ,aU,aO,upd_ne,aP,aW,result1]
  exact hK' _ rfl
end Go.Proofs.Po
