import Derived.Test.YthgmipngikdknaaGreatPoR
/- What is filled of an order, by the reference. -/
namespace Go.Proofs.Po
open Nat (reduceEqDiff reduceAdd reduceSub)
open Go Go.Ev Go.RowKit
set_option linter.unusedSimpArgs false
variable {pr:Prim} {R:ExT}
theorem tr2 (b:Bool):b = true ∨ b = false:=by cases b<;>simp
def vH (s:Sa) (w:Int):Bool:=decide (s.bu = w) || decide (s.se = w)
def fnZ (w:Int):List Sa → Int
 | []=>0
 | s :: l=>(bif vH s w then s.nu else 0) + fnZ w l
def fmZ (w:Int):List Sa → Int
 | []=>0
 | s :: l=>(bif vH s w then s.nu * s.pr else 0) + fmZ w l
theorem fnZ_snoc (w:Int) (s:Sa):∀ l,fnZ w (l ++ [s]) = fnZ w l + bif vH s w then s.nu else 0
 | []=>by simp [fnZ]
 | x :: l=>by simp only [List.cons_append,fnZ,fnZ_snoc w s l]; omega
theorem fmZ_snoc (w:Int) (s:Sa):∀ l,fmZ w (l ++ [s]) = fmZ w l + bif vH s w then s.nu * s.pr else 0
 | []=>by simp [fmZ]
 | x :: l=>by simp only [List.cons_append,fmZ,fmZ_snoc w s l]; omega
/-- Sales of use: their numbers and prices are small. -/
structure SaOk (s:Sa):Prop where
 n0:0 ≤ s.nu
 n1:s.nu ≤ 20
 p0:0 ≤ s.pr
 p1:s.pr ≤ 100
theorem sa_mul {s:Sa} (h:SaOk s):0 ≤ s.nu * s.pr ∧ s.nu * s.pr ≤ 2000:=by
 refine ⟨Int.mul_nonneg h.n0 h.p0,?_⟩
 have h1:=Int.mul_le_mul_of_nonneg_right h.n1 h.p0
 have:=h.p1
 omega
theorem fnZ_bnd (w:Int):∀ l:List Sa,(∀ s,s ∈ l → SaOk s) → 0 ≤ fnZ w l ∧ fnZ w l ≤ 20 * (l.length:Int)
 | [],_=>by simp [fnZ]
 | s :: l,h=>by
  have ih:=fnZ_bnd w l fun x hx=>h x (by simp [hx])
  have hs:=h s (by simp)
  have a:=hs.n0
  have b:=hs.n1
  rw [List.length_cons]
  unfold fnZ
  cases vH s w with
  | true=>rw [cond_true]; omega
  | false=>rw [cond_false]; omega
theorem fmZ_bnd (w:Int):∀ l:List Sa,(∀ s,s ∈ l → SaOk s) → 0 ≤ fmZ w l ∧ fmZ w l ≤ 2000 * (l.length:Int)
 | [],_=>by simp [fmZ]
 | s :: l,h=>by
  have ih:=fmZ_bnd w l fun x hx=>h x (by simp [hx])
  have hs:=sa_mul (h s (by simp))
  rw [List.length_cons]
  unfold fmZ
  cases vH s w with
  | true=>rw [cond_true]; omega
  | false=>rw [cond_false]; omega
structure IFl (l:List Sa) (w:Int) (H:AHeap) (sv:Value) (k:Nat) (t:T Value) (h:AHeap):Prop where
 hh:h = H
 t0:tget t 0 = sv
 t1:tget t 1 = iv w
 t6:tget t 6 = iv (fnZ w (l.take k))
 t7:tget t 7 = iv (fmZ w (l.take k))
 t8:tget t 8 = iv (k:Int)
 hk:k ≤ l.length
set_option maxHeartbeats 8000000 in
theorem filled_y (S:Ev.Steps Tryz.prog pr R) (h0:AHeap) (sv:Value) (l:List Sa) (w:Int) (hs:SlAt h0 4 sv (l.map cSa)) (hok:∀ s,s ∈ l → SaOk s) (hl:l.length ≤ 1000) :
  bD Tryz.prog R 32 [sv,iv w] h0 fun u h=>u = .tuple ⟨[iv (fnZ w l),iv (fmZ w l)]⟩ ∧ h0 = h:=by
 refine aW (fn:=Tryz.f32) (c:=(Tryz.f32.body).getD .skip) (by kernel_rfl) rfl (by kernel_rfl) rfl (fun K hK=>?_)
 generalize hF:finish Tryz.prog Tryz.f32 K = KF
 simp only [Tryz.f32,Option.getD_some,bI,aZ,bC,T.setK_eq,id]
 have ls:=fun t h1 o=>dI hs isrS t h1 o
 repeat refine S.seq ?_
 refine S.region ?_
 simp (disch:=first|omega|simp only [aA,aB]<;>omega|decide) only [rUz,↓reduceIte,reduceEqDiff,reduceAdd]
 repeat refine S.seq ?_
 refine S.region ?_
 simp (disch:=first|omega|simp only [aA,aB]<;>omega|decide) only [rUz,↓reduceIte,reduceEqDiff,reduceAdd]
 repeat refine S.seq ?_
 refine S.region ?_
 simp (disch:=first|omega|simp only [aA,aB]<;>omega|decide) only [rUz,↓reduceIte,reduceEqDiff,reduceAdd]
 repeat refine S.seq ?_
 refine S.block ?_
 refine S.loop (ι:=Nat) (IFl l w h0 sv) (fun k=>l.length - k) ?_ 0 _ _ ?_
 rotate_left
 ·refine ⟨rfl,?_,?_,?_,?_,?_,Nat.zero_le _⟩
  all_goals (first|rfl|(simp (disch:=first|omega|simp only [aA,aB]<;>omega|decide) only [rUz,↓reduceIte,reduceEqDiff,reduceAdd,List.take_zero,fnZ,fmZ]<;>rfl))
 intro k t h ⟨hh,t0,t1,t6,t7,t8,hk⟩ K' hn he
 subst hh
 repeat refine S.seq ?_
 refine S.region ?_
 simp (disch:=first|omega|simp only [aA,aB]<;>omega|decide) only [rUz,↓reduceIte,reduceEqDiff,reduceAdd,t0,t8,ls]
 repeat refine S.seq ?_
 refine S.cond (v:=decide ((k:Int) < (l.length:Int))) (by first|rfl|(simp (disch:=first|omega|simp only [aA,aB]<;>omega|decide) only [rUz,↓reduceIte,reduceEqDiff,reduceAdd]<;>rfl)) (fun e=>?_) (fun e=>?_)
 ·have hkn:k < l.length:=by have:=of_decide_eq_true e; omega
  clear e
  have hps:l[k]? = some l[k]:=List.getElem?_eq_getElem hkn
  have hz:=hok _ (List.getElem_mem hkn)
  have htk:l.take (k + 1) = l.take k ++ [l[k]]:=by rw [List.take_add_one,hps]; rfl
  have b1:=fnZ_bnd w (l.take k) fun x hx=>hok x (List.mem_of_mem_take hx)
  have b2:=fmZ_bnd w (l.take k) fun x hx=>hok x (List.mem_of_mem_take hx)
  have hlt:(l.take k).length = k:=by rw [List.length_take]; omega
  rw [hlt] at b1 b2
  generalize l[k] = z at hps hz htk
  have e1:=fnZ_snoc w z (l.take k)
  have e2:=fmZ_snoc w z (l.take k)
  rw [← htk] at e1 e2
  have hm:=sa_mul hz
  have n0:=hz.n0
  have n1:=hz.n1
  generalize fnZ w (l.take k) = X at t6 b1 e1
  generalize fmZ w (l.take k) = Y at t7 b2 e2
  obtain ⟨b,f,o,c,q1,q2,q3,q4,q5,q6⟩:=dH hs slrS srS hps
  have c0:=q6 0 _ (cSa0 z)
  have c1:=q6 1 _ (cSa1 z)
  have c2:=q6 2 _ (cSa2 z)
  have c3:=q6 3 _ (cSa3 z)
  rw [Nat.add_zero] at c0
  repeat refine S.seq ?_
  refine S.skip ?_
  simp (disch:=first|omega|simp only [aA,aB]<;>omega|decide) only [rUz,↓reduceIte,reduceEqDiff,reduceAdd]
  repeat refine S.seq ?_
  refine S.block ?_
  cases h1:vH z w with
  | false =>
   rw [h1,cond_false,Int.add_zero] at e1 e2
   have d1:decide (z.bu = w) = false:=by unfold vH at h1; rw [Bool.or_eq_false_iff] at h1; exact h1.1
   have d2:decide (z.se = w) = false:=by unfold vH at h1; rw [Bool.or_eq_false_iff] at h1; exact h1.2
   repeat refine S.seq ?_
   refine S.region ?_
   simp (disch:=first|omega|simp only [aA,aB]<;>omega|decide) only [rUz,↓reduceIte,reduceEqDiff,reduceAdd,t0,t1,t8,q1,q3,aC frS0 s3,aC frS1 s3,p3,c0,c1,d1,d2]
   repeat refine S.seq ?_
   refine S.cond (v:=false) (by first|rfl|(simp (disch:=first|omega|simp only [aA,aB]<;>omega|decide) only [rUz,↓reduceIte,reduceEqDiff,reduceAdd]<;>rfl)) (fun e=>by cases e) (fun _=>?_)
   repeat refine S.seq ?_
   refine S.skip ?_
   simp (disch:=first|omega|simp only [aA,aB]<;>omega|decide) only [rUz,↓reduceIte,reduceEqDiff,reduceAdd]
   repeat refine S.seq ?_
   refine S.region ?_
   simp (disch:=first|omega|simp only [aA,aB]<;>omega|decide) only [rUz,↓reduceIte,reduceEqDiff,reduceAdd,t8]
   refine hn (k + 1) _ _ (by omega) ⟨rfl,?_,?_,?_,?_,?_,by omega⟩
   all_goals (first|rfl|(simp (disch:=first|omega|simp only [aA,aB]<;>omega|decide) only [rUz,↓reduceIte,reduceEqDiff,reduceAdd,t0,t1,t6,t7,e1,e2]<;>rfl))
  | true =>
   rw [h1,cond_true] at e1 e2
   generalize hM:z.nu * z.pr = M at hm e2
   rcases tr2 (decide (z.bu = w)) with d1|d1
   ·repeat refine S.seq ?_
    refine S.region ?_
    simp (disch:=first|omega|simp only [aA,aB]<;>omega|decide) only [rUz,↓reduceIte,reduceEqDiff,reduceAdd,t0,t1,t8,q1,q3,aC frS0 s3,p3,c0,d1]
    repeat refine S.seq ?_
    refine S.cond (v:=true) (by first|rfl|(simp (disch:=first|omega|simp only [aA,aB]<;>omega|decide) only [rUz,↓reduceIte,reduceEqDiff,reduceAdd]<;>rfl)) (fun _=>?_) (fun e=>by cases e)
    repeat refine S.seq ?_
    refine S.drawnL [(false,0),(false,0),(false,0),(false,6),(false,14),(false,30),(false,63),(false,0),(false,0),(false,0),(false,768),(false,1792),(false,3840),(false,0),(false,0),(false,24576),(false,57344),(false,122880),(false,261888),(false,524160),(false,127),(false,2097151)] (by kernel_rfl) (by kernel_rfl) (by kernel_rfl) ?_
    simp (disch:=first|omega|simp only [aA,aB]<;>omega|decide) only [rUz,↓reduceIte,reduceEqDiff,reduceAdd,rDz,infoL,reduceSub,t0,t6,t7,t8,q1,q3,aC frS2 s3,aC frS3 s3,p3,c2,c3,hM]
    repeat refine S.seq ?_
    refine S.region ?_
    simp (disch:=first|omega|simp only [aA,aB]<;>omega|decide) only [rUz,↓reduceIte,reduceEqDiff,reduceAdd,t8]
    refine hn (k + 1) _ _ (by omega) ⟨rfl,?_,?_,?_,?_,?_,by omega⟩
    all_goals (first|rfl|(simp (disch:=first|omega|simp only [aA,aB]<;>omega|decide) only [rUz,↓reduceIte,reduceEqDiff,reduceAdd,t0,t1,e1,e2]<;>rfl))
   ·have d2:decide (z.se = w) = true:=by unfold vH at h1; rw [d1,Bool.false_or] at h1; exact h1
    repeat refine S.seq ?_
    refine S.region ?_
    simp (disch:=first|omega|simp only [aA,aB]<;>omega|decide) only [rUz,↓reduceIte,reduceEqDiff,reduceAdd,t0,t1,t8,q1,q3,aC frS0 s3,aC frS1 s3,p3,c0,c1,d1,d2]
    repeat refine S.seq ?_
    refine S.cond (v:=true) (by first|rfl|(simp (disch:=first|omega|simp only [aA,aB]<;>omega|decide) only [rUz,↓reduceIte,reduceEqDiff,reduceAdd]<;>rfl)) (fun _=>?_) (fun e=>by cases e)
    repeat refine S.seq ?_
    refine S.drawnL [(false,0),(false,0),(false,0),(false,6),(false,14),(false,30),(false,63),(false,0),(false,0),(false,0),(false,768),(false,1792),(false,3840),(false,0),(false,0),(false,24576),(false,57344),(false,122880),(false,261888),(false,524160),(false,127),(false,2097151)] (by kernel_rfl) (by kernel_rfl) (by kernel_rfl) ?_
    simp (disch:=first|omega|simp only [aA,aB]<;>omega|decide) only [rUz,↓reduceIte,reduceEqDiff,reduceAdd,rDz,infoL,reduceSub,t0,t6,t7,t8,q1,q3,aC frS2 s3,aC frS3 s3,p3,c2,c3,hM]
    repeat refine S.seq ?_
    refine S.region ?_
    simp (disch:=first|omega|simp only [aA,aB]<;>omega|decide) only [rUz,↓reduceIte,reduceEqDiff,reduceAdd,t8]
    refine hn (k + 1) _ _ (by omega) ⟨rfl,?_,?_,?_,?_,?_,by omega⟩
    all_goals (first|rfl|(simp (disch:=first|omega|simp only [aA,aB]<;>omega|decide) only [rUz,↓reduceIte,reduceEqDiff,reduceAdd,t0,t1,e1,e2]<;>rfl))
 have hkn:k = l.length:=by have:=of_decide_eq_false e; omega
 subst hkn
 rw [List.take_of_length_le (Nat.le_refl _)] at t6 t7
 refine S.exit (he _ _ _ _ (fun e=>by cases e) ?_)
 simp (disch:=first|omega|simp only [aA,aB]<;>omega|decide) only [rUz,↓reduceIte,reduceEqDiff,reduceAdd]
 repeat refine S.seq ?_
 refine S.region ?_
 simp (disch:=first|omega|simp only [aA,aB]<;>omega|decide) only [rUz,↓reduceIte,reduceEqDiff,reduceAdd,t6,t7]
 refine S.ret ?_
 try simp only [aI,aF]
 subst hF
 simp only [finish,aJ]
 rw [show Tryz.f32.results.toList = [.tmp 4,.tmp 5] from rfl]
 simp (disch:=first|omega|simp only [aA,aB]<;>omega|decide) only [bH,aY,aQ,aS,aT,aU,aO,upd_ne,aP,aX,result1]
 exact hK _ _ Kp.refl ⟨rfl,rfl⟩
end Go.Proofs.Po
