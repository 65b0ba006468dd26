import Derived.Test.YthgmipngikdknaaGreatPo3
/- lists.All over orders. -/
namespace Go.Proofs.Po
open Nat (reduceEqDiff reduceAdd reduceSub)
open Go Go.Ev Go.RowKit
set_option linter.unusedSimpArgs false
variable {pr:Prim} {R:ExT}
def gU {α:Type} (q:α → Bool):List α → Int → Int
 | [],_=>-1
 | a :: r,i=>bif q a then gU q r (i + 1) else i
theorem tN {α:Type} (q:α → Bool):∀ (l:List α) (i:Int),0 ≤ i → decide (0 ≤ gU q l i) = !(l.all q)
 | [],i,_=>by simp [gU]
 | a :: r,i,hi=>by
  simp only [gU,List.all_cons]
  by_cases hq:q a = true
  ·simp only [hq,cond_true,Bool.true_and]; exact tN q r (i + 1) (by omega)
  ·simp only [Bool.eq_false_iff.2 hq,cond_false,Bool.false_and]; simp [hi]
theorem pFcO (c:List Value) (o:Nat):dD Tryz.prog 152 c o = c[o]?:=by kernel_rfl
set_option maxHeartbeats 4000000 in
theorem closcO_y (S:Ev.Steps Tryz.prog pr R) (hoff:Off pr) (h:AHeap) (Bf f:Nat) (ro:Bool) (G:FuncId) (hG:offB G = true) (first:Array Value) (c:Od) (b:Bool) (hb:h.bl.get Bf = some (.cells [.func (.func G) first #[]] f ro))
  (hq:∀ h',Kp h h' → bD Tryz.prog R G (first.toList ++ [.agg ⟨cOd c⟩]) h' fun u _=>u = .bool b) (hlt:Bf < h.nx) :
  bD Tryz.prog R 109 [.agg ⟨cOd c⟩,bG Bf] h fun u _=>u = .bool (!b):=by
 refine aV (fn:=Tryz.f109) (c:=(Tryz.f109.body).getD .skip) (by kernel_rfl) rfl (by kernel_rfl) rfl (fun K hK=>?_)
 generalize hF:finish Tryz.prog Tryz.f109 K = KF
 simp only [Tryz.f109,Option.getD_some,bJ,aX,aZ,T.setK_eq,id]
 repeat refine S.seq ?_
 refine S.region ?_
 simp (disch:=first|omega|simp only [aA,aB]<;>omega|decide) only [rUz,↓reduceIte,reduceEqDiff,reduceAdd]
 have hbx:(h.add (cOd c)).bl.get Bf = some (.cells [.func (.func G) first #[]] f ro):=by rw [aW (by omega)]; exact hb
 repeat refine S.seq ?_
 refine S.region ?_
 simp (disch:=first|omega|simp only [aA,aB]<;>omega|decide) only [rUz,↓reduceIte,reduceEqDiff,reduceAdd,hbx,pFcO,bT pcO (xM c)]
 refine bC (fid:=G) (first:=first) (captured:=#[]) (Post:=fun u _=>u = .bool b) (by simp (disch:=first|omega|simp only [aA,aB]<;>omega|decide) only [rUz,↓reduceIte,reduceEqDiff,reduceAdd]) (hoff _ _ _ hG) (by simp (disch:=first|omega|simp only [aA,aB]<;>omega|decide) only [rUz,↓reduceIte,reduceEqDiff,reduceAdd]; exact hq _ Kp.refl.add) ?_
 rintro u g hk rfl
 simp (disch:=first|omega|simp only [aA,aB]<;>omega|decide) only [rUz,↓reduceIte,reduceEqDiff,reduceAdd,dX]
 refine S.ret ?_
 try simp only [aJ,aF]
 subst hF
 simp only [finish,aI]
 rw [show Tryz.f109.results.toList = [.tmp 3] from rfl]
 simp (disch:=first|omega|simp only [aA,aB]<;>omega|decide) only [bK,aY,aS,aT,aQ,aU,aO,upd_ne,aP,aW,result1]
 exact hK _ _ (Kp.refl.add.trans hk) rfl

def IXcO (q:Od → Bool) (cs:List (Od)) (H:AHeap) (cv fv:Value) (k:Nat) (t:T Value) (h:AHeap):Prop:=
 k ≤ cs.length ∧ gU q cs 0 = gU q (cs.drop k) k ∧ Kp H h ∧ tget t 0 = cv ∧ tget t 1 = fv ∧ tget t 7 = iv (cs.length:Int) ∧ tget t 8 = iv (k:Int)

set_option maxHeartbeats 4000000 in
theorem idxcO_y (S:Ev.Steps Tryz.prog pr R) (hoff:Off pr) (h0:AHeap) (cv:Value) (cs:List (Od)) (hc:SlAt h0 5 cv (cs.map cOd)) (hsz:(cs.length:Int) ≤ 1000000) (Bf f:Nat) (ro:Bool) (G:FuncId) (hG:offB G = true) (first:Array Value) (q:Od → Bool) (hlt:Bf < h0.nx) (hb:h0.bl.get Bf = some (.cells [.func (.func G) first #[]] f ro))
  (hq:∀ h',Kp h0 h' → ∀ c,c ∈ cs → bD Tryz.prog R G (first.toList ++ [.agg ⟨cOd c⟩]) h' fun u _=>u = .bool (q c)) :
  bD Tryz.prog R 121 [cv,.func (.func 109) #[] #[bG Bf]] h0 fun u _=>u = iv (gU q cs 0):=by
 refine aV (fn:=Tryz.f121) (c:=(Tryz.f121.body).getD .skip) (by kernel_rfl) rfl (by kernel_rfl) rfl (fun K hK=>?_)
 generalize hF:finish Tryz.prog Tryz.f121 K = KF
 simp only [Tryz.f121,Option.getD_some,bJ,aX,aZ,T.setK_eq,id]
 have hlen:=fun t h1 o=>dQ hc iscO t h1 o
 repeat refine S.seq ?_
 refine S.region ?_
 simp (disch:=first|omega|simp only [aA,aB]<;>omega|decide) only [rUz,↓reduceIte,reduceEqDiff,reduceAdd]
 repeat refine S.seq ?_
 refine S.region ?_
 simp (disch:=first|omega|simp only [aA,aB]<;>omega|decide) only [rUz,↓reduceIte,reduceEqDiff,reduceAdd,hlen]
 repeat refine S.seq ?_
 refine S.block ?_
 refine S.loop (ι:=Nat) (IXcO q cs h0 cv (.func (.func 109) #[] #[bG Bf])) (fun k=>cs.length - k) ?_ 0 _ _ ?_
 ·intro k t h ⟨hk,hfb,hkp,t0,t1,t7,t8⟩ K' hn he
  repeat refine S.seq ?_
  refine S.region ?_
  simp (disch:=first|omega|simp only [aA,aB]<;>omega|decide) only [rUz,↓reduceIte,reduceEqDiff,reduceAdd,t7,t8]
  repeat refine S.seq ?_
  refine S.cond (v:=decide ((k:Int) < (cs.length:Int))) (by first|rfl|(simp (disch:=first|omega|simp only [aA,aB]<;>omega|decide) only [rUz,↓reduceIte,reduceEqDiff,reduceAdd]<;>rfl)) (fun e=>?_) (fun e=>?_)
  ·have hkn:k < cs.length:=by have:=of_decide_eq_true e; omega
   clear e
   have hps:cs[k]? = some cs[k]:=List.getElem?_eq_getElem hkn
   have hmem:cs[k] ∈ cs:=List.getElem_mem hkn
   rw [List.drop_eq_getElem_cons hkn] at hfb
   simp only [gU] at hfb
   generalize cs[k] = c at hps hmem hfb
   obtain ⟨b,f2,ro2,cells,q1,q2,q3,q4,q5,_⟩:=dM (SlAt.mono hc hkp) slcO scO hps
   have qp:=gQ pcO q4 q5
   repeat refine S.seq ?_
   refine S.skip ?_
   simp (disch:=first|omega|simp only [aA,aB]<;>omega|decide) only [rUz,↓reduceIte,reduceEqDiff,reduceAdd]
   repeat refine S.seq ?_
   refine S.block ?_
   repeat refine S.seq ?_
   refine S.region ?_
   simp (disch:=first|omega|simp only [aA,aB]<;>omega|decide) only [rUz,↓reduceIte,reduceEqDiff,reduceAdd,t8]
   repeat refine S.seq ?_
   refine S.region ?_
   simp (disch:=first|omega|simp only [aA,aB]<;>omega|decide) only [rUz,↓reduceIte,reduceEqDiff,reduceAdd,t0,t1,t8,q1,q3,qp]
   refine bC (fid:=109) (first:=#[]) (captured:=#[bG Bf]) (Post:=fun u _=>u = .bool (!(q c))) (by simp (disch:=first|omega|simp only [aA,aB]<;>omega|decide) only [rUz,↓reduceIte,reduceEqDiff,reduceAdd,t1]) (hoff _ _ _ rfl) (by simp (disch:=first|omega|simp only [aA,aB]<;>omega|decide) only [rUz,↓reduceIte,reduceEqDiff,reduceAdd]; exact closcO_y S hoff h Bf f ro G hG first c (q c) ((hkp.get hlt).trans hb) (fun h' hk'=>hq h' (hkp.trans hk') c hmem) (Nat.lt_of_lt_of_le hlt hkp.1)) ?_
   rintro u g hk2 rfl
   simp (disch:=first|omega|simp only [aA,aB]<;>omega|decide) only [rUz,↓reduceIte,reduceEqDiff,reduceAdd]
   cases hqp:q c with
   | true =>
    rw [hqp,cond_true] at hfb
    repeat refine S.seq ?_
    refine S.cond (v:=false) (by first|rfl|(simp (disch:=first|omega|simp only [aA,aB]<;>omega|decide) only [rUz,↓reduceIte,reduceEqDiff,reduceAdd,hqp,Bool.not_true]<;>rfl)) (fun e=>by cases e) (fun _=>?_)
    repeat refine S.seq ?_
    refine S.skip ?_
    simp (disch:=first|omega|simp only [aA,aB]<;>omega|decide) only [rUz,↓reduceIte,reduceEqDiff,reduceAdd]
    repeat refine S.seq ?_
    refine S.region ?_
    simp (disch:=first|omega|simp only [aA,aB]<;>omega|decide) only [rUz,↓reduceIte,reduceEqDiff,reduceAdd,t8]
    refine hn (k + 1) _ _ (by omega) ⟨by omega,hfb,hkp.trans hk2,?_,?_,?_,?_⟩
    all_goals (first|rfl|(simp (disch:=first|omega|simp only [aA,aB]<;>omega|decide) only [rUz,↓reduceIte,reduceEqDiff,reduceAdd,t0,t1,t7,t8]<;>rfl))
   | false =>
    rw [hqp,cond_false] at hfb
    repeat refine S.seq ?_
    refine S.cond (v:=true) (by first|rfl|(simp (disch:=first|omega|simp only [aA,aB]<;>omega|decide) only [rUz,↓reduceIte,reduceEqDiff,reduceAdd,hqp,Bool.not_false]<;>rfl)) (fun _=>?_) (fun e=>by cases e)
    repeat refine S.seq ?_
    refine S.region ?_
    simp (disch:=first|omega|simp only [aA,aB]<;>omega|decide) only [rUz,↓reduceIte,reduceEqDiff,reduceAdd,t8]
    refine S.ret ?_
    simp only [aJ,aF]
    refine he _ _ _ _ (fun e=>by cases e) ?_
    try simp only [aJ,aF]
    subst hF
    simp only [finish,aI]
    rw [show Tryz.f121.results.toList = [.tmp 4] from rfl]
    simp (disch:=first|omega|simp only [aA,aB]<;>omega|decide) only [bK,aY,aS,aT,aQ,aU,aO,upd_ne,aP,aW,result1]
    exact hK _ _ (hkp.trans hk2) (by rw [hfb])
  ·have hkn:k = cs.length:=by have:=of_decide_eq_false e; omega
   subst hkn
   rw [List.drop_of_length_le (Nat.le_refl _)] at hfb
   refine S.exit (he _ _ _ _ (fun e=>by cases e) ?_)
   simp (disch:=first|omega|simp only [aA,aB]<;>omega|decide) only [rUz,↓reduceIte,reduceEqDiff,reduceAdd]
   repeat refine S.seq ?_
   refine S.region ?_
   simp (disch:=first|omega|simp only [aA,aB]<;>omega|decide) only [rUz,↓reduceIte,reduceEqDiff,reduceAdd]
   refine S.ret ?_
   try simp only [aJ,aF]
   subst hF
   simp only [finish,aI]
   rw [show Tryz.f121.results.toList = [.tmp 4] from rfl]
   simp (disch:=first|omega|simp only [aA,aB]<;>omega|decide) only [bK,aY,aS,aT,aQ,aU,aO,upd_ne,aP,aW,result1]
   exact hK _ _ hkp (by rw [hfb]; rfl)
 ·refine ⟨Nat.zero_le _,rfl,Kp.refl,?_,?_,?_,?_⟩
  all_goals (first|rfl|(simp (disch:=first|omega|simp only [aA,aB]<;>omega|decide) only [rUz,↓reduceIte,reduceEqDiff,reduceAdd]<;>rfl))

set_option maxHeartbeats 4000000 in
theorem allcO_y (S:Ev.Steps Tryz.prog pr R) (hoff:Off pr) (h0:AHeap) (cv:Value) (cs:List (Od)) (hc:SlAt h0 5 cv (cs.map cOd)) (hsz:(cs.length:Int) ≤ 1000000) (G:FuncId) (hG:offB G = true) (first:Array Value) (q:Od → Bool)
  (hq:∀ h',Kp h0 h' → ∀ c,c ∈ cs → bD Tryz.prog R G (first.toList ++ [.agg ⟨cOd c⟩]) h' fun u _=>u = .bool (q c)) :
  bD Tryz.prog R 89 [cv,.func (.func G) first #[]] h0 fun u _=>u = .bool (cs.all q):=by
 refine aV (fn:=Tryz.f89) (c:=(Tryz.f89.body).getD .skip) (by kernel_rfl) rfl (by kernel_rfl) rfl (fun K hK=>?_)
 generalize hF:finish Tryz.prog Tryz.f89 K = KF
 simp only [Tryz.f89,Option.getD_some,bJ,aX,aZ,T.setK_eq,id]
 repeat refine S.seq ?_
 refine S.region ?_
 simp (disch:=first|omega|simp only [aA,aB]<;>omega|decide) only [rUz,↓reduceIte,reduceEqDiff,reduceAdd]
 repeat refine S.seq ?_
 refine S.region ?_
 simp (disch:=first|omega|simp only [aA,aB]<;>omega|decide) only [rUz,↓reduceIte,reduceEqDiff,reduceAdd]
 have hidx:=idxcO_y S hoff (h0.add [.func (.func G) first #[]]) cv cs (SlAt.mono hc Kp.refl.add) hsz h0.nx h0.nx false G hG first q (Nat.lt_succ_self _) (aP rfl) (fun h' hk=>hq h' (Kp.refl.add.trans hk))
 have hcf:bD Tryz.prog R 108 [cv,.func (.func 109) #[] #[bG h0.nx]] (h0.add [.func (.func G) first #[]]) fun u _=>u = .bool (!(cs.all q)):=by
  clear hK hF K KF
  refine aV (fn:=Tryz.f108) (c:=(Tryz.f108.body).getD .skip) (by kernel_rfl) rfl (by kernel_rfl) rfl (fun K hK=>?_)
  generalize hF:finish Tryz.prog Tryz.f108 K = KF
  simp only [Tryz.f108,Option.getD_some,bJ,aX,aZ,T.setK_eq,id]
  repeat refine S.seq ?_
  refine S.region ?_
  simp (disch:=first|omega|simp only [aA,aB]<;>omega|decide) only [rUz,↓reduceIte,reduceEqDiff,reduceAdd]
  repeat refine S.seq ?_
  refine S.region ?_
  simp (disch:=first|omega|simp only [aA,aB]<;>omega|decide) only [rUz,↓reduceIte,reduceEqDiff,reduceAdd]
  refine bC (fid:=121) (first:=#[]) (captured:=#[]) (Post:=fun u _=>u = iv (gU q cs 0)) rfl (hoff _ _ _ rfl) (by simp (disch:=first|omega|simp only [aA,aB]<;>omega|decide) only [rUz,↓reduceIte,reduceEqDiff,reduceAdd]; exact hidx) ?_
  rintro u g hk rfl
  simp (disch:=first|omega|simp only [aA,aB]<;>omega|decide) only [rUz,↓reduceIte,reduceEqDiff,reduceAdd,tN q cs 0 (Int.le_refl _)]
  refine S.ret ?_
  try simp only [aJ,aF]
  subst hF
  simp only [finish,aI]
  rw [show Tryz.f108.results.toList = [.tmp 4] from rfl]
  simp (disch:=first|omega|simp only [aA,aB]<;>omega|decide) only [bK,aY,aS,aT,aQ,aU,aO,upd_ne,aP,aW,result1]
  exact hK _ _ hk rfl
 refine bC (fid:=108) (first:=#[]) (captured:=#[]) (Post:=fun u _=>u = .bool (!(cs.all q))) rfl (hoff _ _ _ rfl) (by simp (disch:=first|omega|simp only [aA,aB]<;>omega|decide) only [rUz,↓reduceIte,reduceEqDiff,reduceAdd]; exact hcf) ?_
 rintro u g hk rfl
 simp (disch:=first|omega|simp only [aA,aB]<;>omega|decide) only [rUz,↓reduceIte,reduceEqDiff,reduceAdd,dX,Bool.not_not]
 refine S.ret ?_
 try simp only [aJ,aF]
 subst hF
 simp only [finish,aI]
 rw [show Tryz.f89.results.toList = [.tmp 4] from rfl]
 simp (disch:=first|omega|simp only [aA,aB]<;>omega|decide) only [bK,aY,aS,aT,aQ,aU,aO,upd_ne,aP,aW,result1]
 exact hK _ _ (Kp.refl.add.trans hk) rfl

end Go.Proofs.Po
