import Derived.Test.YthgmipngikdknaaGreatPoC
import Derived.Test.YthgmipngikdknaaGreatEvE
/- A course: what lies of it in a heap; whether orders can trade. -/
namespace Go.Proofs.Po
open Nat (reduceEqDiff reduceAdd reduceSub)
open Go Go.Ev Go.RowKit
set_option linter.unusedSimpArgs false
variable {pr:Prim} {R:ExT}
/-! ## Comparing truth values -/
theorem rBin_bool {P:Program} {t:T Value} {o:Oper} {op:BinOp} {a:TypeId} {p q:Bool}:nV P t o op a (.bool q) (.bool p) = rBin2 P t o op (qH P a (.bool p) (.bool q)):=rfl
theorem bin_congr {P:Program} {t t':T Value} {op:BinOp} {j k:Nat} {u v r:Value} {a c:TypeId} {dst:Option Tmp} {ty:TypeId} {pos:String} {af:Array Edge} {g:Option (Nat × Bool)} (h2:tget t j = u) (h3:tget t k = v) (h4:tget t' j = u) (h5:tget t' k = v)
  (hr:ground P t' ⟨dst,.binOp op a (.tmp j) (.tmp k) c,ty,pos,af,g⟩ = some r):ground P t ⟨dst,.binOp op a (.tmp j) (.tmp k) c,ty,pos,af,g⟩ = some r:=by
 rw [← hr]
 refine qX (fun cs b e=>by cases e) fun x hx=>?_
 simp only [Op.operands] at hx
 have:x = .tmp j ∨ x = .tmp k:=by simpa using hx
 rcases this with rfl|rfl
 ·simp only [ev,h2,h4]
 ·simp only [ev,h3,h5]
theorem nilB (p q:Bool):qH Tryz.prog 4 (.bool p) (.bool q) = none:=by cases p<;>cases q<;>kernel_rfl
theorem neq68 {t:T Value} {ty:TypeId} {pos:String} {af:Array Edge} {g:Option (Nat × Bool)} {dst:Option Tmp} {p q:Bool} (h1:tget t 6 = .bool p) (h2:tget t 8 = .bool q):nV Tryz.prog t ⟨dst,.binOp .neq 4 (.tmp 6) (.tmp 8) 4,ty,pos,af,g⟩ .neq 4 (.bool q) (.bool p) = some (.bool (p != q)):=by
 rw [rBin_bool,nilB]
 refine bin_congr (t':=T.set 9 (T.set 7 .leaf 6 (.bool p)) 8 (.bool q)) h1 h2 ?_ ?_ ?_
 ·cases p<;>cases q<;>kernel_rfl
 ·cases p<;>cases q<;>kernel_rfl
 ·cases p<;>cases q<;>kernel_rfl
set_option maxHeartbeats 4000000 in
theorem betterO_y (S:Ev.Steps Tryz.prog pr R) (hoff:Off pr) (h0:AHeap) (x y:Od):bD Tryz.prog R 116 [.agg ⟨cOd x⟩,.agg ⟨cOd y⟩] h0 fun u _=>u = .bool (!oM y x.l):=by
 refine aV (fn:=Tryz.f116) (c:=(Tryz.f116.body).getD .skip) (by kernel_rfl) rfl (by kernel_rfl) rfl (fun K hK=>?_)
 generalize hF:finish Tryz.prog Tryz.f116 K = KF
 simp only [Tryz.f116,Option.getD_some,bJ,aX,aZ,T.setK_eq,id]
 repeat refine S.seq ?_
 refine S.region ?_
 simp (disch:=first|omega|simp only [aA,aB]<;>omega|decide) only [rUz,↓reduceIte,reduceEqDiff,reduceAdd]
 obtain ⟨B2,hB2⟩:∃ z,z = h0.nx:=⟨_,rfl⟩
 obtain ⟨B3,hB3⟩:∃ z,z = h0.nx + 1:=⟨_,rfl⟩
 have hb2:((h0.add (cOd x)).add (cOd y)).bl.get B2 = some (.cells (cOd x) B2 false):=by rw [aW (by show B2 ≠ h0.nx + 1; omega)]; subst hB2; exact aP rfl
 have hb3:((h0.add (cOd x)).add (cOd y)).bl.get B3 = some (.cells (cOd y) B3 false):=by subst hB3; exact aP rfl
 have hk1:Kp h0 ((h0.add (cOd x)).add (cOd y)):=Kp.refl.add.add
 rw [← hB3,← hB2]
 clear hB2 hB3
 generalize (h0.add (cOd x)).add (cOd y) = g at hb2 hb3 hk1 ⊢
 repeat refine S.seq ?_
 refine S.region ?_
 simp (disch:=first|omega|simp only [aA,aB]<;>omega|decide) only [rUz,↓reduceIte,reduceEqDiff,reduceAdd,hb2,hb3,bT pcO (xM y),aC fcO1 s3,p3,cOd1]
 refine bC (fid:=104) (first:=#[]) (captured:=#[]) (Post:=fun u h=>u = .bool (oM y x.l) ∧ h = g.add (cOd y)) rfl (hoff _ _ _ rfl) (by simp (disch:=first|omega|simp only [aA,aB]<;>omega|decide) only [rUz,↓reduceIte,reduceEqDiff,reduceAdd]; exact isAt_y S g y x.l) ?_
 rintro u g2 - ⟨rfl,rfl⟩
 simp (disch:=first|omega|simp only [aA,aB]<;>omega|decide) only [rUz,↓reduceIte,reduceEqDiff,reduceAdd,dX]
 refine S.ret ?_
 try simp only [aJ,aF]
 subst hF
 simp only [finish,aI]
 rw [show Tryz.f116.results.toList = [.tmp 4] from rfl]
 simp (disch:=first|omega|simp only [aA,aB]<;>omega|decide) only [bK,aY,aS,aT,aQ,aU,aO,upd_ne,aP,aW,result1]
 exact hK _ _ hk1.add rfl
set_option maxHeartbeats 4000000 in
theorem oppB_y (S:Ev.Steps Tryz.prog pr R) (hoff:Off pr) (h0:AHeap) (x y:Od):bD Tryz.prog R 132 [.agg ⟨cOd x⟩,.agg ⟨cOd y⟩] h0 fun u _=>u = .bool (oppB x y):=by
 refine aV (fn:=Tryz.f132) (c:=(Tryz.f132.body).getD .skip) (by kernel_rfl) rfl (by kernel_rfl) rfl (fun K hK=>?_)
 generalize hF:finish Tryz.prog Tryz.f132 K = KF
 simp only [Tryz.f132,Option.getD_some,bJ,aX,aZ,T.setK_eq,id]
 have hK':∀ b,b = oppB x y → ∀ g,Kp h0 g → K (.bool b) g = true:=fun b e g hk=>hK _ _ hk (by rw [e])
 clear hK
 unfold oppB at hK'
 repeat refine S.seq ?_
 refine S.region ?_
 simp (disch:=first|omega|simp only [aA,aB]<;>omega|decide) only [rUz,↓reduceIte,reduceEqDiff,reduceAdd]
 obtain ⟨B2,hB2⟩:∃ z,z = h0.nx:=⟨_,rfl⟩
 obtain ⟨B3,hB3⟩:∃ z,z = h0.nx + 1:=⟨_,rfl⟩
 have hb2:((h0.add (cOd x)).add (cOd y)).bl.get B2 = some (.cells (cOd x) B2 false):=by rw [aW (by show B2 ≠ h0.nx + 1; omega)]; subst hB2; exact aP rfl
 have hb3:((h0.add (cOd x)).add (cOd y)).bl.get B3 = some (.cells (cOd y) B3 false):=by subst hB3; exact aP rfl
 have hk1:Kp h0 ((h0.add (cOd x)).add (cOd y)):=Kp.refl.add.add
 rw [← hB3,← hB2]
 clear hB2 hB3
 generalize (h0.add (cOd x)).add (cOd y) = g at hb2 hb3 hk1 ⊢
 repeat refine S.seq ?_
 refine S.region ?_
 simp (disch:=first|omega|simp only [aA,aB]<;>omega|decide) only [rUz,↓reduceIte,reduceEqDiff,reduceAdd,hb2,hb3,aC fcO0 sb,pb,cOd0]
 refine dG (neq68 (p:=x.b) (q:=y.b) (by simp (disch:=first|omega|simp only [aA,aB]<;>omega|decide) only [rUz,↓reduceIte,reduceEqDiff,reduceAdd]) (by simp (disch:=first|omega|simp only [aA,aB]<;>omega|decide) only [rUz,↓reduceIte,reduceEqDiff,reduceAdd])) ?_
 cases hbb:(x.b != y.b) with
 | false =>
  rw [hbb,Bool.false_and] at hK'
  simp (disch:=first|omega|simp only [aA,aB]<;>omega|decide) only [rUz,↓reduceIte,reduceEqDiff,reduceAdd,hbb]
  refine S.ret ?_
  try simp only [aJ,aF]
  subst hF
  simp only [finish,aI]
  rw [show Tryz.f132.results.toList = [.tmp 4] from rfl]
  simp (disch:=first|omega|simp only [aA,aB]<;>omega|decide) only [bK,aY,aS,aT,aQ,aU,aO,upd_ne,aP,aW,result1]
  exact hK' _ rfl _ hk1
 | true =>
  rw [hbb,Bool.true_and] at hK'
  simp (disch:=first|omega|simp only [aA,aB]<;>omega|decide) only [rUz,↓reduceIte,reduceEqDiff,reduceAdd,hbb,hb2,hb3,bT pcO (xM x),aC fcO1 s3,p3,cOd1]
  refine bC (fid:=104) (first:=#[]) (captured:=#[]) (Post:=fun u h=>u = .bool (oM x y.l) ∧ h = g.add (cOd x)) rfl (hoff _ _ _ rfl) (by simp (disch:=first|omega|simp only [aA,aB]<;>omega|decide) only [rUz,↓reduceIte,reduceEqDiff,reduceAdd]; exact isAt_y S g x y.l) ?_
  rintro u g2 - ⟨rfl,rfl⟩
  simp (disch:=first|omega|simp only [aA,aB]<;>omega|decide) only [rUz,↓reduceIte,reduceEqDiff,reduceAdd]
  refine S.ret ?_
  try simp only [aJ,aF]
  subst hF
  simp only [finish,aI]
  rw [show Tryz.f132.results.toList = [.tmp 4] from rfl]
  simp (disch:=first|omega|simp only [aA,aB]<;>omega|decide) only [bK,aY,aS,aT,aQ,aU,aO,upd_ne,aP,aW,result1]
  exact hK' _ rfl _ hk1.add
/-! ## A course -/
theorem aN:arrOf Tryz.prog 112 = some (6,3):=by kernel_rfl
def crV (v cv:Value) (lf:List Int) (sv:Value):List Value:=v :: cv :: (lf.map iv ++ [sv])
section
variable {v cv sv:Value} {lf:List Int}
theorem cr_len (h:lf.length = 6):(crV v cv lf sv).length = 9:=by
 unfold crV; rw [List.length_cons,List.length_cons,List.length_append,List.length_map,h]; rfl
theorem cr0:(crV v cv lf sv)[0]? = some v:=rfl
theorem cr1:(crV v cv lf sv)[1]? = some cv:=rfl
theorem cr8 (h:lf.length = 6):(crV v cv lf sv)[8]? = some sv:=by
 unfold crV
 rw [List.getElem?_cons_succ,List.getElem?_cons_succ,List.getElem?_append_right (by rw [List.length_map,h]; omega),List.length_map,h]; rfl
theorem crL (h:lf.length = 6) {j:Nat} (hj:j < 6):(crV v cv lf sv)[2 + j]? = some (iv (lg lf j)):=by
 unfold crV
 rw [show 2 + j = j + 1 + 1 from by omega,List.getElem?_cons_succ,List.getElem?_cons_succ,List.getElem?_append_left (by rw [List.length_map,h]; omega),List.getElem?_map,lg_get (by omega)]; rfl
theorem crN (h:lf.length = 6):dD Tryz.prog 112 (crV v cv lf sv) 2 = some (.agg ⟨lf.map iv⟩):=by
 refine gQ (n:=6) pN ?_ (Nat.ble_eq_true_of_le (by rw [cr_len h]; decide))
 show ((lf.map iv ++ [sv]).take 6) = _
 rw [List.take_left' (by rw [List.length_map,h])]
theorem cr_setL (h:lf.length = 6) {j:Nat} (hj:j < 6) {x:Int}:(crV v cv lf sv).set (2 + j) (iv x) = crV v cv (lf.set j x) sv:=by
 unfold crV
 rw [show 2 + j = j + 1 + 1 from by omega,List.set_cons_succ,List.set_cons_succ,List.set_append_left _ _ (by rw [List.length_map,h]; omega),List.map_set]
theorem cr_set8 (h:lf.length = 6) {x:Value}:(crV v cv lf sv).set 8 x = crV v cv lf x:=by
 unfold crV
 rw [List.set_cons_succ,List.set_cons_succ,List.set_append_right _ _ (by rw [List.length_map,h]; omega),List.length_map,h]; rfl
end
theorem ixN {B j:Nat} (hj:j < 6):bY Tryz.prog 112 (.pointer (some ⟨B,2,none⟩)) (iv (j:Int)) = some (.pointer (some ⟨B,2 + j,none⟩)):=by
 rw [oZ aN s3' hj,Nat.mul_one]
/-- Two slices, of integers and of sales, that grow beside each other. -/
structure TwoS (lo s1 s2:Nat) (h:AHeap) (xs ys:List (List Value)) (xv yv:Value) (F1 F2:Nat):Prop where
 x:App lo h s1 xv xs F1
 y:App lo h s2 yv ys F2
 fx:xs ≠ [] → F1 < h.nx
 fy:ys ≠ [] → F2 < h.nx
 ne:xs ≠ [] → ys ≠ [] → F1 ≠ F2 ∧ blk xv ≠ some F2 ∧ blk yv ≠ some F1
section
variable {lo s1 s2:Nat} {h h':AHeap} {xs ys:List (List Value)} {xv yv xv':Value} {F1 F2 F1':Nat} {c:List Value}
theorem TwoS.symm (k:TwoS lo s1 s2 h xs ys xv yv F1 F2):TwoS lo s2 s1 h ys xs yv xv F2 F1:=
 ⟨k.y,k.x,k.fy,k.fx,fun a b=>⟨fun e=>(k.ne b a).1 e.symm,(k.ne b a).2.2,(k.ne b a).2.1⟩⟩
theorem TwoS.mono (k:TwoS lo s1 s2 h xs ys xv yv F1 F2) (a:Kp h h'):TwoS lo s1 s2 h' xs ys xv yv F1 F2:=
 ⟨k.x.mono a,k.y.mono a,fun q=>Nat.lt_of_lt_of_le (k.fx q) a.1,fun q=>Nat.lt_of_lt_of_le (k.fy q) a.1,k.ne⟩
theorem TwoS.upd (k:TwoS lo s1 s2 h xs ys xv yv F1 F2) {B f:Nat} {d:List Value} (hB:B < lo):TwoS lo s1 s2 (h.upd B d f) xs ys xv yv F1 F2:=
 ⟨k.x.upd hB,k.y.upd hB,k.fx,k.fy,k.ne⟩
theorem TwoS.grow (k:TwoS lo s1 s2 h xs ys xv yv F1 F2) (g:Grown lo h h' s1 xv' xs c F1 F1'):TwoS lo s1 s2 h' (xs ++ [c]) ys xv' yv F1' F2:=by
 have hn:=g.sm.1
 obtain ⟨b,n,m,rfl,hb⟩:=g.blk
 refine ⟨g.app,App.left k.y g.left fun hx hy=>⟨fun e=>(k.ne hx hy).1 e.symm,(k.ne hx hy).2.2⟩,fun _=>g.app.fam_lt (by simp),fun q=>by have:=k.fy q; omega,fun _ hy=>⟨fun e=>?_,fun e=>?_,fun e=>?_⟩⟩
 ·have:=k.fy hy
  by_cases hx:xs = []
  ·have:=g.fresh hx; omega
  ·rw [g.same hx] at e; exact (k.ne hx hy).1 e
 ·have:=k.fy hy
  have e:b = F2:=by cases e; rfl
  omega
 ·by_cases hx:xs = []
  ·have h1:=g.fresh hx
   have h2:=App.blk_lt1 k.y e
   omega
  ·rw [g.same hx] at e; exact (k.ne hx hy).2.2 e
theorem TwoS.start:TwoS lo s1 s2 h [] [] nl nl 0 0:=⟨.inl ⟨rfl,rfl⟩,.inl ⟨rfl,rfl⟩,fun e=>absurd rfl e,fun e=>absurd rfl e,fun e=>absurd rfl e⟩
end
def cn (a:Nat):List Value:=[iv (a:Int)]
/-- The course at block Bc, since the heap H. -/
structure CrAt (H:AHeap) (Bc:Nat) (v:Value) (came:List Nat) (lf:List Int) (sl:List Sa) (h:AHeap):Prop where
 fr:Fr H Bc h
 hB:Bc < H.nx
 fam:H.fams.get Bc = some [Bc]
 ok:LfOk lf
 ex:∃ cv sv F1 F2,h.bl.get Bc = some (.cells (crV v cv lf sv) Bc false) ∧ TwoS H.nx 1 4 h (came.map cn) (sl.map cSa) cv sv F1 F2
/-- Orders that lie where a course does not change them. -/
def PoF (H:AHeap) (Bc:Nat) (v:Value) (O:List Od):Prop:=∀ h,Fr H Bc h → PoAt h v O
theorem CrAt.mono {H h h':AHeap} {Bc:Nat} {v:Value} {came:List Nat} {lf:List Int} {sl:List Sa} (k:CrAt H Bc v came lf sl h) (a:Kp h h'):CrAt H Bc v came lf sl h':=by
 obtain ⟨cv,sv,F1,F2,e1,e2⟩:=k.ex
 have hlt:=Nat.lt_of_lt_of_le k.hB k.fr.le
 exact ⟨k.fr.kp a,k.hB,k.fam,k.ok,cv,sv,F1,F2,(a.get hlt).trans e1,e2.mono a⟩
theorem CrAt.famh {H h:AHeap} {Bc:Nat} {v:Value} {came:List Nat} {lf:List Int} {sl:List Sa} (k:CrAt H Bc v came lf sl h):h.fams.get Bc = some [Bc]:=(k.fr.fam Bc k.hB).trans k.fam
theorem CrAt.lt {H h:AHeap} {Bc:Nat} {v:Value} {came:List Nat} {lf:List Int} {sl:List Sa} (k:CrAt H Bc v came lf sl h):Bc < h.nx:=Nat.lt_of_lt_of_le k.hB k.fr.le
set_option maxHeartbeats 8000000 in
theorem canB_y (S:Ev.Steps Tryz.prog pr R) (hoff:Off pr) (H h0:AHeap) (Bc:Nat) (v:Value) (O:List Od) (came:List Nat) (lf:List Int) (sl:List Sa) (a r:Nat) (hc:CrAt H Bc v came lf sl h0) (hp:PoF H Bc v O) (h6:O.length ≤ 6) (ha:a < O.length) (hr:r < O.length) :
  bD Tryz.prog R 115 [bG Bc,iv (a:Int),iv (r:Int)] h0 fun u _=>u = .bool (qE O lf a r):=by
 refine aV (fn:=Tryz.f115) (c:=(Tryz.f115.body).getD .skip) (by kernel_rfl) rfl (by kernel_rfl) rfl (fun K hK=>?_)
 generalize hF:finish Tryz.prog Tryz.f115 K = KF
 simp only [Tryz.f115,Option.getD_some,bJ,aX,aZ,T.setK_eq,id]
 have hK':∀ b,b = qE O lf a r → ∀ g,Kp h0 g → K (.bool b) g = true:=fun b e g hk=>hK _ _ hk (by rw [e])
 clear hK
 unfold qE at hK'
 obtain ⟨cv,sv,F1,F2,hb,_⟩:=hc.ex
 have h6l:=hc.ok.len
 have la:=crL (v:=v) (cv:=cv) (sv:=sv) h6l (j:=a) (by omega)
 have lr:=crL (v:=v) (cv:=cv) (sv:=sv) h6l (j:=r) (by omega)
 have ia:=ixN (B:=Bc) (j:=a) (by omega)
 have ir:=ixN (B:=Bc) (j:=r) (by omega)
 have hpo:=hp h0 hc.fr
 obtain ⟨b1,f1,o1,c1,q1,q2,q3,q4,q5,_⟩:=dM hpo slcO scO (jB ha)
 obtain ⟨b2,f2,o2,c2',r1,r2,r3,r4,r5,_⟩:=dM hpo slcO scO (jB hr)
 have qp:=gQ pcO q4 q5
 have rp:=gQ pcO r4 r5
 repeat refine S.seq ?_
 refine S.region ?_
 simp (disch:=first|omega|simp only [aA,aB]<;>omega|decide) only [rUz,↓reduceIte,reduceEqDiff,reduceAdd]
 cases h1:decide (0 < lg lf a) with
 | false =>
  rw [h1,Bool.false_and,Bool.false_and] at hK'
  repeat refine S.seq ?_
  refine S.region ?_
  simp (disch:=first|omega|simp only [aA,aB]<;>omega|decide) only [rUz,↓reduceIte,reduceEqDiff,reduceAdd,hb,aC fC2 SN,ia,p3,la,h1]
  repeat refine S.seq ?_
  refine S.drawnL [(false,0),(false,1),(false,3),(false,7),(false,15),(false,31),(false,63),(false,3),(false,255),(false,511),(false,3),(false,1027),(false,3075),(false,7171),(false,15363),(false,3),(false,64515),(false,130051),(true,262143),(false,524287),(false,1048575)] (by kernel_rfl) (by kernel_rfl) (by kernel_rfl) ?_
  simp (disch:=first|omega|simp only [aA,aB]<;>omega|decide) only [rUz,↓reduceIte,reduceEqDiff,reduceAdd,rDz,infoL,reduceSub]
  refine S.ret ?_
  try simp only [aJ,aF]
  subst hF
  simp only [finish,aI]
  rw [show Tryz.f115.results.toList = [.tmp 6] from rfl]
  simp (disch:=first|omega|simp only [aA,aB]<;>omega|decide) only [bK,aY,aS,aT,aQ,aU,aO,upd_ne,aP,aW,result1]
  exact hK' _ rfl _ Kp.refl
 | true =>
 cases h2:decide (0 < lg lf r) with
 | false =>
  rw [h1,h2,Bool.and_false,Bool.false_and] at hK'
  repeat refine S.seq ?_
  refine S.region ?_
  simp (disch:=first|omega|simp only [aA,aB]<;>omega|decide) only [rUz,↓reduceIte,reduceEqDiff,reduceAdd,hb,aC fC2 SN,ia,ir,p3,la,lr,h1,h2]
  repeat refine S.seq ?_
  refine S.drawnL [(false,0),(false,1),(false,3),(false,7),(false,15),(false,31),(false,63),(false,3),(false,255),(false,511),(false,3),(false,1027),(false,3075),(false,7171),(false,15363),(false,3),(false,64515),(false,130051),(true,262143),(false,524287),(false,1048575)] (by kernel_rfl) (by kernel_rfl) (by kernel_rfl) ?_
  simp (disch:=first|omega|simp only [aA,aB]<;>omega|decide) only [rUz,↓reduceIte,reduceEqDiff,reduceAdd,rDz,infoL,reduceSub]
  refine S.ret ?_
  try simp only [aJ,aF]
  subst hF
  simp only [finish,aI]
  rw [show Tryz.f115.results.toList = [.tmp 6] from rfl]
  simp (disch:=first|omega|simp only [aA,aB]<;>omega|decide) only [bK,aY,aS,aT,aQ,aU,aO,upd_ne,aP,aW,result1]
  exact hK' _ rfl _ Kp.refl
 | true =>
  rw [h1,h2,Bool.and_self,Bool.true_and] at hK'
  repeat refine S.seq ?_
  refine S.region ?_
  simp (disch:=first|omega|simp only [aA,aB]<;>omega|decide) only [rUz,↓reduceIte,reduceEqDiff,reduceAdd,hb,aC fC2 SN,ia,ir,p3,la,lr,h1,h2]
  repeat refine S.seq ?_
  refine S.drawnL [(false,0),(false,1),(false,3),(false,7),(false,15),(false,31),(false,63),(false,3),(false,255),(false,511),(false,3),(false,1027),(false,3075),(false,7171),(false,15363),(false,3),(false,64515),(false,130051),(true,262143),(false,524287),(false,1048575)] (by kernel_rfl) (by kernel_rfl) (by kernel_rfl) ?_
  simp (disch:=first|omega|simp only [aA,aB]<;>omega|decide) only [rUz,↓reduceIte,reduceEqDiff,reduceAdd,rDz,infoL,reduceSub,hb,aC fC0 SB,aC fB0 lcO,qcO,cr0,q1,q3,qp,r1,r3,rp]
  refine dC (fid:=132) (first:=#[]) (captured:=#[]) (Post:=fun u _=>u = .bool (oppB (od O a) (od O r))) rfl (hoff _ _ _ rfl) (by simp (disch:=first|omega|simp only [aA,aB]<;>omega|decide) only [rUz,↓reduceIte,reduceEqDiff,reduceAdd]; exact oppB_y S hoff h0 (od O a) (od O r)) (Nat.le_of_ble_eq_true rfl) ?_
  rintro u g hk rfl
  refine ⟨?_,?_⟩
  ·try simp (disch:=first|decide|rfl) only [aK,aG,aH]
  simp (disch:=first|omega|simp only [aA,aB]<;>omega|decide) only [rUz,↓reduceIte,reduceEqDiff,reduceAdd,rDz,infoL,reduceSub]
  refine S.ret ?_
  try simp only [aJ,aF]
  subst hF
  simp only [finish,aI]
  rw [show Tryz.f115.results.toList = [.tmp 6] from rfl]
  simp (disch:=first|omega|simp only [aA,aB]<;>omega|decide) only [bK,aY,aS,aT,aQ,aU,aO,upd_ne,aP,aW,result1]
  exact hK' _ rfl _ hk
end Go.Proofs.Po
