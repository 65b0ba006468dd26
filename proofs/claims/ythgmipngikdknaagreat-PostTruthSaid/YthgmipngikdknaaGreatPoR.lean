import Derived.Test.YthgmipngikdknaaGreatPo5
import Derived.Test.YthgmipngikdknaaGreatPoL
/- Words, truths picked by them, orders that are ready. -/
namespace Go.Proofs.Po
open Nat (reduceEqDiff reduceAdd reduceSub)
open Go Go.Ev Go.RowKit
set_option linter.unusedSimpArgs false
section
variable {P:Program} {ops:Array Oper} {n f:Nat} {l:List Info} {done i m:Nat} {hist:List Seen} {t:T Value} {h:AHeap} {KR:T Value → AHeap → Bool} {call:CallT}
/-- A read that is ready comes before a write that stands before it. -/
theorem draw_rdB {i2 m2:Nat} {o o2:Oper} (hr:Nat.beq (Nat.land m2 done) m2 = true):bT P call ops n 0 [] (f + 1) ({ i:=i,o:=o,w:=true,pre:=m } :: { i:=i2,o:=o2,w:=false,pre:=m2 } :: l) done hist t h KR = drR (eU t ops o2.guard) (dD P t h o2) P call ops n f ({ i:=i,o:=o,w:=true,pre:=m } :: l) done i2 o2 hist t h KR:=by
 simp only [bT,iC,hr,Bool.not_false,Bool.not_true,Bool.false_and,Bool.true_and,cond_true,cond_false,drR,bC,bQ,Option.map]
 cases eU t ops o2.guard with
 | none=>rfl
 | some b =>
  cases b with
  | false=>rfl
  | true=>cases dD P t h o2<;>rfl
end
abbrev u8v (n:Int):Value:=.int .u8 n
def WdAt (h:AHeap) (v:Value) (l:List Int):Prop:=SlAt h 1 v (l.map fun n=>[u8v n]) ∧ ∀ n,n ∈ l → 0 ≤ n ∧ n ≤ 255
theorem WdAt.mono {h h':AHeap} {v:Value} {l:List Int} (k:WdAt h v l) (a:Kp h h'):WdAt h' v l:=⟨SlAt.mono k.1 a,k.2⟩
theorem isW8:jP Tryz.prog 61 = true:=by kernel_rfl
theorem slW8:eY Tryz.prog 61 = some 5:=by kernel_rfl
theorem s8:bJ Tryz.prog 5 = some 1:=by kernel_rfl
theorem p8 (c:List Value) (o:Nat):dA Tryz.prog 5 c o = c[o]?:=by kernel_rfl
theorem w_cv8 {x:Operand}:isW Tryz.prog (.convert 5 3 x) = false:=by
 show isDig Tryz.prog 5 3 = false
 kernel_rfl
variable {pr:Prim} {R:ExT}
set_option maxHeartbeats 4000000 in
theorem word_y (S:Ev.Steps Tryz.prog pr R) (h0:AHeap) (wv:Value) (ws:List Int) (hw:WdAt h0 wv ws) (hsz:(ws.length:Int) < 9223372036854775808) (i:Int) (hi:0 ≤ i ∧ i ≤ 1000) :
  bD Tryz.prog R 62 [wv,iv i] h0 fun u h=>(∃ n,u = iv n ∧ 0 ≤ n ∧ n ≤ 255) ∧ h0 = h:=by
 refine aW (fn:=Tryz.f62) (c:=(Tryz.f62.body).getD .skip) (by kernel_rfl) rfl (by kernel_rfl) rfl (fun K hK=>?_)
 generalize hF:finish Tryz.prog Tryz.f62 K = KF
 simp only [Tryz.f62,Option.getD_some,bI,aZ,bC,T.setK_eq,id]
 have hln:=fun t h1 o=>(by have:=SlAt.len (P:=Tryz.prog) hw.1 isW8 (t:=t) h1 o; rwa [List.length_map] at this:pK Tryz.prog t h1 o 61 wv = some (iv (ws.length:Int)))
 repeat refine S.seq ?_
 refine S.region ?_
 simp (disch:=first|omega|simp only [aA,aB]<;>omega|decide) only [rUz,↓reduceIte,reduceEqDiff,reduceAdd]
 by_cases h0l:(ws.length:Int) = 0
 ·repeat refine S.seq ?_
  refine S.region ?_
  simp (disch:=first|omega|simp only [aA,aB]<;>omega|decide) only [rUz,↓reduceIte,reduceEqDiff,reduceAdd,hln,decide_eq_true h0l]
  repeat refine S.seq ?_
  refine S.cond (v:=true) (by first|rfl|(simp (disch:=first|omega|simp only [aA,aB]<;>omega|decide) only [rUz,↓reduceIte,reduceEqDiff,reduceAdd]<;>rfl)) (fun _=>?_) (fun e=>by cases e)
  repeat refine S.seq ?_
  refine S.region ?_
  simp (disch:=first|omega|simp only [aA,aB]<;>omega|decide) only [rUz,↓reduceIte,reduceEqDiff,reduceAdd]
  refine S.ret ?_
  try simp only [aI,aF]
  subst hF
  simp only [finish,aJ]
  rw [show Tryz.f62.results.toList = [.tmp 4] from rfl]
  simp (disch:=first|omega|simp only [aA,aB]<;>omega|decide) only [bH,aY,aQ,aS,aT,aU,aO,upd_ne,aP,aX,result1]
  exact hK _ _ Kp.refl ⟨⟨0,rfl,by omega,by omega⟩,rfl⟩
 ·repeat refine S.seq ?_
  refine S.region ?_
  simp (disch:=first|omega|simp only [aA,aB]<;>omega|decide) only [rUz,↓reduceIte,reduceEqDiff,reduceAdd,hln,decide_eq_false h0l]
  repeat refine S.seq ?_
  refine S.cond (v:=false) (by first|rfl|(simp (disch:=first|omega|simp only [aA,aB]<;>omega|decide) only [rUz,↓reduceIte,reduceEqDiff,reduceAdd]<;>rfl)) (fun e=>by cases e) (fun _=>?_)
  repeat refine S.seq ?_
  refine S.skip ?_
  simp (disch:=first|omega|simp only [aA,aB]<;>omega|decide) only [rUz,↓reduceIte,reduceEqDiff,reduceAdd]
  have hpos:0 < (ws.length:Int):=by omega
  obtain ⟨k,hk⟩:∃ k:Nat,(k:Int) = i.tmod (ws.length:Int):=⟨(i.tmod (ws.length:Int)).toNat,by have:=Int.tmod_nonneg (ws.length:Int) hi.1; omega⟩
  have hkl:k < ws.length:=by have:=Int.tmod_lt_of_pos i hpos; omega
  obtain ⟨b,f,ro,q1,q2,q3⟩:=SlAt.idx (P:=Tryz.prog) hw.1 slW8 s8 (i:=k) (by rw [List.length_map]; exact hkl)
  have hm:(ws.map fun n=>[u8v n])[k]? = some [u8v ws[k]]:=by rw [List.getElem?_map,List.getElem?_eq_getElem hkl]; rfl
  have q4:=flat_get (SlAt.sized hw.1) (j:=0) hm (x:=u8v ws[k]) rfl
  have hb:=hw.2 ws[k] (List.getElem_mem hkl)
  generalize ws[k] = n at q4 hb
  rw [Nat.mul_one] at q1
  rw [Nat.mul_one,Nat.add_zero] at q4
  repeat refine S.seq ?_
  refine S.region ?_
  simp (disch:=first|omega|simp only [aA,aB]<;>omega|decide) only [rUz,↓reduceIte,reduceEqDiff,reduceAdd,hln]
  refine dF (bin_rem (i:=i) (j:=(ws.length:Int)) (by simp (disch:=first|omega|simp only [aA,aB]<;>omega|decide) only [rUz,↓reduceIte,reduceEqDiff,reduceAdd]) (by simp (disch:=first|omega|simp only [aA,aB]<;>omega|decide) only [rUz,↓reduceIte,reduceEqDiff,reduceAdd]) (by omega)) ?_
  rw [← hk]
  simp (disch:=first|omega|simp only [aA,aB]<;>omega|decide) only [rUz,↓reduceIte,reduceEqDiff,reduceAdd,q1,q3,p8,q4,w_cv8,rd_conv]
  refine dF (v:=iv n) (conv_int Tryz.underlying5 Tryz.underlying3 (by omega) (by omega)) ?_
  simp (disch:=first|omega|simp only [aA,aB]<;>omega|decide) only [rUz,↓reduceIte,reduceEqDiff,reduceAdd]
  refine S.ret ?_
  try simp only [aI,aF]
  subst hF
  simp only [finish,aJ]
  rw [show Tryz.f62.results.toList = [.tmp 4] from rfl]
  simp (disch:=first|omega|simp only [aA,aB]<;>omega|decide) only [bH,aY,aQ,aS,aT,aU,aO,upd_ne,aP,aX,result1]
  exact hK _ _ Kp.refl ⟨⟨n,rfl,hb.1,hb.2⟩,rfl⟩
/-- Thin, valid orders. -/
def readyB (O:List Od):Bool:=decide ((O.length:Int) ≤ 9) && decide (dK O = 0)
set_option maxHeartbeats 4000000 in
theorem ready_y (S:Ev.Steps Tryz.prog pr R) (hoff:Off pr) (h0:AHeap) (v:Value) (O:List Od) (hb:PoAt h0 v O) :
  bD Tryz.prog R 28 [.agg ⟨poV v⟩] h0 fun u _=>u = .bool (readyB O):=by
 refine aW (fn:=Tryz.f28) (c:=(Tryz.f28.body).getD .skip) (by kernel_rfl) rfl (by kernel_rfl) rfl (fun K hK=>?_)
 generalize hF:finish Tryz.prog Tryz.f28 K = KF
 simp only [Tryz.f28,Option.getD_some,bI,aZ,bC,T.setK_eq,id]
 have hKn:∀ b,b = readyB O → ∀ g,Kp h0 g → K (.bool b) g = true:=fun b e g hk=>hK _ _ hk (by rw [e])
 clear hK
 unfold readyB at hKn
 repeat refine S.seq ?_
 refine S.region ?_
 simp (disch:=first|omega|simp only [aA,aB]<;>omega|decide) only [rUz,↓reduceIte,reduceEqDiff,reduceAdd]
 have hb1:(h0.add (poV v)).bl.get h0.nx = some (.cells (poV v) h0.nx false):=aP rfl
 have hk1:Kp h0 (h0.add (poV v)):=Kp.refl.add
 have hn1:h0.nx < (h0.add (poV v)).nx:=Nat.lt_succ_self _
 generalize h0.add (poV v) = H at hb1 hk1 hn1 ⊢
 generalize h0.nx = B1 at hb1 hn1 ⊢
 repeat refine S.seq ?_
 refine S.region ?_
 simp (disch:=first|omega|simp only [aA,aB]<;>omega|decide) only [rUz,↓reduceIte,reduceEqDiff,reduceAdd,hb1,bP pA (dC v)]
 refine aV (fid:=39) (first:=#[]) (captured:=#[]) (Post:=fun u _=>u = .bool (decide ((O.length:Int) ≤ 9))) rfl (hoff _ _ _ rfl) (by simp (disch:=first|omega|simp only [aA,aB]<;>omega|decide) only [rUz,↓reduceIte,reduceEqDiff,reduceAdd]; exact thin_y S H v O (hb.mono hk1)) ?_
 rintro u g hkg rfl
 replace hb1:=(hkg.get hn1).trans hb1
 replace hk1:=hk1.trans hkg
 cases h1:decide ((O.length:Int) ≤ 9) with
 | false =>
  rw [h1,Bool.false_and] at hKn
  simp (disch:=first|omega|simp only [aA,aB]<;>omega|decide) only [rUz,↓reduceIte,reduceEqDiff,reduceAdd,h1]
  refine S.ret ?_
  try simp only [aI,aF]
  subst hF
  simp only [finish,aJ]
  rw [show Tryz.f28.results.toList = [.tmp 2] from rfl]
  simp (disch:=first|omega|simp only [aA,aB]<;>omega|decide) only [bH,aY,aQ,aS,aT,aU,aO,upd_ne,aP,aX,result1]
  exact hKn _ rfl _ hk1
 | true =>
  rw [h1,Bool.true_and] at hKn
  simp (disch:=first|omega|simp only [aA,aB]<;>omega|decide) only [rUz,↓reduceIte,reduceEqDiff,reduceAdd,h1,hb1,bP pA (dC v)]
  refine aV (fid:=40) (first:=#[]) (captured:=#[]) (Post:=fun u _=>u = iv (dK O)) rfl (hoff _ _ _ rfl) (by simp (disch:=first|omega|simp only [aA,aB]<;>omega|decide) only [rUz,↓reduceIte,reduceEqDiff,reduceAdd]; exact rfault_y S hoff g v O (hb.mono hk1)) ?_
  rintro u g2 hkg2 rfl
  simp (disch:=first|omega|simp only [aA,aB]<;>omega|decide) only [rUz,↓reduceIte,reduceEqDiff,reduceAdd]
  refine S.ret ?_
  try simp only [aI,aF]
  subst hF
  simp only [finish,aJ]
  rw [show Tryz.f28.results.toList = [.tmp 2] from rfl]
  simp (disch:=first|omega|simp only [aA,aB]<;>omega|decide) only [bH,aY,aQ,aS,aT,aU,aO,upd_ne,aP,aX,result1]
  exact hKn _ rfl _ (hk1.trans hkg2)
end Go.Proofs.Po
