import Derived.Test.YthgmipngikdknaaGreatPoK
/- Whether a list is a truth; the course of a post in a truth; Play. -/
namespace Go.Proofs.Po
open Nat (reduceEqDiff reduceAdd reduceSub)
open Go Go.Ev Go.RowKit
set_option linter.unusedSimpArgs false
variable {pr:Prim} {R:ExT}
set_option maxHeartbeats 4000000 in
theorem canCome_y (S:Ev.Steps Tryz.prog pr R) (h0:AHeap) (x:Od) (n:Int):bD Tryz.prog R 85 [.agg ⟨cOd x⟩,iv n] h0 fun u _=>u = .bool (inB n x.lo x.hi):=by
 refine aV (fn:=Tryz.f85) (c:=(Tryz.f85.body).getD .skip) (by kernel_rfl) rfl (by kernel_rfl) rfl (fun K hK=>?_)
 generalize hF:finish Tryz.prog Tryz.f85 K = KF
 simp only [Tryz.f85,Option.getD_some,bJ,aX,aZ,T.setK_eq,id]
 have hK':∀ b,b = inB n x.lo x.hi → ∀ g,Kp h0 g → K (.bool b) g = true:=fun b e g hk=>hK _ _ hk (by rw [e])
 clear hK
 unfold inB at hK'
 repeat refine S.seq ?_
 refine S.region ?_
 simp (disch:=first|omega|simp only [aA,aB]<;>omega|decide) only [rUz,↓reduceIte,reduceEqDiff,reduceAdd]
 cases h1:decide (x.lo ≤ n) with
 | false =>
  rw [h1,Bool.false_and] at hK'
  repeat refine S.seq ?_
  refine S.region ?_
  simp (disch:=first|omega|simp only [aA,aB]<;>omega|decide) only [rUz,↓reduceIte,reduceEqDiff,reduceAdd,aC fcO3 ScR,aC fcR0 s3,p3,cOd3,h1]
  refine S.ret ?_
  try simp only [aJ,aF]
  subst hF
  simp only [finish,aI]
  rw [show Tryz.f85.results.toList = [.tmp 4] from rfl]
  simp (disch:=first|omega|simp only [aA,aB]<;>omega|decide) only [bK,aY,aS,aT,aQ,aU,aO,upd_ne,aP,aW,result1]
  exact hK' _ rfl _ Kp.refl.add
 | true =>
  rw [h1,Bool.true_and] at hK'
  repeat refine S.seq ?_
  refine S.region ?_
  simp (disch:=first|omega|simp only [aA,aB]<;>omega|decide) only [rUz,↓reduceIte,reduceEqDiff,reduceAdd,aC fcO3 ScR,aC fcR0 s3,aC fcR1 s3,p3,cOd3,cOd4,h1]
  refine S.ret ?_
  try simp only [aJ,aF]
  subst hF
  simp only [finish,aI]
  rw [show Tryz.f85.results.toList = [.tmp 4] from rfl]
  simp (disch:=first|omega|simp only [aA,aB]<;>omega|decide) only [bK,aY,aS,aT,aQ,aU,aO,upd_ne,aP,aW,result1]
  exact hK' _ rfl _ Kp.refl.add
def comeQ (z:Od × Int):Bool:=inB z.2 z.1.lo z.1.hi
def lV (O:List Od) (t:List Int):Bool:=decide ((O.length:Int) = (t.length:Int)) && (List.zip O t).all comeQ
theorem nU {O:List Od} {t:List Int}:lV O t = true ↔ O.length = t.length ∧ ∀ (i:Nat) (h1:i < O.length) (h2:i < t.length),O[i].lo ≤ t[i] ∧ t[i] ≤ O[i].hi:=by
 unfold lV
 rw [Bool.and_eq_true,decide_eq_true_eq,List.all_eq_true]
 constructor
 ·rintro ⟨h1,h2⟩
  refine ⟨by omega,fun i hi ht=>?_⟩
  have hz:i < (List.zip O t).length:=by rw [List.length_zip]; omega
  have hm:=List.getElem_mem hz
  rw [List.getElem_zip] at hm
  exact uX.1 (h2 _ hm)
 ·rintro ⟨h1,h2⟩
  refine ⟨by omega,fun z hz=>?_⟩
  obtain ⟨i,hi,rfl⟩:=List.mem_iff_getElem.1 hz
  rw [List.length_zip] at hi
  rw [List.getElem_zip]
  exact uX.2 (h2 i (by omega) (by omega))
structure Tru (O:List Od) (t:List Int):Prop where
 len:t.length = O.length
 rng:∀ x,x ∈ t → 0 ≤ x ∧ x ≤ 30
theorem tru_of {O:List Od} {t:List Int} (hv:Val O) (h:lV O t = true):Tru O t:=by
 obtain ⟨h1,h2⟩:=nU.1 h
 refine ⟨h1.symm,fun x hx=>?_⟩
 obtain ⟨i,hi,rfl⟩:=List.mem_iff_getElem.1 hx
 have:=h2 i (by omega) hi
 have ok:=hv.ok O[i] (List.getElem_mem (by omega))
 have a:=ok.m0; have b:=ok.m2
 omega
/-! ## What lies below a heap is kept -/
theorem xO {N sz:Nat} {h0 h:AHeap} {v:Value} {cs:List (List Value)} (k:SlAt h0 sz v cs) (hN:h0.nx ≤ N) (hn:N ≤ h.nx) (hg:∀ j,j < h0.nx → h.bl.get j = h0.bl.get j):SlAt h sz v cs:=by
 rcases k with k|⟨b,cap,f,ro,k1,k2,k3,k4,k5⟩
 ·exact .inl k
 ·exact .inr ⟨b,cap,f,ro,k1,k2,by omega,(hg b k3).trans k4,k5⟩
theorem bC0 (p:Option Addr) (n c:Nat):fG Tryz.prog 114 [(0,.agg ⟨[.slice p n c]⟩)] = some (.agg ⟨crV (.slice p n c) nl [0,0,0,0,0,0] nl⟩):=by kernel_rfl
structure IRa (H:AHeap) (Bc:Nat) (O:List Od) (v tv:Value) (k:Nat) (t:T Value) (h:AHeap):Prop where
 hk:k ≤ O.length
 fr:Fr H Bc h
 bc:h.bl.get Bc = some (.cells (crV v nl (iP O k) nl) Bc false)
 t1:tget t 1 = tv
 t5:tget t 5 = bG Bc
 t14:tget t 14 = v
 t15:tget t 15 = iv (O.length:Int)
 t16:tget t 16 = iv (k:Int)
structure IRb (H:AHeap) (Bc Ba:Nat) (O:List Od) (t0:List Int) (v:Value) (k:Nat) (t:T Value) (h:AHeap):Prop where
 hk:k ≤ t0.length
 ex:∃ lf sl,CrAt H Bc v ((lW t0).take k) lf sl h ∧ runZ O ((lW t0).drop k) ((lW t0).take k) (lf,sl) = dI O t0 ∧ sl.length ≤ 20 * k
 t5:tget t 5 = bG Bc
 t30:tget t 30 = slB Ba t0.length
 t31:tget t 31 = iv (t0.length:Int)
 t32:tget t 32 = iv (k:Int)
end Go.Proofs.Po
