import Derived.Test.YthgmipngikdknaaGreatPqI
/- All increasing lists of so many indexes: what the recursion keeps. -/
set_option maxHeartbeats 32000000
set_option maxRecDepth 100000
namespace Go.Proofs.Po
open Nat (reduceEqDiff reduceAdd reduceSub)
open Go Go.Ev Go.RowKit
set_option linter.unusedSimpArgs false
variable {pr:Prim} {R:ExT}
section
variable {P:Program} {h:AHeap} {t:T Value} {n:Nat} {ops:Array Oper} {rest:List Oper} {call:CallT} {dst:Option Tmp} {KR:T Value → AHeap → Bool}
/-- An append that stays within the capacity. -/
theorem wr_appIn {st xt e e':TypeId} {s x:Operand} {b bx cx fx fam k0 len cap:Nat} {rx:Bool} {C:List Value} {c:Value} (hst:fE P st = some e) (hxt:P.underlying xt = some (.slice e')) (hsz:bH P e = some 1) (hs:ev P t s = .slice (some ⟨b,0,none⟩) len cap) (hx:ev P t x = .slice (some ⟨bx,0,none⟩) 1 cx)
  (hbx:h.bl.get bx = some (.cells [c] fx rx)) (hl:len + 1 ≤ cap) (hg:h.bl.get b = some (.cells C fam false)) (hf:h.fams.get fam = some [k0]) (hlc:len < C.length)
  (kk:jA P call ops n rest dst t (.slice (some ⟨b,0,none⟩) (len + 1) cap) (h.upd b (C.set len c) fam) KR = true) :
  wrR P call ops n rest (.call ⟨.builtin .append,#[s,x],#[st,xt]⟩) dst t h KR = true:=by
 have hko:Ev.kindOk P xt (.slice (some ⟨bx,0,none⟩) 1 cx) = true:=by simp only [Ev.kindOk,hxt]
 have hsrc:eU h 1 (.slice (some ⟨bx,0,none⟩) 1 cx) = some ([c],1):=by
  simp only [eU,hbx]; rfl
 have h1:Nat.ble (Nat.add len 1) cap = true:=Nat.ble_eq_true_of_le hl
 have e0:Nat.add 0 (Nat.mul len 1) = len:=by show 0 + len * 1 = len; omega
 have h2:Nat.ble (Nat.add len ([c]:List Value).length) C.length = true:=Nat.ble_eq_true_of_le hlc
 simp only [wrR,bI,kR,lZ,hst,hs,hx,hko,cond_true,iR,hsz,hsrc,h1,e0,gY,hg,jC,h2,dJ,hf,T.setK_eq,spliceL_one]
 exact kk
/-- An append of nothing onto an empty literal. -/
theorem wr_app00 {st xt e e':TypeId} {s x:Operand} {b bx cx fx:Nat} {rx:Bool} {C:List Value} (hst:fE P st = some e) (hxt:P.underlying xt = some (.slice e')) (hsz:bH P e = some 1) (hs:ev P t s = .slice (some ⟨b,0,none⟩) 0 0) (hx:ev P t x = .slice (some ⟨bx,0,none⟩) 0 cx)
  (hbx:h.bl.get bx = some (.cells C fx rx)) (kk:jA P call ops n rest dst t (.slice (some ⟨b,0,none⟩) 0 0) h KR = true) :
  wrR P call ops n rest (.call ⟨.builtin .append,#[s,x],#[st,xt]⟩) dst t h KR = true:=by
 have hko:Ev.kindOk P xt (.slice (some ⟨bx,0,none⟩) 0 cx) = true:=by simp only [Ev.kindOk,hxt]
 have hsrc:eU h 1 (.slice (some ⟨bx,0,none⟩) 0 cx) = some ([],0):=by
  simp only [eU,hbx]; rfl
 simp only [wrR,bI,kR,lZ,hst,hs,hx,hko,cond_true,iR,hsz,hsrc,gY]
 exact kk
/-- A new slice of no integers that has room for some. -/
theorem wr_makeCap {a e:TypeId} {x y:Operand} {k:Nat} {ei:TypeInfo} (h1:fE P a = some e) (h2:P.info? e = some ei) (h3:zeroOf P e = some (.int .i64 0)) (h4:Nat.blt ei.bytes bigNat = true) (h5:ei.size = 1)
  (hx:ev P t x = .int .i64 0) (hy:ev P t y = .int .i64 (k:Int)) (hk:k < 1000000) (kk:jA P call ops n rest dst t (.slice (some ⟨h.nx,0,none⟩) 0 k) (h.add ((List.replicate k 0).map iv)) KR = true) :
  wrR P call ops n rest (.makeSlice a x y) dst t h KR = true:=by
 have hb:Nat.blt k bigNat = true:=by rw [Nat.blt_eq]; exact hk
 have he:repl (Value.cells (.int .i64 0)).toList k [] = (List.replicate k (0:Int)).map iv:=by
  rw [repl_eq,List.append_nil]
  show (List.replicate k [Value.int .i64 0]).flatten = _
  clear hx hy hk kk hb
  induction k with
  | zero=>rfl
  | succ k ih=>simp only [List.replicate_succ,List.flatten_cons,List.map_cons,List.singleton_append,ih]
 have h6:Nat.beq (Value.cells (.int .i64 0)).size ei.size = true:=by rw [h5]; rfl
 have hx':ev P t x = .int .i64 (.ofNat 0):=hx
 have hy':ev P t y = .int .i64 (.ofNat k):=hy
 simp only [wrR,bI,lJ,h1,hx',hy',mG,h2,h3,Nat.ble_eq_true_of_le (Nat.zero_le k),hb,h4,h6,Bool.and_self,cond_true,kV,he]
 exact kk
/-- The first elements of a slice. -/
theorem cut_to {b m k c:Nat} {z:Int} {a e:TypeId} {o:Oper} {x:Operand} (h1:fE P a = some e) (h2:bH P e = some 1) (hz:z = (m:Int)) (hm:m ≤ c) (h0:0 < c) (hx:ev P t x = .int .i64 z) :
  vW P t h o a none (some x) (.slice (some ⟨b,0,none⟩) k c) = some (.slice (some ⟨b,0,none⟩) m c):=by
 subst hz
 have hb:bounds k c none (some (.int .i64 (m:Int))) = some (0,m):=by
  have h1:Nat.ble m c = true:=Nat.ble_eq_true_of_le hm
  show (match vU k c (some (.int .i64 (.ofNat m))) with|none=>none|some h=>(match loOf h none with|none=>none|some l=>some (l,h))) = _
  simp only [vU,h1,cond_true,loOf]
 show uF P h a none (some (ev P t x)) b 0 k c = _
 have h3:Nat.blt 0 c = true:=by rw [Nat.blt_eq]; exact h0
 rw [hx]
 simp only [uF,h1,h2,hb,uD,h3,Nat.beq_refl,Bool.true_or,Bool.and_true,cond_true]
 rfl
end
theorem clone_c (S:Ev.Steps Tryz.prog pr R) (h0:AHeap) (b c f:Nat) (ro:Bool) (l:List Int) (hb:b < h0.nx) (hg:h0.bl.get b = some (.cells (l.map iv) f ro)) (hl:l.length ≤ 1000) :
  bD Tryz.prog R 72 [.slice (some ⟨b,0,none⟩) l.length c] h0 fun u h=>INew h0.nx h u l:=by
 by_cases hne:l = []
 ·subst hne
  refine aV (fn:=Tryz.f72) (c:=(Tryz.f72.body).getD .skip) (by kernel_rfl) rfl (by kernel_rfl) rfl (fun K hK=>?_)
  generalize hF:finish Tryz.prog Tryz.f72 K = KF
  simp only [Tryz.f72,Option.getD_some,bJ,aX,aZ,T.setK_eq,id]
  repeat refine S.seq ?_
  refine S.region ?_
  simp (disch:=first|omega|simp only [aA,aB]<;>omega|decide) only [rUz,↓reduceIte,reduceEqDiff,reduceAdd]
  repeat refine S.seq ?_
  refine S.region ?_
  simp (disch:=first|omega|simp only [aA,aB]<;>omega|decide) only [rUz,↓reduceIte,reduceEqDiff,reduceAdd,evNil,nilS]
  repeat refine S.seq ?_
  refine S.cond (v:=false) (by first|rfl|(simp (disch:=first|omega|simp only [aA,aB]<;>omega|decide) only [rUz,↓reduceIte,reduceEqDiff,reduceAdd]<;>rfl)) (fun e=>by cases e) (fun _=>?_)
  repeat refine S.seq ?_
  refine S.skip ?_
  simp (disch:=first|omega|simp only [aA,aB]<;>omega|decide) only [rUz,↓reduceIte,reduceEqDiff,reduceAdd]
  repeat refine S.seq ?_
  refine S.region ?_
  simp (disch:=first|omega|simp only [aA,aB]<;>omega|decide) only [rUz,↓reduceIte,reduceEqDiff,reduceAdd,fH]
  refine wr_lit0 slI s3' z3 rfl ?_
  have hg2:(h0.add []).bl.get b = some (.cells ([].map iv) f ro):=by rw [aW (by omega)]; exact hg
  simp (disch:=first|omega|simp only [aA,aB]<;>omega|decide) only [rUz,↓reduceIte,reduceEqDiff,reduceAdd,kW]
  refine wr_app00 (b:=h0.nx) (bx:=b) (cx:=c) slI uI s3' (by simp (disch:=first|omega|simp only [aA,aB]<;>omega|decide) only [rUz,↓reduceIte,reduceEqDiff,reduceAdd]) (by simp (disch:=first|omega|simp only [aA,aB]<;>omega|decide) only [rUz,↓reduceIte,reduceEqDiff,reduceAdd]; rfl) hg2 ?_
  simp (disch:=first|omega|simp only [aA,aB]<;>omega|decide) only [rUz,↓reduceIte,reduceEqDiff,reduceAdd]
  refine S.ret ?_
  try simp only [aJ,aF]
  subst hF
  simp only [finish,aI]
  rw [show Tryz.f72.results.toList = [.tmp 2] from rfl]
  simp (disch:=first|omega|simp only [aA,aB]<;>omega|decide) only [bK,aY,aS,aT,aQ,aU,aO,upd_ne,aP,aW,result1]
  exact hK _ _ Kp.refl.add ⟨h0.nx,h0.nx,rfl,Nat.le_refl _,Nat.lt_succ_self _,aP rfl⟩
 ·exact clone_y S h0 b c f ro l hb hg hne hl
/-- All increasing lists of n indexes from f on, below e. -/
def chZ (e:Nat):Nat → Nat → List (List Int)
 | 0,_=>[[]]
 | n + 1,f=>(List.range' f (e - f)).flatMap fun i=>(chZ e n (i + 1)).map (((i:Nat):Int) :: ·)
/-- The blocks of the recursion: the list, its cells, what is called for each list, the recursion itself, how many there are, the end. -/
structure ZC where
 l:Nat
 b:Nat
 y:Nat
 f:Nat
 m:Nat
 e:Nat
def Sc (S:Nat → Prop) (z:ZC) (j:Nat):Prop:=S j ∧ j ≠ z.l ∧ j ≠ z.b
def ZC.caps (z:ZC):List Value:=[bG z.l,bG z.m,bG z.y,bG z.e,bG z.f]
def mF (z:ZC):Value:=.func (.func 101) #[] ⟨z.caps⟩
structure ZcOk (H:AHeap) (W:Nat → Prop) (m e l:Nat) (z:ZC) (S:Nat → Prop) (h:AHeap):Prop where
 by_:h.bl.get z.y = some (.cells [.func (.yield l) #[] #[]] z.y false)
 bm:h.bl.get z.m = some (.cells [iv (m:Int)] z.m false)
 be:h.bl.get z.e = some (.cells [iv (e:Int)] z.e false)
 bf:h.bl.get z.f = some (.cells [mF z] z.f false)
 sy:Sc S z z.y ∧ z.y < h.nx
 sf:Sc S z z.f ∧ z.f < h.nx
 sm:z.m < H.nx ∧ ¬ W z.m
 se:z.e < H.nx ∧ ¬ W z.e
 sl:S z.l ∧ z.l < h.nx ∧ H.nx ≤ z.l
 sb:S z.b ∧ z.b < h.nx ∧ H.nx ≤ z.b
 lb:z.l ≠ z.b
 ho:Out W H h
structure LB (z:ZC) (pre:List Int) (m:Nat) (h:AHeap):Prop where
 ex:∃ C:List Int,C.length = m ∧ C.take pre.length = pre ∧ h.bl.get z.b = some (.cells (C.map iv) z.b false)
 le:pre.length ≤ m
 fb:h.fams.get z.b = some [z.b]
 bl:h.bl.get z.l = some (.cells [.slice (some ⟨z.b,0,none⟩) pre.length m] z.l false)
 fl:h.fams.get z.l = some [z.l]
theorem LB.kp {z:ZC} {pre:List Int} {m:Nat} {h h':AHeap} (k:LB z pre m h) (hl:z.l < h.nx) (hb:z.b < h.nx) (a:Kp h h'):LB z pre m h':=by
 obtain ⟨C,c1,c2,c3⟩:=k.ex
 exact ⟨⟨C,c1,c2,(a.get hb).trans c3⟩,k.le,(a.fget hb).trans k.fb,(a.get hl).trans k.bl,(a.fget hl).trans k.fl⟩
theorem ZcOk.bd {H:AHeap} {W:Nat → Prop} {m e l:Nat} {z:ZC} {S:Nat → Prop} {h h':AHeap} (k:ZcOk H W m e l z S h) (b:Bd (Sc S z) W H.nx h h'):ZcOk H W m e l z S h':=by
 have hle:=b.le
 have hoo:=k.ho.le
 exact ⟨(b.get k.sy.2 (.inl k.sy.1)).trans k.by_,(b.get (by have:=k.sm.1; omega) (.inr k.sm)).trans k.bm,(b.get (by have:=k.se.1; omega) (.inr k.se)).trans k.be,(b.get k.sf.2 (.inl k.sf.1)).trans k.bf,⟨k.sy.1,by have:=k.sy.2; omega⟩,⟨k.sf.1,by have:=k.sf.2; omega⟩,k.sm,k.se,⟨k.sl.1,by have:=k.sl.2.1; omega,k.sl.2.2⟩,⟨k.sb.1,by have:=k.sb.2.1; omega,k.sb.2.2⟩,k.lb,b.out k.ho⟩
/-- What the recursion leaves. -/
def ChPost (H:AHeap) (W:Nat → Prop) (m:Nat) (z:ZC) (Sx:Nat → Prop) (I:Nat → (Nat → Prop) → AHeap → Prop) (E:(Nat → Prop) → AHeap → Prop) (pre:List Int) (h:AHeap) (k2:Nat) (u:Value) (h':AHeap):Prop:=
 Bd (Sc Sx z) W H.nx h h' ∧ ((u = .bool true ∧ LB z pre m h' ∧ I k2 Sx h') ∨ (u = .bool false ∧ E Sx h'))
theorem choose_leaf (S:Ev.Steps Tryz.prog pr R) (hoff:Off pr) (H:AHeap) (W:Nat → Prop) (m e l:Nat) (hm:m ≤ 1000) (z:ZC) (xs:List (List Int)) (I:Nat → (Nat → Prop) → AHeap → Prop) (E:(Nat → Prop) → AHeap → Prop) (D:Doer Tryz.prog R H W l xs I E)
  (f:Nat) (pre:List Int) (k:Nat) (h:AHeap) (Sx:Nat → Prop) (hpm:pre.length = m) (hS:∀ j,Sx j → H.nx ≤ j ∧ j < h.nx) (hz:ZcOk H W m e l z Sx h) (lb:LB z pre m h) (i:I k Sx h) (hx:xs[k]? = some pre) :
  gJ Tryz.prog R 101 [iv (f:Int),bG z.l,bG z.m,bG z.y,bG z.e,bG z.f] h (ChPost H W m z Sx I E pre h (k + 1)):=by
 obtain ⟨C,c1,c2,c3⟩:=lb.ex
 have hC:C = pre:=by rw [← c2,List.take_of_length_le (by omega)]
 subst hC
 have hbl:=lb.bl
 rw [hpm] at hbl
 have lsl:∀ (t:T Value) (h1:AHeap) (o:Oper),qJ Tryz.prog t h1 o 35 (.slice (some ⟨z.b,0,none⟩) m m) = some (iv (m:Int)):=fun _ _ _=>lT isI
 have e1:decide ((m:Int) = (m:Int)) = true:=by simp
 refine gW (fn:=Tryz.f101) (c:=(Tryz.f101.body).getD .skip) (by kernel_rfl) rfl (by kernel_rfl) rfl (fun K hK=>?_)
 generalize hF:finish Tryz.prog Tryz.f101 K = KF
 simp only [Tryz.f101,Option.getD_some,bJ,aX,aZ,T.setK_eq,id]
 repeat refine S.seq ?_
 refine S.region ?_
 simp (disch:=first|omega|simp only [aA,aB]<;>omega|decide) only [rUz,↓reduceIte,reduceEqDiff,reduceAdd]
 repeat refine S.seq ?_
 refine S.region ?_
 simp (disch:=first|omega|simp only [aA,aB]<;>omega|decide) only [rUz,↓reduceIte,reduceEqDiff,reduceAdd,hbl,qI,lsl,hz.bm,p3]
 repeat refine S.seq ?_
 refine S.cond (v:=true) (by first|rfl|(simp (disch:=first|omega|simp only [aA,aB]<;>omega|decide) only [rUz,↓reduceIte,reduceEqDiff,reduceAdd,e1]<;>rfl)) (fun _=>?_) (fun e=>by cases e)
 repeat refine S.seq ?_
 refine S.drawnL [(false,0),(false,0),(true,2),(true,7),(false,15)] (by kernel_rfl) (by kernel_rfl) (by kernel_rfl) ?_
 simp (disch:=first|omega|simp only [aA,aB]<;>omega|decide) only [rUz,↓reduceIte,reduceEqDiff,reduceAdd,rDz,infoL,reduceSub,hz.by_,pTy,hbl,qI]
 have hcl:=clone_c S h z.b m z.b false C hz.sb.2.1 c3 (by omega)
 rw [hpm] at hcl
 refine dC (fid:=72) (first:=#[]) (captured:=#[]) (Post:=fun u g=>INew h.nx g u C) rfl (hoff _ _ _ rfl) (by simp (disch:=first|omega|simp only [aA,aB]<;>omega|decide) only [rUz,↓reduceIte,reduceEqDiff,reduceAdd]; exact hcl) (Nat.le_of_ble_eq_true rfl) ?_
 rintro u g hkg ⟨bq,fq,rfl,bq1,bq2,bq3⟩
 have hz2:=hz.bd hkg.bd
 have lb2:=lb.kp hz.sl.2.1 hz.sb.2.1 hkg
 have hbl2:=lb2.bl
 rw [hpm] at hbl2
 refine ⟨?_,?_⟩
 ·try simp (disch:=first|decide|rfl) only [aK,aG,aH]
  rw [bF (v:=.func (.yield l) #[] #[]) (by simp (disch:=first|omega|simp only [aA,aB]<;>omega|decide) only [rUz,↓reduceIte,reduceEqDiff,reduceAdd,rDz,infoL,reduceSub,hz2.by_,pTy]) (veq_yield l)]
  try simp (disch:=first|decide|rfl) only [aK,aG,aH]
 simp (disch:=first|omega|simp only [aA,aB]<;>omega|decide) only [rUz,↓reduceIte,reduceEqDiff,reduceAdd,rDz,infoL,reduceSub]
 refine drW_yield (l:=l) (by simp (disch:=first|omega|simp only [aA,aB]<;>omega|decide) only [rUz,↓reduceIte,reduceEqDiff,reduceAdd,rDz,infoL,reduceSub]) (Nat.le_of_ble_eq_true rfl) ?_
 simp (disch:=first|omega|simp only [aA,aB]<;>omega|decide) only [rUz,↓reduceIte,reduceEqDiff,reduceAdd,rDz,infoL,reduceSub]
 have iS:I k Sx g:=(D.hI k).kp i hkg
 have hgn:=hkg.1
 refine D.body k C Sx g _ hx ⟨bq,fq,rfl,by have:=hz.ho.le; omega,bq2,fun h=>?_,bq3⟩ iS hz2.ho (fun j hj=>by have:=hS j hj; omega) _ (fun h' b i'=>?_) (fun h' b e'=>?_)
 ·have:=hS _ h; omega
 ·refine yk_of ?_ ?_
  ·try simp (disch:=first|decide|rfl) only [aK,aG,aH]
  try simp (disch:=first|omega|simp only [aA,aB]<;>omega|decide) only [rUz,↓reduceIte,reduceEqDiff,reduceAdd,rDz,infoL,reduceSub]
  refine S.ret ?_
  try simp only [aJ,aF]
  subst hF
  simp only [finish,aI]
  rw [show Tryz.f101.results.toList = [.tmp 7] from rfl]
  simp (disch:=first|omega|simp only [aA,aB]<;>omega|decide) only [bK,aY,aS,aT,aQ,aU,aO,upd_ne,aP,aW,result1]
  have bS:=(hkg.bd (S:=Sx) (W:=W) (N:=H.nx)).trans b
  refine hK _ _ ⟨bS.mono fun j _ hj=>hj.1,.inl ⟨rfl,⟨⟨C,c1,c2,?_⟩,by omega,?_,?_,?_⟩,i'⟩⟩
  ·exact (bS.get hz.sb.2.1 (.inl hz.sb.1)).trans c3
  ·exact (bS.fget hz.sb.2.1 (.inl hz.sb.1)).trans lb.fb
  ·exact (bS.get hz.sl.2.1 (.inl hz.sl.1)).trans lb.bl
  ·exact (bS.fget hz.sl.2.1 (.inl hz.sl.1)).trans lb.fl
 ·refine yk_of ?_ ?_
  ·try simp (disch:=first|decide|rfl) only [aK,aG,aH]
  try simp (disch:=first|omega|simp only [aA,aB]<;>omega|decide) only [rUz,↓reduceIte,reduceEqDiff,reduceAdd,rDz,infoL,reduceSub]
  refine S.ret ?_
  try simp only [aJ,aF]
  subst hF
  simp only [finish,aI]
  rw [show Tryz.f101.results.toList = [.tmp 7] from rfl]
  simp (disch:=first|omega|simp only [aA,aB]<;>omega|decide) only [bK,aY,aS,aT,aQ,aU,aO,upd_ne,aP,aW,result1]
  have bS:=(hkg.bd (S:=Sx) (W:=W) (N:=H.nx)).trans b
  exact hK _ _ ⟨bS.mono fun j _ hj=>hj.1,.inr ⟨rfl,e'⟩⟩
end Go.Proofs.Po

/- All increasing lists of so many indexes: the recursion, and the walk over them. -/
namespace Go.Proofs.Po
open Nat (reduceEqDiff reduceAdd reduceSub)
open Go Go.Ev Go.RowKit
set_option linter.unusedSimpArgs false
variable {pr:Prim} {R:ExT}
theorem pFi (c:List Value) (o:Nat):dD Tryz.prog 147 c o = c[o]?:=by kernel_rfl
theorem zFi:zeroOf Tryz.prog 147 = some .nilFunc:=by kernel_rfl
theorem sFi:bH Tryz.prog 147 = some 1:=by kernel_rfl
def gZ (e n i:Nat):List (List Int):=(chZ e n (i + 1)).map (((i:Nat):Int) :: ·)
def rZ (e n i:Nat):List (List Int):=(List.range' i (e - i)).flatMap (gZ e n)
theorem chZ_succ (e n f:Nat):chZ e (n + 1) f = rZ e n f:=rfl
theorem rZ_step {e n i:Nat} (h:i < e):rZ e n i = gZ e n i ++ rZ e n (i + 1):=by
 unfold rZ
 rw [show e - i = (e - (i + 1)) + 1 from by omega,List.range'_succ,List.flatMap_cons]
theorem rZ_end {e n i:Nat} (h:¬ i < e):rZ e n i = []:=by
 unfold rZ
 rw [show e - i = 0 from by omega]; rfl
theorem gZ_map (e n i:Nat) (pre:List Int):(gZ e n i).map (pre ++ ·) = (chZ e n (i + 1)).map ((pre ++ [(i:Int)]) ++ ·):=by
 unfold gZ
 rw [List.map_map]
 congr 1
 funext l
 show pre ++ ((i:Int) :: l) = (pre ++ [(i:Int)]) ++ l
 rw [List.append_assoc]; rfl
theorem push_ok {H:AHeap} {W:Nat → Prop} {z:ZC} {pre C:List Int} {m i:Nat} {Sx:Nat → Prop} {h:AHeap} {x:List Value} (lb:LB z pre m h) (c1:C.length = m) (c2:C.take pre.length = pre) (hl:Sx z.l ∧ z.l < h.nx ∧ H.nx ≤ z.l) (hb:Sx z.b ∧ z.b < h.nx ∧ H.nx ≤ z.b) (hne:z.l ≠ z.b) (hlt:pre.length < m) :
  LB z (pre ++ [(i:Int)]) m (((h.add x).upd z.b ((C.map iv).set pre.length (iv (i:Int))) z.b).upd z.l [.slice (some ⟨z.b,0,none⟩) (pre.length + 1) m] z.l) ∧
  Out Sx h (((h.add x).upd z.b ((C.map iv).set pre.length (iv (i:Int))) z.b).upd z.l [.slice (some ⟨z.b,0,none⟩) (pre.length + 1) m] z.l) ∧
  Bd (Sc Sx z) W H.nx h (((h.add x).upd z.b ((C.map iv).set pre.length (iv (i:Int))) z.b).upd z.l [.slice (some ⟨z.b,0,none⟩) (pre.length + 1) m] z.l):=by
 have key:∀ j,j < h.nx → j ≠ z.l → j ≠ z.b → (((h.add x).upd z.b ((C.map iv).set pre.length (iv (i:Int))) z.b).upd z.l [.slice (some ⟨z.b,0,none⟩) (pre.length + 1) m] z.l).bl.get j = h.bl.get j:=fun j hj h1 h2=>by
  rw [upd_ne _ _ _ h1,upd_ne _ _ _ h2,aW (by omega)]
 have kf:∀ j,j < h.nx → (((h.add x).upd z.b ((C.map iv).set pre.length (iv (i:Int))) z.b).upd z.l [.slice (some ⟨z.b,0,none⟩) (pre.length + 1) m] z.l).fams.get j = h.fams.get j:=fun j hj=>by
  rw [bM,bM,nD (by omega)]
 have hlen:(pre ++ [(i:Int)]).length = pre.length + 1:=by rw [List.length_append]; rfl
 refine ⟨⟨⟨C.set pre.length (i:Int),by rw [List.length_set]; exact c1,?_,?_⟩,by rw [hlen]; omega,(kf _ hb.2.1).trans lb.fb,by rw [hlen]; exact aO _ _ _,(kf _ hl.2.1).trans lb.fl⟩,⟨Nat.le_succ _,fun j hj hn=>⟨key j hj (fun e=>hn (e ▸ hl.1)) (fun e=>hn (e ▸ hb.1)),kf j hj⟩⟩,⟨Nat.le_succ _,fun j hj hn=>?_⟩⟩
 ·rw [hlen,List.take_add_one,List.getElem?_set_self (by omega),List.take_set_of_le (Nat.le_refl _),c2]; rfl
 ·rw [upd_ne _ _ _ (fun e=>hne e.symm),aO,List.map_set]
 ·rcases hn with hn|hn
  ·exact ⟨key j hj hn.2.1 hn.2.2,kf j hj⟩
  ·exact ⟨key j hj (by omega) (by omega),kf j hj⟩
theorem pop_ok {H:AHeap} {W:Nat → Prop} {z:ZC} {pre:List Int} {m i:Nat} {Sx:Nat → Prop} {h:AHeap} (lb:LB z (pre ++ [(i:Int)]) m h) (hl:Sx z.l ∧ z.l < h.nx ∧ H.nx ≤ z.l) (hne:z.l ≠ z.b) :
  LB z pre m (h.upd z.l [.slice (some ⟨z.b,0,none⟩) pre.length m] z.l) ∧ Out Sx h (h.upd z.l [.slice (some ⟨z.b,0,none⟩) pre.length m] z.l) ∧ Bd (Sc Sx z) W H.nx h (h.upd z.l [.slice (some ⟨z.b,0,none⟩) pre.length m] z.l):=by
 have hlen:(pre ++ [(i:Int)]).length = pre.length + 1:=by rw [List.length_append]; rfl
 obtain ⟨C,c1,c2,c3⟩:=lb.ex
 have hle:=lb.le
 rw [hlen] at c2 hle
 refine ⟨⟨⟨C,c1,?_,by rw [upd_ne _ _ _ (fun e=>hne e.symm)]; exact c3⟩,by omega,by rw [bM]; exact lb.fb,aO _ _ _,by rw [bM]; exact lb.fl⟩,xQ hl.1,(xQ (S:=fun j=>j = z.l) rfl).bd fun j hj hn e=>?_⟩
 ·have:=congrArg (List.take pre.length) c2
  rw [List.take_take,Nat.min_eq_left (by omega),List.take_left' rfl] at this
  exact this
 ·rcases hn with hn|hn
  ·exact hn.2.1 e
  ·omega
structure JI (H:AHeap) (W:Nat → Prop) (m e n K2:Nat) (z:ZC) (Sx:Nat → Prop) (I:Nat → (Nat → Prop) → AHeap → Prop) (xs rest:List (List Int)) (pre:List Int) (G:AHeap) (i:Nat) (t:T Value) (h:AHeap):Prop where
 bd:Bd (Sc Sx z) W H.nx G h
 lb:LB z pre m h
 ex:∃ k',I k' Sx h ∧ xs.drop k' = (rZ e n i).map (pre ++ ·) ++ rest ∧ k' + (rZ e n i).length = K2
 t1:tget t 1 = bG z.l
 t2:tget t 2 = bG z.m
 t3:tget t 3 = bG z.y
 t4:tget t 4 = bG z.e
 t5:tget t 5 = bG z.f
 t8:tget t 8 = iv (i:Int)
theorem choose_step (S:Ev.Steps Tryz.prog pr R) (hoff:Off pr) (H:AHeap) (W:Nat → Prop) (m en l:Nat) (hm:m ≤ 1000) (he0:en ≤ 1000) (z:ZC) (xs:List (List Int)) (I:Nat → (Nat → Prop) → AHeap → Prop) (E:(Nat → Prop) → AHeap → Prop) (D:Doer Tryz.prog R H W l xs I E) (n:Nat)
  (ih:∀ (f:Nat) (pre:List Int) (k:Nat) (rest:List (List Int)) (h:AHeap) (Sx:Nat → Prop),pre.length + n = m → (∀ j,Sx j → H.nx ≤ j ∧ j < h.nx) → ZcOk H W m en l z Sx h → LB z pre m h → I k Sx h → xs.drop k = (chZ en n f).map (pre ++ ·) ++ rest →
   gJ Tryz.prog R 101 [iv (f:Int),bG z.l,bG z.m,bG z.y,bG z.e,bG z.f] h (ChPost H W m z Sx I E pre h (k + (chZ en n f).length)))
  (f:Nat) (pre:List Int) (k:Nat) (rest:List (List Int)) (h:AHeap) (Sx:Nat → Prop) (hpm:pre.length + (n + 1) = m) (hS:∀ j,Sx j → H.nx ≤ j ∧ j < h.nx) (hz:ZcOk H W m en l z Sx h) (lb:LB z pre m h) (i0:I k Sx h) (hx:xs.drop k = (chZ en (n + 1) f).map (pre ++ ·) ++ rest) :
  gJ Tryz.prog R 101 [iv (f:Int),bG z.l,bG z.m,bG z.y,bG z.e,bG z.f] h (ChPost H W m z Sx I E pre h (k + (chZ en (n + 1) f).length)):=by
 rw [chZ_succ] at hx
 rw [chZ_succ]
 obtain ⟨d,hd⟩:∃ d,d = pre.length:=⟨_,rfl⟩
 have hbl:=lb.bl
 rw [← hd] at hbl
 have lsl:∀ (d:Nat) (t:T Value) (h1:AHeap) (o:Oper),qJ Tryz.prog t h1 o 35 (.slice (some ⟨z.b,0,none⟩) d m) = some (iv (d:Int)):=fun _ _ _ _=>lT isI
 have e1:decide ((d:Int) = (m:Int)) = false:=by rw [decide_eq_false_iff_not]; omega
 refine gW (fn:=Tryz.f101) (c:=(Tryz.f101.body).getD .skip) (by kernel_rfl) rfl (by kernel_rfl) rfl (fun K hK=>?_)
 generalize hF:finish Tryz.prog Tryz.f101 K = KF
 simp only [Tryz.f101,Option.getD_some,bJ,aX,aZ,T.setK_eq,id]
 repeat refine S.seq ?_
 refine S.region ?_
 simp (disch:=first|omega|simp only [aA,aB]<;>omega|decide) only [rUz,↓reduceIte,reduceEqDiff,reduceAdd]
 repeat refine S.seq ?_
 refine S.region ?_
 simp (disch:=first|omega|simp only [aA,aB]<;>omega|decide) only [rUz,↓reduceIte,reduceEqDiff,reduceAdd,hbl,qI,lsl,hz.bm,p3]
 repeat refine S.seq ?_
 refine S.cond (v:=false) (by first|rfl|(simp (disch:=first|omega|simp only [aA,aB]<;>omega|decide) only [rUz,↓reduceIte,reduceEqDiff,reduceAdd,e1]<;>rfl)) (fun e=>by cases e) (fun _=>?_)
 repeat refine S.seq ?_
 refine S.skip ?_
 simp (disch:=first|omega|simp only [aA,aB]<;>omega|decide) only [rUz,↓reduceIte,reduceEqDiff,reduceAdd]
 repeat refine S.seq ?_
 refine S.region ?_
 simp (disch:=first|omega|simp only [aA,aB]<;>omega|decide) only [rUz,↓reduceIte,reduceEqDiff,reduceAdd]
 repeat refine S.seq ?_
 refine S.block ?_
 refine S.loop (ι:=Nat) (JI H W m en n (k + (rZ en n f).length) z Sx I xs rest pre h) (fun i=>en - i) ?_ f _ _ ?_
 rotate_left
 ·refine ⟨Bd.refl,lb,⟨k,i0,hx,rfl⟩,?_,?_,?_,?_,?_,?_⟩
  all_goals (first|rfl|(simp (disch:=first|omega|simp only [aA,aB]<;>omega|decide) only [rUz,↓reduceIte,reduceEqDiff,reduceAdd]<;>rfl))
 clear hx i0 hbl lb
 intro i t g ⟨bd,lb,⟨k',ik,hxs,hlen⟩,t1,t2,t3,t4,t5,t8⟩ K' hn he
 have zk:=hz.bd bd
 have hbl:=lb.bl
 rw [← hd] at hbl
 repeat refine S.seq ?_
 refine S.region ?_
 simp (disch:=first|omega|simp only [aA,aB]<;>omega|decide) only [rUz,↓reduceIte,reduceEqDiff,reduceAdd,t8,t4,zk.be,p3]
 repeat refine S.seq ?_
 refine S.cond (v:=decide ((i:Int) < (en:Int))) (by first|rfl|(simp (disch:=first|omega|simp only [aA,aB]<;>omega|decide) only [rUz,↓reduceIte,reduceEqDiff,reduceAdd]<;>rfl)) (fun e=>?_) (fun e=>?_)
 ·have hie:i < en:=by have:=of_decide_eq_true e; omega
  clear e
  rw [rZ_step hie] at hxs hlen
  obtain ⟨C,c1,c2,c3⟩:=lb.ex
  rw [← hd] at c2
  repeat refine S.seq ?_
  refine S.skip ?_
  simp (disch:=first|omega|simp only [aA,aB]<;>omega|decide) only [rUz,↓reduceIte,reduceEqDiff,reduceAdd]
  repeat refine S.seq ?_
  refine S.block ?_
  repeat refine S.seq ?_
  refine S.region ?_
  simp (disch:=first|omega|simp only [aA,aB]<;>omega|decide) only [rUz,↓reduceIte,reduceEqDiff,reduceAdd,t1,t8,hbl,qI,fH]
  refine uT slI s3' z3 rfl (by omega) (u:=iv (i:Int)) (l:=[iv (i:Int)]) (by simp (disch:=first|omega|simp only [aA,aB]<;>omega|decide) only [rUz,↓reduceIte,reduceEqDiff,reduceAdd]) rfl rfl ?_
  simp (disch:=first|omega|simp only [aA,aB]<;>omega|decide) only [rUz,↓reduceIte,reduceEqDiff,reduceAdd,kW]
  have c3':(g.add [iv (i:Int)]).bl.get z.b = some (.cells (C.map iv) z.b false):=by rw [aW (by have:=zk.sb; omega)]; exact c3
  have fb':(g.add [iv (i:Int)]).fams.get z.b = some [z.b]:=by rw [nD (by have:=zk.sb; omega)]; exact lb.fb
  refine wr_appIn (b:=z.b) (bx:=g.nx) (cx:=1) (fam:=z.b) (k0:=z.b) (len:=d) (cap:=m) (C:=C.map iv) (c:=iv (i:Int)) slI uI s3' (by simp (disch:=first|omega|simp only [aA,aB]<;>omega|decide) only [rUz,↓reduceIte,reduceEqDiff,reduceAdd]) (by simp (disch:=first|omega|simp only [aA,aB]<;>omega|decide) only [rUz,↓reduceIte,reduceEqDiff,reduceAdd]) (aP rfl) (by omega) c3' fb' (by rw [List.length_map]; omega) ?_
  simp (disch:=first|omega|simp only [aA,aB]<;>omega|decide) only [rUz,↓reduceIte,reduceEqDiff,reduceAdd]
  have b3:((g.add [iv (i:Int)]).upd z.b ((C.map iv).set d (iv (i:Int))) z.b).bl.get z.l = some (.cells [.slice (some ⟨z.b,0,none⟩) d m] z.l false):=by rw [upd_ne _ _ _ zk.lb,aW (by have:=zk.sl; omega)]; exact hbl
  have f3:((g.add [iv (i:Int)]).upd z.b ((C.map iv).set d (iv (i:Int))) z.b).fams.get z.l = some [z.l]:=by rw [bM,nD (by have:=zk.sl; omega)]; exact lb.fl
  refine gI (B:=z.l) (off:=0) (v:=.slice (some ⟨z.b,0,none⟩) (d + 1) m) (c:=[.slice (some ⟨z.b,0,none⟩) d m]) (fam:=z.l) (k0:=z.l) (by simp (disch:=first|omega|simp only [aA,aB]<;>omega|decide) only [rUz,↓reduceIte,reduceEqDiff,reduceAdd,t1]) (by simp (disch:=first|omega|simp only [aA,aB]<;>omega|decide) only [rUz,↓reduceIte,reduceEqDiff,reduceAdd]) lI' rfl rfl b3 f3 (by simp) ?_
  rw [show ([.slice (some ⟨z.b,0,none⟩) d m]:List Value).set 0 (.slice (some ⟨z.b,0,none⟩) (d + 1) m) = [.slice (some ⟨z.b,0,none⟩) (d + 1) m] from rfl]
  obtain ⟨lb2,o2,b2⟩:=push_ok (H:=H) (W:=W) (i:=i) (Sx:=Sx) (x:=[iv (i:Int)]) lb c1 (by rw [← hd]; exact c2) zk.sl zk.sb zk.lb (by omega)
  rw [← hd] at lb2 o2 b2
  simp (disch:=first|omega|simp only [aA,aB]<;>omega|decide) only [rUz,↓reduceIte,reduceEqDiff,reduceAdd]
  generalize ((g.add [iv (i:Int)]).upd z.b ((C.map iv).set d (iv (i:Int))) z.b).upd z.l [.slice (some ⟨z.b,0,none⟩) (d + 1) m] z.l = g2 at lb2 o2 b2 ⊢
  have z2:=zk.bd b2
  have ik2:I k' Sx g2:=D.hI _ _ _ _ _ ik o2 fun _ _ hj=>hj
  have hS2:∀ j,Sx j → H.nx ≤ j ∧ j < g2.nx:=fun j hj=>by have:=hS j hj; have:=bd.le; have:=b2.le; omega
  have hplen:(pre ++ [(i:Int)]).length = d + 1:=by rw [List.length_append,← hd]; rfl
  have hih:=ih (i + 1) (pre ++ [(i:Int)]) k' ((rZ en n (i + 1)).map (pre ++ ·) ++ rest) g2 Sx (by rw [hplen]; omega) hS2 z2 lb2 ik2 (by rw [hxs,List.map_append,gZ_map,List.append_assoc])
  clear c3' fb' b3 f3 c3 c1 c2 C
  repeat refine S.seq ?_
  refine S.region ?_
  simp (disch:=first|omega|simp only [aA,aB]<;>omega|decide) only [rUz,↓reduceIte,reduceEqDiff,reduceAdd,t5,z2.bf,pFi,t8]
  refine iT (fid:=101) (first:=#[]) (captured:=⟨z.caps⟩) (by simp (disch:=first|omega|simp only [aA,aB]<;>omega|decide) only [rUz,↓reduceIte,reduceEqDiff,reduceAdd]; rfl) (hoff _ _ _ rfl) (by simp (disch:=first|omega|simp only [aA,aB]<;>omega|decide) only [rUz,↓reduceIte,reduceEqDiff,reduceAdd]; exact hih) ?_
  rintro u g9 ⟨b9,hcase⟩
  rcases hcase with ⟨rfl,lb9,i9⟩|⟨rfl,e9⟩
  ·simp (disch:=first|omega|simp only [aA,aB]<;>omega|decide) only [rUz,↓reduceIte,reduceEqDiff,reduceAdd,dX]
   repeat refine S.seq ?_
   refine S.cond (v:=false) (by first|rfl|(simp (disch:=first|omega|simp only [aA,aB]<;>omega|decide) only [rUz,↓reduceIte,reduceEqDiff,reduceAdd,Bool.not_true]<;>rfl)) (fun e=>by cases e) (fun _=>?_)
   repeat refine S.seq ?_
   refine S.skip ?_
   simp (disch:=first|omega|simp only [aA,aB]<;>omega|decide) only [rUz,↓reduceIte,reduceEqDiff,reduceAdd]
   have z9:=z2.bd b9
   have hbl9:=lb9.bl
   rw [hplen] at hbl9
   have lsl9:∀ (t:T Value) (h1:AHeap) (o:Oper),qJ Tryz.prog t h1 o 35 (.slice (some ⟨z.b,0,none⟩) (d + 1) m) = some (iv ((d:Int) + 1)):=fun _ _ _=>lT isI
   have hcut:=fun (t:T Value) (h:AHeap) (o:Oper) (hx:ev Tryz.prog t (.tmp 35) = iv ((d:Int) + 1 - 1))=>cut_to (P:=Tryz.prog) (b:=z.b) (m:=d) (k:=d + 1) (c:=m) (t:=t) (h:=h) (o:=o) (x:=.tmp 35) slI s3' (z:=(d:Int) + 1 - 1) (by omega) (by omega) (by omega) hx
   repeat refine S.seq ?_
   refine S.region ?_
   simp (disch:=first|omega|simp only [aA,aB]<;>omega|decide) only [rUz,↓reduceIte,reduceEqDiff,reduceAdd,t1,hbl9,qI,lsl9]
   rw [hcut]
   rotate_left
   ·simp (disch:=first|omega|simp only [aA,aB]<;>omega|decide) only [rUz,↓reduceIte,reduceEqDiff,reduceAdd]
   simp (disch:=first|omega|simp only [aA,aB]<;>omega|decide) only [rUz,↓reduceIte,reduceEqDiff,reduceAdd]
   refine gI (B:=z.l) (off:=0) (v:=.slice (some ⟨z.b,0,none⟩) d m) (c:=[.slice (some ⟨z.b,0,none⟩) (d + 1) m]) (fam:=z.l) (k0:=z.l) (by simp (disch:=first|omega|simp only [aA,aB]<;>omega|decide) only [rUz,↓reduceIte,reduceEqDiff,reduceAdd,t1]) (by simp (disch:=first|omega|simp only [aA,aB]<;>omega|decide) only [rUz,↓reduceIte,reduceEqDiff,reduceAdd]) lI' rfl rfl hbl9 lb9.fl (by simp) ?_
   rw [show ([.slice (some ⟨z.b,0,none⟩) (d + 1) m]:List Value).set 0 (.slice (some ⟨z.b,0,none⟩) d m) = [.slice (some ⟨z.b,0,none⟩) d m] from rfl]
   obtain ⟨lb3,o3,b3⟩:=pop_ok (H:=H) (W:=W) (Sx:=Sx) lb9 z9.sl z9.lb
   rw [← hd] at lb3 o3 b3
   simp (disch:=first|omega|simp only [aA,aB]<;>omega|decide) only [rUz,↓reduceIte,reduceEqDiff,reduceAdd]
   generalize g9.upd z.l [.slice (some ⟨z.b,0,none⟩) d m] z.l = g3 at lb3 o3 b3 ⊢
   repeat refine S.seq ?_
   refine S.region ?_
   simp (disch:=first|omega|simp only [aA,aB]<;>omega|decide) only [rUz,↓reduceIte,reduceEqDiff,reduceAdd,t8]
   refine hn (i + 1) _ _ (by omega) ⟨((bd.trans b2).trans b9).trans b3,lb3,⟨k' + (chZ en n (i + 1)).length,D.hI _ _ _ _ _ i9 o3 fun _ _ hj=>hj,?_,?_⟩,?_,?_,?_,?_,?_,?_⟩
   ·rw [← List.drop_drop,hxs,List.map_append,List.append_assoc]
    exact List.drop_left' (by rw [List.length_map]; unfold gZ; rw [List.length_map])
   ·rw [List.length_append] at hlen
    rw [Nat.add_assoc,← hlen]
    unfold gZ
    rw [List.length_map]
   all_goals (first|rfl|(simp (disch:=first|omega|simp only [aA,aB]<;>omega|decide) only [rUz,↓reduceIte,reduceEqDiff,reduceAdd,t1,t2,t3,t4,t5]<;>rfl))
  ·simp (disch:=first|omega|simp only [aA,aB]<;>omega|decide) only [rUz,↓reduceIte,reduceEqDiff,reduceAdd,dX]
   repeat refine S.seq ?_
   refine S.cond (v:=true) (by first|rfl|(simp (disch:=first|omega|simp only [aA,aB]<;>omega|decide) only [rUz,↓reduceIte,reduceEqDiff,reduceAdd,Bool.not_false]<;>rfl)) (fun _=>?_) (fun e=>by cases e)
   repeat refine S.seq ?_
   refine S.region ?_
   simp (disch:=first|omega|simp only [aA,aB]<;>omega|decide) only [rUz,↓reduceIte,reduceEqDiff,reduceAdd]
   refine S.ret ?_
   simp only [aJ,aF]
   refine he _ _ _ _ (fun e=>by cases e) ?_
   try simp only [aJ,aF]
   subst hF
   simp only [finish,aI]
   rw [show Tryz.f101.results.toList = [.tmp 7] from rfl]
   simp (disch:=first|omega|simp only [aA,aB]<;>omega|decide) only [bK,aY,aS,aT,aQ,aU,aO,upd_ne,aP,aW,result1]
   exact hK _ _ ⟨(bd.trans b2).trans b9,.inr ⟨rfl,e9⟩⟩
 have hie:¬ i < en:=by have:=of_decide_eq_false e; omega
 rw [rZ_end hie] at hxs hlen
 refine S.exit (he _ _ _ _ (fun e=>by cases e) ?_)
 simp (disch:=first|omega|simp only [aA,aB]<;>omega|decide) only [rUz,↓reduceIte,reduceEqDiff,reduceAdd]
 repeat refine S.seq ?_
 refine S.region ?_
 simp (disch:=first|omega|simp only [aA,aB]<;>omega|decide) only [rUz,↓reduceIte,reduceEqDiff,reduceAdd]
 refine S.ret ?_
 try simp only [aJ,aF]
 subst hF
 simp only [finish,aI]
 rw [show Tryz.f101.results.toList = [.tmp 7] from rfl]
 simp (disch:=first|omega|simp only [aA,aB]<;>omega|decide) only [bK,aY,aS,aT,aQ,aU,aO,upd_ne,aP,aW,result1]
 exact hK _ _ ⟨bd,.inl ⟨rfl,lb,by rw [← hlen]; exact ik⟩⟩
end Go.Proofs.Po

/- All increasing lists of so many indexes: the walk over them. -/
namespace Go.Proofs.Po
open Nat (reduceEqDiff reduceAdd reduceSub)
open Go Go.Ev Go.RowKit
set_option linter.unusedSimpArgs false
variable {pr:Prim} {R:ExT}
theorem choose_y (S:Ev.Steps Tryz.prog pr R) (hoff:Off pr) (H:AHeap) (W:Nat → Prop) (m en l:Nat) (hm:m ≤ 1000) (he0:en ≤ 1000) (z:ZC) (xs:List (List Int)) (I:Nat → (Nat → Prop) → AHeap → Prop) (E:(Nat → Prop) → AHeap → Prop) (D:Doer Tryz.prog R H W l xs I E) :
  ∀ (n f:Nat) (pre:List Int) (k:Nat) (rest:List (List Int)) (h:AHeap) (Sx:Nat → Prop),pre.length + n = m → (∀ j,Sx j → H.nx ≤ j ∧ j < h.nx) → ZcOk H W m en l z Sx h → LB z pre m h → I k Sx h → xs.drop k = (chZ en n f).map (pre ++ ·) ++ rest →
   gJ Tryz.prog R 101 [iv (f:Int),bG z.l,bG z.m,bG z.y,bG z.e,bG z.f] h (ChPost H W m z Sx I E pre h (k + (chZ en n f).length))
 | 0,f,pre,k,rest,h,Sx,hp,hS,hz,lb,i,hx=>by
  have hxk:xs[k]? = some pre:=by
   have:xs.drop k = pre :: rest:=by rw [hx]; show (pre ++ []) :: rest = _; rw [List.append_nil]
   exact (drop_cons this.symm).1
  exact choose_leaf S hoff H W m en l hm z xs I E D f pre k h Sx hp hS hz lb i hxk
 | n + 1,f,pre,k,rest,h,Sx,hp,hS,hz,lb,i,hx =>
  choose_step S hoff H W m en l hm he0 z xs I E D n (fun f pre k rest h Sx a1 a2 a3 a4 a5 a6=>choose_y S hoff H W m en l hm he0 z xs I E D n f pre k rest h Sx a1 a2 a3 a4 a5 a6) f pre k rest h Sx hp hS hz lb i hx
theorem choicesIt (S:Ev.Steps Tryz.prog pr R) (hoff:Off pr) (H:AHeap) (W:Nat → Prop) (Bm Be m en:Nat) (hm:m ≤ 1000) (he0:en ≤ 1000) (hbm:Bm < H.nx ∧ ¬ W Bm) (hbe:Be < H.nx ∧ ¬ W Be) (hgm:H.bl.get Bm = some (.cells [iv (m:Int)] Bm false)) (hge:H.bl.get Be = some (.cells [iv (en:Int)] Be false)) :
  Iters Tryz.prog R 100 (fun y=>[y,bG Bm,bG Be]) H W (chZ en m 0) (AtT H):=by
 intro l I E K hI hE i0 body done stop
 refine call_run (fn:=Tryz.f100) (c:=(Tryz.f100.body).getD .skip) (by kernel_rfl) rfl (by kernel_rfl) rfl ?_
 generalize hF:finish Tryz.prog Tryz.f100 K = KF
 simp only [Tryz.f100,Option.getD_some,bJ,aX,aZ,T.setK_eq,id]
 repeat refine S.seq ?_
 refine S.region ?_
 simp (disch:=first|omega|simp only [aA,aB]<;>omega|decide) only [rUz,↓reduceIte,reduceEqDiff,reduceAdd]
 obtain ⟨By,hBy⟩:∃ x,x = H.nx:=⟨_,rfl⟩
 have g1:(H.add [.func (.yield l) #[] #[]]).bl.get Bm = some (.cells [iv (m:Int)] Bm false):=by rw [aW (by omega)]; exact hgm
 have by0:(H.add [.func (.yield l) #[] #[]]).bl.get By = some (.cells [.func (.yield l) #[] #[]] By false):=by subst hBy; exact aP rfl
 have k0:Kp H (H.add [.func (.yield l) #[] #[]]):=Kp.refl.add
 have n0:(H.add [.func (.yield l) #[] #[]]).nx = H.nx + 1:=rfl
 rw [← hBy]
 generalize H.add [.func (.yield l) #[] #[]] = Ha at g1 by0 k0 n0 ⊢
 repeat refine S.seq ?_
 refine S.region ?_
 simp (disch:=first|omega|simp only [aA,aB]<;>omega|decide) only [rUz,↓reduceIte,reduceEqDiff,reduceAdd,g1,p3,mQ]
 refine wr_makeCap (k:=m) slI info3 z3 info3b info3s (by simp (disch:=first|omega|simp only [aA,aB]<;>omega|decide) only [rUz,↓reduceIte,reduceEqDiff,reduceAdd]) (by simp (disch:=first|omega|simp only [aA,aB]<;>omega|decide) only [rUz,↓reduceIte,reduceEqDiff,reduceAdd]) (by omega) ?_
 obtain ⟨Bb,hBb⟩:∃ x,x = Ha.nx:=⟨_,rfl⟩
 have k1:Kp Ha (Ha.add ((List.replicate m 0).map iv)):=Kp.refl.add
 have n1:(Ha.add ((List.replicate m 0).map iv)).nx = Ha.nx + 1:=rfl
 have bb1:(Ha.add ((List.replicate m 0).map iv)).bl.get Bb = some (.cells ((List.replicate m 0).map iv) Bb false):=by subst hBb; exact aP rfl
 have fb1:(Ha.add ((List.replicate m 0).map iv)).fams.get Bb = some [Bb]:=by subst hBb; exact dL rfl
 rw [← hBb]
 generalize Ha.add ((List.replicate m 0).map iv) = Hb at bb1 fb1 k1 n1 ⊢
 simp (disch:=first|omega|simp only [aA,aB]<;>omega|decide) only [rUz,↓reduceIte,reduceEqDiff,reduceAdd,cO zTi,cs0]
 obtain ⟨Bl,hBl⟩:∃ x,x = Hb.nx:=⟨_,rfl⟩
 refine gI (B:=Hb.nx) (off:=0) (v:=.slice (some ⟨Bb,0,none⟩) 0 m) (c:=[nl]) (fam:=Hb.nx) (k0:=Hb.nx) (by simp (disch:=first|omega|simp only [aA,aB]<;>omega|decide) only [rUz,↓reduceIte,reduceEqDiff,reduceAdd]) (by simp (disch:=first|omega|simp only [aA,aB]<;>omega|decide) only [rUz,↓reduceIte,reduceEqDiff,reduceAdd]) lI' rfl rfl (aP rfl) (dL rfl) (by simp) ?_
 rw [show ([nl]:List Value).set 0 (.slice (some ⟨Bb,0,none⟩) 0 m) = [.slice (some ⟨Bb,0,none⟩) 0 m] from rfl]
 have k2:Kp Hb ((Hb.add [nl]).upd Hb.nx [.slice (some ⟨Bb,0,none⟩) 0 m] Hb.nx):=Kp.refl.add.upd (Nat.le_refl _)
 have bl0:((Hb.add [nl]).upd Hb.nx [.slice (some ⟨Bb,0,none⟩) 0 m] Hb.nx).bl.get Hb.nx = some (.cells [.slice (some ⟨Bb,0,none⟩) 0 m] Hb.nx false):=aO _ _ _
 have fl0:((Hb.add [nl]).upd Hb.nx [.slice (some ⟨Bb,0,none⟩) 0 m] Hb.nx).fams.get Hb.nx = some [Hb.nx]:=by rw [bM]; exact dL rfl
 have n2:((Hb.add [nl]).upd Hb.nx [.slice (some ⟨Bb,0,none⟩) 0 m] Hb.nx).nx = Hb.nx + 1:=rfl
 simp (disch:=first|omega|simp only [aA,aB]<;>omega|decide) only [rUz,↓reduceIte,reduceEqDiff,reduceAdd]
 rw [← hBl] at k2 bl0 fl0 n2 ⊢
 generalize (Hb.add [nl]).upd Bl [.slice (some ⟨Bb,0,none⟩) 0 m] Bl = Hc at k2 bl0 fl0 n2 ⊢
 repeat refine S.seq ?_
 refine S.region ?_
 simp (disch:=first|omega|simp only [aA,aB]<;>omega|decide) only [rUz,↓reduceIte,reduceEqDiff,reduceAdd,cO zFi,cf0]
 obtain ⟨Bf,hBf⟩:∃ x,x = Hc.nx:=⟨_,rfl⟩
 have k3:Kp Hc (Hc.add [.nilFunc]):=Kp.refl.add
 have n3:(Hc.add [.nilFunc]).nx = Hc.nx + 1:=rfl
 have bf1:(Hc.add [.nilFunc]).bl.get Bf = some (.cells [.nilFunc] Bf false):=by subst hBf; exact aP rfl
 have ff1:(Hc.add [.nilFunc]).fams.get Bf = some [Bf]:=by subst hBf; exact dL rfl
 rw [← hBf]
 generalize Hc.add [.nilFunc] = Hd at bf1 ff1 k3 n3 ⊢
 obtain ⟨z,hz⟩:∃ z:ZC,z = ⟨Bl,Bb,By,Bf,Bm,Be⟩:=⟨_,rfl⟩
 repeat refine S.seq ?_
 refine S.region ?_
 simp (disch:=first|omega|simp only [aA,aB]<;>omega|decide) only [rUz,↓reduceIte,reduceEqDiff,reduceAdd]
 refine gI (B:=Bf) (off:=0) (v:=mF z) (c:=[.nilFunc]) (fam:=Bf) (k0:=Bf) (by simp (disch:=first|omega|simp only [aA,aB]<;>omega|decide) only [rUz,↓reduceIte,reduceEqDiff,reduceAdd]) (by subst hz; simp (disch:=first|omega|simp only [aA,aB]<;>omega|decide) only [rUz,↓reduceIte,reduceEqDiff,reduceAdd]; rfl) sFi rfl rfl bf1 ff1 (by simp) ?_
 rw [show ([Value.nilFunc]:List Value).set 0 (mF z) = [mF z] from rfl]
 have o4:∀ j,j ≠ Bf → (Hd.upd Bf [mF z] Bf).bl.get j = Hd.bl.get j:=fun j hj=>upd_ne _ _ _ hj
 have f4:∀ j,(Hd.upd Bf [mF z] Bf).fams.get j = Hd.fams.get j:=fun j=>by rw [bM]
 have bf4:(Hd.upd Bf [mF z] Bf).bl.get Bf = some (.cells [mF z] Bf false):=aO _ _ _
 have n4:(Hd.upd Bf [mF z] Bf).nx = Hd.nx:=rfl
 simp (disch:=first|omega|simp only [aA,aB]<;>omega|decide) only [rUz,↓reduceIte,reduceEqDiff,reduceAdd]
 generalize Hd.upd Bf [mF z] Bf = Hz at o4 f4 bf4 n4 ⊢
 repeat refine S.seq ?_
 refine S.region ?_
 simp (disch:=first|omega|simp only [aA,aB]<;>omega|decide) only [rUz,↓reduceIte,reduceEqDiff,reduceAdd,bf4,pFi]
 have g:∀ j,j < Hc.nx → Hz.bl.get j = Hc.bl.get j:=fun j hj=>(o4 j (by omega)).trans (k3.get hj)
 have gf:∀ j,j < Hc.nx → Hz.fams.get j = Hc.fams.get j:=fun j hj=>(f4 j).trans (k3.fget hj)
 have kH:Kp H Hz:=by
  have kc:=(k0.trans k1).trans k2
  refine ⟨by omega,fun j hj=>⟨(g j (by omega)).trans (kc.get hj),(gf j (by omega)).trans (kc.fget hj)⟩⟩
 have iz:I 0 (fun j=>H.nx ≤ j ∧ j < Hz.nx) Hz:=hI 0 _ _ _ _ i0 kH.out fun j hj hq=>by omega
 have zz:ZcOk H W m en l z (fun j=>H.nx ≤ j ∧ j < Hz.nx) Hz:=by
  subst hz
  refine ⟨(g By (by omega)).trans ((k2.get (by omega)).trans ((k1.get (by omega)).trans by0)),(kH.get hbm.1).trans hgm,(kH.get hbe.1).trans hge,bf4,⟨⟨⟨?_,?_⟩,?_,?_⟩,?_⟩,⟨⟨⟨?_,?_⟩,?_,?_⟩,?_⟩,hbm,hbe,⟨⟨?_,?_⟩,?_,?_⟩,⟨⟨?_,?_⟩,?_,?_⟩,?_,kH.out⟩
  all_goals (dsimp only; omega)
 have lz:LB z [] m Hz:=by
  subst hz
  exact ⟨⟨List.replicate m 0,List.length_replicate,rfl,(g Bb (by omega)).trans ((k2.get (by omega)).trans bb1)⟩,Nat.zero_le _,(gf Bb (by omega)).trans ((k2.fget (by omega)).trans fb1),(g Bl (by omega)).trans bl0,(gf Bl (by omega)).trans fl0⟩
 have hh:=choose_y S hoff H W m en l hm he0 z (chZ en m 0) I E ⟨hI,hE,body⟩ m 0 [] 0 [] Hz (fun j=>H.nx ≤ j ∧ j < Hz.nx) (by simp) (fun j hj=>hj) zz lz iz (by rw [List.drop_zero,List.append_nil,show (fun l:List Int=>[] ++ l) = id from funext fun l=>List.nil_append l,List.map_id])
 refine iT (fid:=101) (first:=#[]) (captured:=⟨z.caps⟩) (by simp (disch:=first|omega|simp only [aA,aB]<;>omega|decide) only [rUz,↓reduceIte,reduceEqDiff,reduceAdd]; rfl) (hoff _ _ _ rfl) (by simp (disch:=first|omega|simp only [aA,aB]<;>omega|decide) only [rUz,↓reduceIte,reduceEqDiff,reduceAdd]; exact hh) ?_
 rintro u h9 ⟨b9,hcase⟩
 simp (disch:=first|omega|simp only [aA,aB]<;>omega|decide) only [rUz,↓reduceIte,reduceEqDiff,reduceAdd]
 subst hF
 simp only [finish,aI]
 rw [show Tryz.f100.results.toList = [] from rfl]
 simp only [bK,result1]
 rcases hcase with ⟨_,_,i9⟩|⟨_,e9⟩
 ·refine done (fun j=>H.nx ≤ j ∧ j < Hz.nx) _ ?_ (b9.out kH.out)
  rw [Nat.zero_add] at i9
  exact i9
 ·exact stop _ _ e9 (b9.out kH.out)
end Go.Proofs.Po

/- The first increasing list that fits: what is kept while they are gone through. -/
namespace Go.Proofs.Po
open Nat (reduceEqDiff reduceAdd reduceSub)
open Go Go.Ev Go.RowKit
set_option linter.unusedSimpArgs false
variable {pr:Prim} {R:ExT}
/-- A loop whose rounds leave marks. -/
theorem Steps.loopD {P:Program} {n:Nat} {rd:Option Nat} {K:KT} (S:Ev.Steps P pr R) {b:Code} {ι:Type} (I:ι → T Value → AHeap → List Nat → Prop) (μ:ι → Nat)
  (body:∀ i t h ds,I i t h ds → ∀ K':KT,(∀ j t' h' ds',μ j < μ i → I j t' h' ds' → K' .normal t' h' ds' = true) → (∀ e t' h' ds',e ≠ .normal → K e t' h' ds' = true → K' e t' h' ds' = true) → R n rd b t h ds K' = true) :
  ∀ i t h ds,I i t h ds → R n rd (.loop b) t h ds K = true:=by
 intro i
 generalize hm:μ i = k
 induction k using Nat.strongRecOn generalizing i with
 | _ k ih =>
  intro t h ds hI
  refine S.step ?_
  show eF P R n rd (.loop b) t h ds K = true
  simp only [eF]
  refine body i t h ds hI _ (fun j t' h' ds' hlt hj=>?_) (fun e t' h' ds' hne hK=>?_)
  ·exact ih (μ j) (by omega) j rfl t' h' ds' hj
  ·cases e with
   | normal=>exact absurd rfl hne
   | _=>exact hK
theorem rG {KE:AHeap → Bool}:∀ (ds:List Nat) (h:AHeap),ds.Nodup → (∀ d,d ∈ ds → h.bl.get d = some (.deferred true)) → (∀ h',Out (fun j=>j ∈ ds) h h' → KE h' = true) → aI h ds KE = true
 | [],h,_,_,k=>k h Out.refl
 | d :: ds,h,hn,hd,k=>by
  have hd0:=hd d (by simp)
  simp only [aI,hd0,kM]
  have hnd:=List.nodup_cons.1 hn
  refine rG ds _ hnd.2 (fun d' h'=>?_) (fun h' o=>k h' ?_)
  ·rw [gK (fun (e:d' = d)=>hnd.1 (e ▸ h'))]
   exact hd d' (by simp [h'])
  ·exact (xR (S:=fun j=>j ∈ d :: ds) (by simp)).trans (o.weak fun j _ hj=>by simp [hj])
/-- All increasing lists of at least i and at most so many more indexes, in their order. -/
def smF (e:Nat):Nat → Nat → List (List Int)
 | 0,_=>[]
 | n + 1,i=>chZ e i 0 ++ smF e n (i + 1)
def smZ (e most:Nat):List (List Int):=smF e (most + 1) 0
theorem vF {e:Nat}:∀ (n f:Nat) (x:List Int),x ∈ chZ e n f → x.length = n
 | 0,f,x,h=>by
  unfold chZ at h
  rw [List.mem_singleton] at h; subst h; rfl
 | n + 1,f,x,h=>by
  unfold chZ at h
  obtain ⟨i,_,h2⟩:=List.mem_flatMap.1 h
  obtain ⟨y,h3,rfl⟩:=List.mem_map.1 h2
  rw [List.length_cons,vF n (i + 1) y h3]
theorem smF_no {e:Nat} {fq:List Int → Bool} {n i:Nat} (h:(chZ e i 0).find? fq = none):(smF e (n + 1) i).find? fq = (smF e n (i + 1)).find? fq:=by
 show (chZ e i 0 ++ smF e n (i + 1)).find? fq = _
 rw [List.find?_append,h]; rfl
theorem smF_at {e:Nat} {fq:List Int → Bool} {n i:Nat} {x:List Int} (h:(chZ e i 0).find? fq = some x):(smF e (n + 1) i).find? fq = some x:=by
 show (chZ e i 0 ++ smF e n (i + 1)).find? fq = _
 rw [List.find?_append,h]; rfl
def chsV (Bm Be:Nat):Value:=.func (.func 100) #[] #[bG Bm,bG Be]
theorem choices_y (S:Ev.Steps Tryz.prog pr R) (h0:AHeap) (en m:Nat) :
  bD Tryz.prog R 80 [iv (en:Int),iv (m:Int)] h0 fun u h=>∃ Bm Be,u = chsV Bm Be ∧ h.bl.get Bm = some (.cells [iv (m:Int)] Bm false) ∧ h.bl.get Be = some (.cells [iv (en:Int)] Be false) ∧ h0.nx ≤ Bm ∧ Bm < h.nx ∧ h0.nx ≤ Be ∧ Be < h.nx:=by
 refine aV (fn:=Tryz.f80) (c:=(Tryz.f80.body).getD .skip) (by kernel_rfl) rfl (by kernel_rfl) rfl (fun K hK=>?_)
 generalize hF:finish Tryz.prog Tryz.f80 K = KF
 simp only [Tryz.f80,Option.getD_some,bJ,aX,aZ,T.setK_eq,id]
 repeat refine S.seq ?_
 refine S.region ?_
 simp (disch:=first|omega|simp only [aA,aB]<;>omega|decide) only [rUz,↓reduceIte,reduceEqDiff,reduceAdd]
 repeat refine S.seq ?_
 refine S.region ?_
 simp (disch:=first|omega|simp only [aA,aB]<;>omega|decide) only [rUz,↓reduceIte,reduceEqDiff,reduceAdd]
 refine S.ret ?_
 try simp only [aJ,aF]
 subst hF
 simp only [finish,aI]
 rw [show Tryz.f80.results.toList = [.tmp 4] from rfl]
 simp (disch:=first|omega|simp only [aA,aB]<;>omega|decide) only [bK,aY,aS,aT,aQ,aU,aO,upd_ne,aP,aW,result1]
 refine hK _ _ Kp.refl.add.add ⟨h0.nx + 1,h0.nx,rfl,aP rfl,?_,by omega,by show h0.nx + 1 < h0.nx + 2; omega,by omega,by show h0.nx < h0.nx + 2; omega⟩
 rw [aW (by show h0.nx ≠ h0.nx + 1; omega)]; exact aP rfl
/-- What is kept while lists are gone through. -/
structure ISm (xs:List (List Int)) (fq:List Int → Bool) (G:AHeap) (k:Nat) (S:Nat → Prop) (h:AHeap):Prop where
 le:G.nx ≤ h.nx
 up:∀ j,S j → G.nx ≤ j
 kp:∀ j,j < G.nx → h.bl.get j = G.bl.get j ∧ h.fams.get j = G.fams.get j
 no:∀ i t,i < k → xs[i]? = some t → fq t = false
structure ESm (xs:List (List Int)) (fq:List Int → Bool) (G:AHeap) (B4 B5:Nat) (e:Exit) (S:Nat → Prop) (h:AHeap):Prop where
 le:G.nx ≤ h.nx
 up:∀ j,S j → G.nx ≤ j
 kp:∀ j,j < G.nx → j ≠ B4 → j ≠ B5 → h.bl.get j = G.bl.get j ∧ h.fams.get j = G.fams.get j
 e:e = .exit 0
 ex:∃ t b f,xs.find? fq = some t ∧ h.bl.get B4 = some (.cells [.slice (some ⟨b,0,none⟩) t.length t.length] B4 false) ∧ h.bl.get B5 = some (.cells [.bool true] B5 false) ∧ G.nx ≤ b ∧ b < h.nx ∧ ¬ S b ∧ h.bl.get b = some (.cells (t.map iv) f false)
theorem ISm.stable {xs:List (List Int)} {fq:List Int → Bool} {G:AHeap} (k:Nat):Stable (ISm xs fq G k):=by
 intro S S' h h' q o hs
 have hle:=q.le
 have no:∀ j,j < G.nx → ¬ S j:=fun j hj hq=>by have:=q.up j hq; omega
 refine ⟨Nat.le_trans hle o.le,fun j hj=>?_,fun j hj=>?_,q.no⟩
 ·by_cases hjh:j < h.nx
  ·exact q.up j (hs j hjh hj)
  ·omega
 ·have:=q.kp j hj
  exact ⟨(o.get (by omega) (no j hj)).trans this.1,(o.fget (by omega) (no j hj)).trans this.2⟩
theorem ESm.stable {xs:List (List Int)} {fq:List Int → Bool} {G:AHeap} {B4 B5:Nat} (h4:B4 < G.nx) (h5:B5 < G.nx) (e:Exit):Stable (ESm xs fq G B4 B5 e):=by
 intro S S' h h' q o hs
 have hle:=q.le
 have no:∀ j,j < G.nx → ¬ S j:=fun j hj hq=>by have:=q.up j hq; omega
 obtain ⟨t,b,f,e1,e2,e3,e4,e5,e6,e7⟩:=q.ex
 refine ⟨Nat.le_trans hle o.le,fun j hj=>?_,fun j hj n4 n5=>?_,q.e,t,b,f,e1,(o.get (by omega) (no _ h4)).trans e2,(o.get (by omega) (no _ h5)).trans e3,e4,Nat.lt_of_lt_of_le e5 o.le,fun q2=>e6 (hs b e5 q2),(o.get e5 e6).trans e7⟩
 ·by_cases hjh:j < h.nx
  ·exact q.up j (hs j hjh hj)
  ·omega
 ·have:=q.kp j hj n4 n5
  exact ⟨(o.get (by omega) (no j hj)).trans this.1,(o.fget (by omega) (no j hj)).trans this.2⟩
/-- What is called of the lists. -/
def fitV (gf:FuncId) (cap:List Value):Value:=.func (.func gf) #[] ⟨cap⟩
def Fits (P:Program) (R:ExT) (gf:FuncId) (cap:List Value) (h0:AHeap) (xs:List (List Int)) (fq:List Int → Bool):Prop:=
 ∀ x,x ∈ xs → ∀ (h:AHeap) (b f:Nat),Kp h0 h → b < h.nx → h.bl.get b = some (.cells (x.map iv) f false) → bD P R gf (.slice (some ⟨b,0,none⟩) x.length x.length :: cap) h fun u _=>u = .bool (fq x)
def SmAt (e most:Nat) (fq:List Int → Bool) (lo:Nat) (u:Value) (h:AHeap):Prop:=
 (∃ x b f,(smZ e most).find? fq = some x ∧ u = .tuple ⟨[.slice (some ⟨b,0,none⟩) x.length x.length,.bool true]⟩ ∧ lo ≤ b ∧ b < h.nx ∧ h.bl.get b = some (.cells (x.map iv) f false)) ∨ ((smZ e most).find? fq = none ∧ u = .tuple ⟨[nl,.bool false]⟩)
end Go.Proofs.Po

/- The first increasing list that fits. -/
namespace Go.Proofs.Po
open Nat (reduceEqDiff reduceAdd reduceSub)
open Go Go.Ev Go.RowKit
set_option linter.unusedSimpArgs false
variable {pr:Prim} {R:ExT}
theorem pTf (c:List Value) (o:Nat):dD Tryz.prog 106 c o = c[o]?:=by kernel_rfl
structure LSm (G:AHeap) (en most:Nat) (fq:List Int → Bool) (B5 B8 B9:Nat) (i:Nat) (t:T Value) (h:AHeap) (ds:List Nat):Prop where
 kp:Kp G h
 nd:ds.Nodup
 dl:∀ d,d ∈ ds → G.nx ≤ d ∧ d < h.nx ∧ h.bl.get d = some (.deferred true)
 fd:(smZ en most).find? fq = (smF en (most + 1 - i) i).find? fq
 t0:tget t 0 = iv (en:Int)
 t5:tget t 5 = bG B5
 t8:tget t 8 = bG B8
 t9:tget t 9 = bG B9
 t13:tget t 13 = iv ((most:Int) + 1)
 t14:tget t 14 = iv (i:Int)
 hi:i ≤ most + 1
theorem smallest_y (S:Ev.Steps Tryz.prog pr R) (hoff:Off pr) (h0:AHeap) (en most:Nat) (hen:en ≤ 1000) (hmo:most ≤ 1000) (gf:FuncId) (cap:List Value) (hgf:offB gf = true) (fq:List Int → Bool)
  (hfit:∀ m,m ≤ most → Fits Tryz.prog R gf cap h0 (chZ en m 0) fq) :
  bD Tryz.prog R 56 [iv (en:Int),iv (most:Int),fitV gf cap] h0 (SmAt en most fq h0.nx):=by
 unfold fitV
 refine aV (fn:=Tryz.f56) (c:=(Tryz.f56.body).getD .skip) (by kernel_rfl) rfl (by kernel_rfl) rfl (fun K hK=>?_)
 generalize hF:finish Tryz.prog Tryz.f56 K = KF
 simp only [Tryz.f56,Option.getD_some,bJ,aX,aZ,T.setK_eq,id]
 repeat refine S.seq ?_
 refine S.region ?_
 simp (disch:=first|omega|simp only [aA,aB]<;>omega|decide) only [rUz,↓reduceIte,reduceEqDiff,reduceAdd]
 repeat refine S.seq ?_
 refine S.scope ?_
 repeat refine S.seq ?_
 refine S.region ?_
 simp (disch:=first|omega|simp only [aA,aB]<;>omega|decide) only [rUz,↓reduceIte,reduceEqDiff,reduceAdd,cO zTi,cs0]
 repeat refine S.seq ?_
 refine S.region ?_
 simp (disch:=first|omega|simp only [aA,aB]<;>omega|decide) only [rUz,↓reduceIte,reduceEqDiff,reduceAdd,cO zTb,cb0]
 obtain ⟨B5,hB5⟩:∃ x,x = h0.nx:=⟨_,rfl⟩
 obtain ⟨B8,hB8⟩:∃ x,x = h0.nx + 1:=⟨_,rfl⟩
 obtain ⟨B9,hB9⟩:∃ x,x = h0.nx + 2:=⟨_,rfl⟩
 refine gI (B:=h0.nx + 2) (off:=0) (v:=.bool false) (c:=[.bool false]) (fam:=h0.nx + 2) (k0:=h0.nx + 2) (by simp (disch:=first|omega|simp only [aA,aB]<;>omega|decide) only [rUz,↓reduceIte,reduceEqDiff,reduceAdd]) (by simp (disch:=first|omega|simp only [aA,aB]<;>omega|decide) only [rUz,↓reduceIte,reduceEqDiff,reduceAdd]) sTb rfl rfl (aP rfl) (dL rfl) (by simp) ?_
 rw [show ([Value.bool false]:List Value).set 0 (.bool false) = [.bool false] from rfl]
 have b5:((((h0.add [.func (.func gf) #[] ⟨cap⟩]).add [nl]).add [.bool false]).upd (h0.nx + 2) [.bool false] (h0.nx + 2)).bl.get B5 = some (.cells [.func (.func gf) #[] ⟨cap⟩] B5 false):=by
  rw [upd_ne _ _ _ (by omega),aW (by show B5 ≠ h0.nx + 2; omega),aW (by show B5 ≠ h0.nx + 1; omega)]; subst hB5; exact aP rfl
 have b8:((((h0.add [.func (.func gf) #[] ⟨cap⟩]).add [nl]).add [.bool false]).upd (h0.nx + 2) [.bool false] (h0.nx + 2)).bl.get B8 = some (.cells [nl] B8 false):=by
  rw [upd_ne _ _ _ (by omega),aW (by show B8 ≠ h0.nx + 2; omega)]; subst hB8; exact aP rfl
 have f8:((((h0.add [.func (.func gf) #[] ⟨cap⟩]).add [nl]).add [.bool false]).upd (h0.nx + 2) [.bool false] (h0.nx + 2)).fams.get B8 = some [B8]:=by
  rw [bM,nD (by show B8 ≠ h0.nx + 2; omega)]; subst hB8; exact dL rfl
 have b9:((((h0.add [.func (.func gf) #[] ⟨cap⟩]).add [nl]).add [.bool false]).upd (h0.nx + 2) [.bool false] (h0.nx + 2)).bl.get B9 = some (.cells [.bool false] B9 false):=by subst hB9; exact aO _ _ _
 have f9:((((h0.add [.func (.func gf) #[] ⟨cap⟩]).add [nl]).add [.bool false]).upd (h0.nx + 2) [.bool false] (h0.nx + 2)).fams.get B9 = some [B9]:=by
  rw [bM]; subst hB9; exact dL rfl
 have k0:Kp h0 ((((h0.add [.func (.func gf) #[] ⟨cap⟩]).add [nl]).add [.bool false]).upd (h0.nx + 2) [.bool false] (h0.nx + 2)):=Kp.refl.add.add.add.upd (by omega)
 have n0:((((h0.add [.func (.func gf) #[] ⟨cap⟩]).add [nl]).add [.bool false]).upd (h0.nx + 2) [.bool false] (h0.nx + 2)).nx = h0.nx + 3:=rfl
 simp (disch:=first|omega|simp only [aA,aB]<;>omega|decide) only [rUz,↓reduceIte,reduceEqDiff,reduceAdd]
 rw [← hB9] at b5 b8 f8 b9 f9 k0 n0
 rw [← hB9,← hB8,← hB5]
 generalize (((h0.add [.func (.func gf) #[] ⟨cap⟩]).add [nl]).add [.bool false]).upd B9 [.bool false] B9 = G at b5 b8 f8 b9 f9 k0 n0 ⊢
 repeat refine S.seq ?_
 refine S.label ?_
 simp only [fM]
 repeat refine S.seq ?_
 refine S.region ?_
 simp (disch:=first|omega|simp only [aA,aB]<;>omega|decide) only [rUz,↓reduceIte,reduceEqDiff,reduceAdd]
 repeat refine S.seq ?_
 refine S.block ?_
 refine Steps.loopD S (ι:=Nat) (LSm G en most fq B5 B8 B9) (fun i=>most + 1 - i) ?_ 0 _ _ _ ?_
 rotate_left
 ·refine ⟨Kp.refl,List.nodup_nil,(fun d hd=>by cases hd),rfl,?_,?_,?_,?_,?_,?_,Nat.zero_le _⟩
  all_goals (first|rfl|(simp (disch:=first|omega|simp only [aA,aB]<;>omega|decide) only [rUz,↓reduceIte,reduceEqDiff,reduceAdd]<;>rfl))
 intro i t h ds ⟨kp,nd,dl,fd,t0,t5,t8,t9,t13,t14,hi⟩ K' hn he
 have c5:=(kp.get (by omega)).trans b5
 have c8:=(kp.get (by omega)).trans b8
 have c9:=(kp.get (by omega)).trans b9
 have d8:=(kp.fget (by omega)).trans f8
 have d9:=(kp.fget (by omega)).trans f9
 repeat refine S.seq ?_
 refine S.region ?_
 simp (disch:=first|omega|simp only [aA,aB]<;>omega|decide) only [rUz,↓reduceIte,reduceEqDiff,reduceAdd,t13,t14]
 repeat refine S.seq ?_
 refine S.cond (v:=decide ((i:Int) < (most:Int) + 1)) (by first|rfl|(simp (disch:=first|omega|simp only [aA,aB]<;>omega|decide) only [rUz,↓reduceIte,reduceEqDiff,reduceAdd]<;>rfl)) (fun e=>?_) (fun e=>?_)
 ·have him:i ≤ most:=by have:=of_decide_eq_true e; omega
  clear e
  repeat refine S.seq ?_
  refine S.skip ?_
  simp (disch:=first|omega|simp only [aA,aB]<;>omega|decide) only [rUz,↓reduceIte,reduceEqDiff,reduceAdd]
  repeat refine S.seq ?_
  refine S.block ?_
  repeat refine S.seq ?_
  refine S.region ?_
  simp (disch:=first|omega|simp only [aA,aB]<;>omega|decide) only [rUz,↓reduceIte,reduceEqDiff,reduceAdd,t14]
  repeat refine S.seq ?_
  refine S.region ?_
  simp (disch:=first|omega|simp only [aA,aB]<;>omega|decide) only [rUz,↓reduceIte,reduceEqDiff,reduceAdd,t0,t14]
  refine bC (fid:=80) (first:=#[]) (captured:=#[]) (Post:=fun u g=>∃ Bm Be,u = chsV Bm Be ∧ g.bl.get Bm = some (.cells [iv (i:Int)] Bm false) ∧ g.bl.get Be = some (.cells [iv (en:Int)] Be false) ∧ h.nx ≤ Bm ∧ Bm < g.nx ∧ h.nx ≤ Be ∧ Be < g.nx) rfl (hoff _ _ _ rfl) (by simp (disch:=first|omega|simp only [aA,aB]<;>omega|decide) only [rUz,↓reduceIte,reduceEqDiff,reduceAdd]; exact choices_y S h en i) ?_
  rintro u g hkg ⟨Bm,Be,rfl,m1,m2,m3,m4,m5,m6⟩
  have kg:=kp.trans hkg
  have ng:=hkg.1
  have nG:=kp.1
  replace c5:=(hkg.get (by omega)).trans c5
  replace c8:=(hkg.get (by omega)).trans c8
  replace c9:=(hkg.get (by omega)).trans c9
  replace d8:=(hkg.fget (by omega)).trans d8
  replace d9:=(hkg.fget (by omega)).trans d9
  have dlg:∀ d,d ∈ ds → G.nx ≤ d ∧ d < g.nx ∧ g.bl.get d = some (.deferred true):=fun d hd=>by
   obtain ⟨q1,q2,q3⟩:=dl d hd
   exact ⟨q1,by omega,(hkg.get q2).trans q3⟩
  clear dl
  simp (disch:=first|omega|simp only [aA,aB]<;>omega|decide) only [rUz,↓reduceIte,reduceEqDiff,reduceAdd]
  repeat refine S.seq ?_
  refine S.block ?_
  have hB8g:B8 < g.nx:=by omega
  have hB9g:B9 < g.nx:=by omega
  have h89:B8 ≠ B9:=by omega
  refine S.rangeFn (W:=fun j=>j = B8 ∨ j = B9) (xs:=chZ en i 0) (d:=g.nx) (l:=g.nx + 1) (At:=fun x U h az=>∃ b f,az = [.slice (some ⟨b,0,none⟩) x.length x.length] ∧ g.nx + 2 ≤ b ∧ b < h.nx ∧ ¬ U b ∧ h.bl.get b = some (.cells (x.map iv) f false)) (g:=100) (first:=#[]) (captured:=#[bG Bm,bG Be]) (fn:=Tryz.f100) (c:=(Tryz.f100.body).getD .skip) (ISm (chZ en i 0) fq g) (ESm (chZ en i 0) fq g B8 B9) (by simp (disch:=first|omega|simp only [aA,aB]<;>omega|decide) only [rUz,↓reduceIte,reduceEqDiff,reduceAdd]; rfl) (by kernel_rfl) rfl rfl rfl ?_ (fun k=>ISm.stable k) (fun e=>ESm.stable hB8g hB9g e) ?_ ?_ ?_ ?_ ?_
  ·intro h2 hk2 hn2
   have hit:=choicesIt S hoff h2 (fun j=>(j = B8 ∨ j = B9) ∨ j = g.nx + 1) Bm Be i en (by omega) hen ⟨by omega,by omega⟩ ⟨by omega,by omega⟩ ((hk2.get m4).trans m1) ((hk2.get m6).trans m2)
   have e:AtT h2 = fun (x:List Int) (U:Nat → Prop) (h:AHeap) (az:List Value)=>∃ b f,az = [.slice (some ⟨b,0,none⟩) x.length x.length] ∧ g.nx + 2 ≤ b ∧ b < h.nx ∧ ¬ U b ∧ h.bl.get b = some (.cells (x.map iv) f false):=by
    funext x U h az
    unfold AtT
    rw [hn2]
   rw [e] at hit
   exact hit
  ·intro h2 hk2 hn2
   exact ⟨by omega,fun j hj=>by omega,fun j hj=>hk2.2 j hj,fun i t hi=>absurd hi (Nat.not_lt_zero _)⟩
  ·rintro x _ _ _ ⟨b,f,rfl,_⟩
   kernel_rfl
  ·intro k x U h1 az hxk hat hU i1 ho1 hn1 KA hKA
   obtain ⟨tb,tf,rfl,tb1,tb2,tb3,tb4⟩:=hat
   simp only [iD,aZ,T.setK_eq,id]
   repeat refine S.seq ?_
   refine S.region ?_
   simp (disch:=first|omega|simp only [aA,aB]<;>omega|decide) only [rUz,↓reduceIte,reduceEqDiff,reduceAdd]
   refine hKA _ _ Kp.refl fun hb' hbut K' kn kr ke=>?_
   have hVu:∀ j,(U j ∨ j = g.nx ∨ j = g.nx + 1) → g.nx ≤ j ∧ j < h1.nx:=fun j hj=>by
    rcases hj with hj|hj|hj
    ·have:=hU j hj; omega
    ·omega
    ·omega
   have ib:=ISm.stable (xs:=chZ en i 0) (fq:=fq) (G:=g) k _ _ _ _ i1 (hbut.out (.inr (.inr rfl))) fun j _ hj=>hj
   have nb:=hbut.nx
   have gb:∀ j,j < g.nx → hb'.bl.get j = g.bl.get j:=fun j hj=>(ib.kp j hj).1
   have hb5:=(gb B5 (by omega)).trans c5
   have htbb:=(hbut.get (by omega)).trans tb4
   have kpb:Kp h0 hb':=⟨by have:=k0.1; omega,fun j hj=>by
    have q:=ib.kp j (by have:=k0.1; omega)
    exact ⟨q.1.trans ((kg.get (by have:=k0.1; omega)).trans (k0.get hj)),q.2.trans ((kg.fget (by have:=k0.1; omega)).trans (k0.fget hj))⟩⟩
   have hft:=hfit i him x (List.mem_of_getElem? hxk) hb' tb tf kpb (by omega) htbb
   repeat refine S.seq ?_
   refine S.block ?_
   repeat refine S.seq ?_
   refine S.region ?_
   simp (disch:=first|omega|simp only [aA,aB]<;>omega|decide) only [rUz,↓reduceIte,reduceEqDiff,reduceAdd,t5,hb5,pTf]
   refine bC (fid:=gf) (first:=#[]) (captured:=⟨cap⟩) (Post:=fun u _=>u = .bool (fq x)) (by simp (disch:=first|omega|simp only [aA,aB]<;>omega|decide) only [rUz,↓reduceIte,reduceEqDiff,reduceAdd]) (hoff _ _ _ hgf) (by simp (disch:=first|omega|simp only [aA,aB]<;>omega|decide) only [rUz,↓reduceIte,reduceEqDiff,reduceAdd]; exact hft) ?_
   rintro u g9 hk2 rfl
   have ng9:=hk2.1
   cases hq:fq x with
   | true =>
    simp (disch:=first|omega|simp only [aA,aB]<;>omega|decide) only [rUz,↓reduceIte,reduceEqDiff,reduceAdd,hq]
    repeat refine S.seq ?_
    refine S.cond (v:=true) (by first|rfl|(simp (disch:=first|omega|simp only [aA,aB]<;>omega|decide) only [rUz,↓reduceIte,reduceEqDiff,reduceAdd]<;>rfl)) (fun _=>?_) (fun e=>by cases e)
    have y4:=(hk2.get (by omega:B8 < hb'.nx)).trans ((gb B8 hB8g).trans c8)
    have y5:=(hk2.get (by omega:B9 < hb'.nx)).trans ((gb B9 hB9g).trans c9)
    have z4:=(hk2.fget (by omega:B8 < hb'.nx)).trans (((ib.kp B8 hB8g).2).trans d8)
    have z5:=(hk2.fget (by omega:B9 < hb'.nx)).trans (((ib.kp B9 hB9g).2).trans d9)
    repeat refine S.seq ?_
    refine S.region ?_
    simp (disch:=first|omega|simp only [aA,aB]<;>omega|decide) only [rUz,↓reduceIte,reduceEqDiff,reduceAdd]
    refine gI (B:=B8) (off:=0) (v:=.slice (some ⟨tb,0,none⟩) x.length x.length) (c:=[nl]) (fam:=B8) (k0:=B8) (by simp (disch:=first|omega|simp only [aA,aB]<;>omega|decide) only [rUz,↓reduceIte,reduceEqDiff,reduceAdd,t8]) (by simp (disch:=first|omega|simp only [aA,aB]<;>omega|decide) only [rUz,↓reduceIte,reduceEqDiff,reduceAdd]) lI' rfl rfl y4 z4 (by simp) ?_
    rw [show ([nl]:List Value).set 0 (.slice (some ⟨tb,0,none⟩) x.length x.length) = [.slice (some ⟨tb,0,none⟩) x.length x.length] from rfl]
    simp (disch:=first|omega|simp only [aA,aB]<;>omega|decide) only [rUz,↓reduceIte,reduceEqDiff,reduceAdd]
    refine gI (B:=B9) (off:=0) (v:=.bool true) (c:=[.bool false]) (fam:=B9) (k0:=B9) (by simp (disch:=first|omega|simp only [aA,aB]<;>omega|decide) only [rUz,↓reduceIte,reduceEqDiff,reduceAdd,t9]) (by simp (disch:=first|omega|simp only [aA,aB]<;>omega|decide) only [rUz,↓reduceIte,reduceEqDiff,reduceAdd]) sTb rfl rfl (by rw [upd_ne _ _ _ (fun e=>h89 e.symm)]; exact y5) (by rw [bM]; exact z5) (by simp) ?_
    rw [show ([Value.bool false]:List Value).set 0 (.bool true) = [.bool true] from rfl]
    simp (disch:=first|omega|simp only [aA,aB]<;>omega|decide) only [rUz,↓reduceIte,reduceEqDiff,reduceAdd]
    refine S.exit ?_
    simp only [uQ,qW (by decide:(0:Nat) ≠ 3)]
    have kpj:∀ j,j < hb'.nx → j ≠ B8 → j ≠ B9 → ((g9.upd B8 [.slice (some ⟨tb,0,none⟩) x.length x.length] B8).upd B9 [.bool true] B9).bl.get j = hb'.bl.get j ∧ ((g9.upd B8 [.slice (some ⟨tb,0,none⟩) x.length x.length] B8).upd B9 [.bool true] B9).fams.get j = hb'.fams.get j:=fun j hj n4 n5=>by
     rw [upd_ne _ _ _ n5,upd_ne _ _ _ n4,bM,bM]
     exact hk2.2 j hj
    refine ke 0 _ _ ⟨ng9,fun j hj hn=>kpj j hj ?_ ?_⟩ ⟨by show g.nx ≤ g9.nx; omega,fun j hj=>(hVu j hj).1,fun j hj n4 n5=>?_,rfl,x,tb,tf,find_at hxk ib.no hq,?_,aO _ _ _,by omega,by show tb < g9.nx; omega,fun q=>?_,?_⟩
    ·rcases hn with hn|hn
     ·have:=hVu j hn; omega
     ·exact fun e=>hn.2 (.inl e)
    ·rcases hn with hn|hn
     ·have:=hVu j hn; omega
     ·exact fun e=>hn.2 (.inr e)
    ·have q1:=kpj j (by omega) n4 n5
     have q2:=ib.kp j hj
     exact ⟨q1.1.trans q2.1,q1.2.trans q2.2⟩
    ·rw [upd_ne _ _ _ h89]; exact aO _ _ _
    ·rcases q with q|q|q
     ·exact tb3 q
     ·omega
     ·omega
    ·rw [(kpj tb (by omega) (by omega) (by omega)).1]; exact htbb
   | false =>
    simp (disch:=first|omega|simp only [aA,aB]<;>omega|decide) only [rUz,↓reduceIte,reduceEqDiff,reduceAdd,hq]
    repeat refine S.seq ?_
    refine S.cond (v:=false) (by first|rfl|(simp (disch:=first|omega|simp only [aA,aB]<;>omega|decide) only [rUz,↓reduceIte,reduceEqDiff,reduceAdd]<;>rfl)) (fun e=>by cases e) (fun _=>?_)
    repeat refine S.seq ?_
    refine S.skip ?_
    simp (disch:=first|omega|simp only [aA,aB]<;>omega|decide) only [rUz,↓reduceIte,reduceEqDiff,reduceAdd]
    refine kn _ _ (kpS hk2) ⟨by omega,fun j hj=>(hVu j hj).1,fun j hj=>?_,fun i t hi ht=>?_⟩
    ·have q2:=ib.kp j hj
     exact ⟨(hk2.get (by omega)).trans q2.1,(hk2.fget (by omega)).trans q2.2⟩
    ·by_cases hik:i = k
     ·subst hik; rw [hxk] at ht; cases ht; exact hq
     ·exact ib.no i t (by omega) ht
  ·intro U h1 i1 ho hd1 hd
   have hle:=i1.le
   simp only [jR,fM]
   repeat refine S.seq ?_
   refine S.region ?_
   simp (disch:=first|omega|simp only [aA,aB]<;>omega|decide) only [rUz,↓reduceIte,reduceEqDiff,reduceAdd,t14]
   refine hn (i + 1) _ _ _ (by omega) ⟨⟨by omega,fun j hj=>?_⟩,List.nodup_cons.2 ⟨fun q=>?_,nd⟩,fun d hd2=>?_,?_,?_,?_,?_,?_,?_,?_,by omega⟩
   ·have q:=i1.kp j (by omega)
    exact ⟨q.1.trans (kg.get hj),q.2.trans (kg.fget hj)⟩
   ·have:=(dlg _ q).2.1; omega
   ·rcases List.mem_cons.1 hd2 with rfl|hd2
    ·exact ⟨by omega,hd1,hd⟩
    ·obtain ⟨q1,q2,q3⟩:=dlg d hd2
     exact ⟨q1,by omega,((i1.kp d q2).1).trans q3⟩
   ·rw [fd,show most + 1 - i = (most + 1 - (i + 1)) + 1 from by omega]
    exact smF_no (find_no fun i y hy=>i1.no i y (List.getElem?_eq_some_iff.1 hy).1 hy)
   all_goals (first|rfl|(simp (disch:=first|omega|simp only [aA,aB]<;>omega|decide) only [rUz,↓reduceIte,reduceEqDiff,reduceAdd,t0,t5,t8,t9,t13]<;>rfl))
  ·intro e U h1 e1 he1 ho hd1 hd
   obtain rfl:=e1.e
   obtain ⟨x,b,f,q1,q2,q3,q4,q5,q6,q7⟩:=e1.ex
   have hle:=e1.le
   simp only [uQ,qW (by decide:(0:Nat) ≠ 2),qW (by decide:(0:Nat) ≠ 1)]
   refine he _ _ _ _ (fun e=>by cases e) ?_
   simp (disch:=first|omega|simp only [aA,aB]<;>omega|decide) only [rUz,↓reduceIte,reduceEqDiff,reduceAdd]
   have hall:∀ d,d ∈ g.nx :: ds → h1.bl.get d = some (.deferred true) ∧ G.nx ≤ d:=fun d hd2=>by
    rcases List.mem_cons.1 hd2 with rfl|hd2
    ·exact ⟨hd,by omega⟩
    ·obtain ⟨r1,r2,r3⟩:=dlg d hd2
     exact ⟨((e1.kp d r2 (by omega) (by omega)).1).trans r3,r1⟩
   repeat refine S.seq ?_
   refine S.drawnL [(false,0),(false,0),(false,1),(false,7)] (by kernel_rfl) (by kernel_rfl) (by kernel_rfl) ?_
   simp (disch:=first|omega|simp only [aA,aB]<;>omega|decide) only [rUz,↓reduceIte,reduceEqDiff,reduceAdd,rDz,infoL,reduceSub,t8,t9,q2,q3,qI,pb]
   refine S.ret ?_
   simp only [aJ,aF,scopeK_ret]
   subst hF
   simp only [finish]
   refine rG _ _ (List.nodup_cons.2 ⟨fun q=>by have:=(dlg _ q).2.1; omega,nd⟩) (fun d hd2=>(hall d hd2).1) fun h' o=>?_
   rw [show Tryz.f56.results.toList = [.tmp 6,.tmp 7] from rfl]
   simp (disch:=first|omega|decide) only [bK,aY,aS,aT,aQ,aU,result1]
   have hbn:¬ b ∈ g.nx :: ds:=fun q=>by
    have:=(hall b q).1
    rw [q7] at this; cases this
   refine hK _ _ ⟨by have:=o.le; have:=k0.1; omega,fun j hj=>?_⟩ (.inl ⟨x,b,f,?_,rfl,by have:=k0.1; omega,by have:=o.le; omega,(o.get q5 hbn).trans q7⟩)
   ·have hjn:¬ j ∈ g.nx :: ds:=fun q=>by have:=(hall j q).2; omega
    have r:=e1.kp j (by omega) (by omega) (by omega)
    exact ⟨(o.get (by omega) hjn).trans (r.1.trans ((kg.get (by omega)).trans (k0.get hj))),(o.fget (by omega) hjn).trans (r.2.trans ((kg.fget (by omega)).trans (k0.fget hj)))⟩
   ·rw [fd,show most + 1 - i = (most - i) + 1 from by omega]
    exact smF_at q1
 have him:i = most + 1:=by have:=of_decide_eq_false e; omega
 subst him
 rw [Nat.sub_self] at fd
 refine S.exit (he _ _ _ _ (fun e=>by cases e) ?_)
 simp (disch:=first|omega|simp only [aA,aB]<;>omega|decide) only [rUz,↓reduceIte,reduceEqDiff,reduceAdd]
 repeat refine S.seq ?_
 refine S.drawnL [(false,0),(false,0),(false,1),(false,7)] (by kernel_rfl) (by kernel_rfl) (by kernel_rfl) ?_
 simp (disch:=first|omega|simp only [aA,aB]<;>omega|decide) only [rUz,↓reduceIte,reduceEqDiff,reduceAdd,rDz,infoL,reduceSub,t8,t9,c8,c9,qI,pb]
 refine S.ret ?_
 simp only [aJ,aF,scopeK_ret]
 subst hF
 simp only [finish]
 refine rG _ _ nd (fun d hd2=>(dl d hd2).2.2) fun h' o=>?_
 rw [show Tryz.f56.results.toList = [.tmp 6,.tmp 7] from rfl]
 simp (disch:=first|omega|decide) only [bK,aY,aS,aT,aQ,aU,result1]
 refine hK _ _ ⟨by have:=o.le; have:=k0.1; have:=kp.1; omega,fun j hj=>?_⟩ (.inr ⟨fd,rfl⟩)
 have hjn:¬ j ∈ ds:=fun q=>by have:=(dl j q).1; omega
 have:=kp.1
 exact ⟨(o.get (by omega) hjn).trans ((kp.get (by omega)).trans (k0.get hj)),(o.fget (by omega) hjn).trans ((kp.fget (by omega)).trans (k0.fget hj))⟩
end Go.Proofs.Po

/- Whether some truth explains records; the records that must be left out. -/
namespace Go.Proofs.Po
open Nat (reduceEqDiff reduceAdd reduceSub)
open Go Go.Ev Go.RowKit
set_option linter.unusedSimpArgs false
variable {pr:Prim} {R:ExT}
/-- Where the first element is of which something holds. -/
def idxG {α:Type} (p:α → Bool):List α → Nat → Int
 | [],_=>-1
 | y :: l,i=>bif p y then (i:Int) else idxG p l (i + 1)
theorem idxG_ge {α:Type} (p:α → Bool):∀ (l:List α) (i:Nat),decide (0 ≤ idxG p l i) = l.any p
 | [],i=>rfl
 | y :: l,i=>by
  unfold idxG
  rw [List.any_cons]
  cases p y with
  | true=>rw [cond_true,Bool.true_or,decide_eq_true (by omega)]
  | false=>rw [cond_false,Bool.false_or,idxG_ge p l (i + 1)]
def canV (Br:Nat):Value:=.func (.func 82) #[] #[bG Br]
theorem canOne_y (S:Ev.Steps Tryz.prog pr R) (hoff:Off pr) (h0:AHeap) (B Br:Nat) (v w:Value) (O:List Od) (t:List Int) (L:List Sa) (hc:CrU (fun _=>False) h0 B O v t) (hbr:h0.bl.get Br = some (.cells [w] Br false)) (hw:SlAt h0 4 w (L.map cSa)) (hL:L.length ≤ 1000) :
  bD Tryz.prog R 82 [bG B,bG Br] h0 fun u _=>u = .bool (expZ O L t):=by
 obtain ⟨cv,lf,sv,c1,c2,c3,c4,c5,_⟩:=hc
 refine aV (fn:=Tryz.f82) (c:=(Tryz.f82.body).getD .skip) (by kernel_rfl) rfl (by kernel_rfl) rfl (fun K hK=>?_)
 generalize hF:finish Tryz.prog Tryz.f82 K = KF
 simp only [Tryz.f82,Option.getD_some,bJ,aX,aZ,T.setK_eq,id]
 repeat refine S.seq ?_
 refine S.region ?_
 simp (disch:=first|omega|simp only [aA,aB]<;>omega|decide) only [rUz,↓reduceIte,reduceEqDiff,reduceAdd]
 repeat refine S.seq ?_
 refine S.region ?_
 simp (disch:=first|omega|simp only [aA,aB]<;>omega|decide) only [rUz,↓reduceIte,reduceEqDiff,reduceAdd,hbr,qcS]
 refine bC (fid:=55) (first:=#[]) (captured:=#[]) (Post:=fun u _=>u = .bool (expZ O L t)) rfl (hoff _ _ _ rfl) (by simp (disch:=first|omega|simp only [aA,aB]<;>omega|decide) only [rUz,↓reduceIte,reduceEqDiff,reduceAdd]; exact explains_y S hoff h0 B v cv lf sv w (dI O t).2 L c1 c2 c5 c3 (by omega) hw hL) ?_
 rintro u g hkg rfl
 simp (disch:=first|omega|simp only [aA,aB]<;>omega|decide) only [rUz,↓reduceIte,reduceEqDiff,reduceAdd]
 refine S.ret ?_
 try simp only [aJ,aF]
 subst hF
 simp only [finish,aI]
 rw [show Tryz.f82.results.toList = [.tmp 3] from rfl]
 simp (disch:=first|omega|simp only [aA,aB]<;>omega|decide) only [bK,aY,aS,aT,aQ,aU,aO,upd_ne,aP,aW,result1]
 exact hK _ _ hkg rfl
def IFf (O:List Od) (L:List Sa) (Br:Nat) (H:AHeap) (cv:Value) (n:Nat) (k:Nat) (t:T Value) (h:AHeap):Prop:=
 k ≤ (dW O).length ∧ idxG (expZ O L) (dW O) 0 = idxG (expZ O L) ((dW O).drop k) k ∧ Kp H h ∧ tget t 0 = cv ∧ tget t 1 = canV Br ∧ tget t 7 = iv (n:Int) ∧ tget t 8 = iv (k:Int)
theorem indexF_y (S:Ev.Steps Tryz.prog pr R) (hoff:Off pr) (h0:AHeap) (Br:Nat) (v w cv:Value) (ptrs:List Nat) (O:List Od) (L:List Sa) (hall:(dW O).length ≤ 1000000) (hs:SlAt h0 1 cv (ptrs.map cP)) (hlen:ptrs.length = (dW O).length) (hcr:∀ (i:Nat) (t:List Int) (B:Nat),(dW O)[i]? = some t → ptrs[i]? = some B → CrU (fun _=>False) h0 B O v t)
  (hbl:Br < h0.nx) (hbr:h0.bl.get Br = some (.cells [w] Br false)) (hw:SlAt h0 4 w (L.map cSa)) (hL:L.length ≤ 1000) :
  bD Tryz.prog R 102 [cv,canV Br] h0 fun u _=>u = iv (idxG (expZ O L) (dW O) 0):=by
 unfold canV
 refine aV (fn:=Tryz.f102) (c:=(Tryz.f102.body).getD .skip) (by kernel_rfl) rfl (by kernel_rfl) rfl (fun K hK=>?_)
 generalize hF:finish Tryz.prog Tryz.f102 K = KF
 simp only [Tryz.f102,Option.getD_some,bJ,aX,aZ,T.setK_eq,id]
 have hln:=fun t h1 o=>dQ hs isPc t h1 o
 repeat refine S.seq ?_
 refine S.region ?_
 simp (disch:=first|omega|simp only [aA,aB]<;>omega|decide) only [rUz,↓reduceIte,reduceEqDiff,reduceAdd]
 repeat refine S.seq ?_
 refine S.region ?_
 simp (disch:=first|omega|simp only [aA,aB]<;>omega|decide) only [rUz,↓reduceIte,reduceEqDiff,reduceAdd,hln]
 repeat refine S.seq ?_
 refine S.block ?_
 refine S.loop (ι:=Nat) (IFf O L Br h0 cv ptrs.length) (fun k=>(dW O).length - k) ?_ 0 _ _ ?_
 rotate_left
 ·refine ⟨Nat.zero_le _,rfl,Kp.refl,?_,?_,?_,?_⟩
  all_goals (first|rfl|(simp (disch:=first|omega|simp only [aA,aB]<;>omega|decide) only [rUz,↓reduceIte,reduceEqDiff,reduceAdd]<;>rfl))
 intro k t h ⟨hk,hfb,kp,t0,t1,t7,t8⟩ K' hn he
 unfold canV at t1
 repeat refine S.seq ?_
 refine S.region ?_
 simp (disch:=first|omega|simp only [aA,aB]<;>omega|decide) only [rUz,↓reduceIte,reduceEqDiff,reduceAdd,t7,t8]
 repeat refine S.seq ?_
 refine S.cond (v:=decide ((k:Int) < (ptrs.length:Int))) (by first|rfl|(simp (disch:=first|omega|simp only [aA,aB]<;>omega|decide) only [rUz,↓reduceIte,reduceEqDiff,reduceAdd]<;>rfl)) (fun e=>?_) (fun e=>?_)
 ·have hkp:k < ptrs.length:=by have:=of_decide_eq_true e; omega
  have hkn:k < (dW O).length:=by omega
  clear e
  have hBk:ptrs[k]? = some ptrs[k]:=List.getElem?_eq_getElem hkp
  have hTk:(dW O)[k]? = some (dW O)[k]:=List.getElem?_eq_getElem hkn
  rw [List.drop_eq_getElem_cons hkn] at hfb
  simp only [idxG] at hfb
  generalize (dW O)[k] = x at hfb hTk
  generalize ptrs[k] = B at hBk
  have hc:=(hcr k x B hTk hBk).keep (Q':=fun _=>False) kp.1 (fun j hj _=>kp.get hj) fun _ _ q=>q
  obtain ⟨rb,rf,ro,cells,r1,r2,r3,r4,r5,r6⟩:=dM (SlAt.mono hs kp) slPc sPc hBk
  have r60:=r6 0 (bG B) rfl
  rw [Nat.mul_one,Nat.add_zero] at r60
  rw [Nat.mul_one] at r1
  repeat refine S.seq ?_
  refine S.skip ?_
  simp (disch:=first|omega|simp only [aA,aB]<;>omega|decide) only [rUz,↓reduceIte,reduceEqDiff,reduceAdd]
  repeat refine S.seq ?_
  refine S.block ?_
  repeat refine S.seq ?_
  refine S.region ?_
  simp (disch:=first|omega|simp only [aA,aB]<;>omega|decide) only [rUz,↓reduceIte,reduceEqDiff,reduceAdd,t8]
  repeat refine S.seq ?_
  refine S.region ?_
  simp (disch:=first|omega|simp only [aA,aB]<;>omega|decide) only [rUz,↓reduceIte,reduceEqDiff,reduceAdd,t0,t1,t8,r1,r3,pPc,r60]
  refine bC (fid:=82) (first:=#[]) (captured:=#[bG Br]) (Post:=fun u _=>u = .bool (expZ O L x)) (by simp (disch:=first|omega|simp only [aA,aB]<;>omega|decide) only [rUz,↓reduceIte,reduceEqDiff,reduceAdd,t1]) (hoff _ _ _ rfl) (by simp (disch:=first|omega|simp only [aA,aB]<;>omega|decide) only [rUz,↓reduceIte,reduceEqDiff,reduceAdd]; exact canOne_y S hoff h B Br v w O x L hc ((kp.get hbl).trans hbr) (SlAt.mono hw kp) hL) ?_
  rintro u g hkg rfl
  cases hq:expZ O L x with
  | true =>
   rw [hq,cond_true] at hfb
   simp (disch:=first|omega|simp only [aA,aB]<;>omega|decide) only [rUz,↓reduceIte,reduceEqDiff,reduceAdd,hq]
   repeat refine S.seq ?_
   refine S.cond (v:=true) (by first|rfl|(simp (disch:=first|omega|simp only [aA,aB]<;>omega|decide) only [rUz,↓reduceIte,reduceEqDiff,reduceAdd]<;>rfl)) (fun _=>?_) (fun e=>by cases e)
   repeat refine S.seq ?_
   refine S.region ?_
   simp (disch:=first|omega|simp only [aA,aB]<;>omega|decide) only [rUz,↓reduceIte,reduceEqDiff,reduceAdd]
   refine S.ret ?_
   simp only [aJ,aF]
   refine he _ _ _ _ (fun e=>by cases e) ?_
   try simp only [aJ,aF]
   subst hF
   simp only [finish,aI]
   rw [show Tryz.f102.results.toList = [.tmp 4] from rfl]
   simp (disch:=first|omega|simp only [aA,aB]<;>omega|decide) only [bK,aY,aS,aT,aQ,aU,aO,upd_ne,aP,aW,result1]
   exact hK _ _ (kp.trans hkg) (by rw [hfb])
  | false =>
   rw [hq,cond_false] at hfb
   simp (disch:=first|omega|simp only [aA,aB]<;>omega|decide) only [rUz,↓reduceIte,reduceEqDiff,reduceAdd,hq]
   repeat refine S.seq ?_
   refine S.cond (v:=false) (by first|rfl|(simp (disch:=first|omega|simp only [aA,aB]<;>omega|decide) only [rUz,↓reduceIte,reduceEqDiff,reduceAdd]<;>rfl)) (fun e=>by cases e) (fun _=>?_)
   repeat refine S.seq ?_
   refine S.skip ?_
   simp (disch:=first|omega|simp only [aA,aB]<;>omega|decide) only [rUz,↓reduceIte,reduceEqDiff,reduceAdd]
   repeat refine S.seq ?_
   refine S.region ?_
   simp (disch:=first|omega|simp only [aA,aB]<;>omega|decide) only [rUz,↓reduceIte,reduceEqDiff,reduceAdd,t8]
   refine hn (k + 1) _ _ (by omega) ⟨by omega,hfb,kp.trans hkg,?_,?_,?_,?_⟩
   all_goals (first|rfl|(simp (disch:=first|omega|simp only [aA,aB]<;>omega|decide) only [rUz,↓reduceIte,reduceEqDiff,reduceAdd,t0,t1,t7]<;>rfl))
 have hkn:k = (dW O).length:=by have:=of_decide_eq_false e; omega
 subst hkn
 rw [List.drop_of_length_le (Nat.le_refl _)] at hfb
 refine S.exit (he _ _ _ _ (fun e=>by cases e) ?_)
 simp (disch:=first|omega|simp only [aA,aB]<;>omega|decide) only [rUz,↓reduceIte,reduceEqDiff,reduceAdd]
 repeat refine S.seq ?_
 refine S.region ?_
 simp (disch:=first|omega|simp only [aA,aB]<;>omega|decide) only [rUz,↓reduceIte,reduceEqDiff,reduceAdd]
 refine S.ret ?_
 try simp only [aJ,aF]
 subst hF
 simp only [finish,aI]
 rw [show Tryz.f102.results.toList = [.tmp 4] from rfl]
 simp (disch:=first|omega|simp only [aA,aB]<;>omega|decide) only [bK,aY,aS,aT,aQ,aU,aO,upd_ne,aP,aW,result1]
 exact hK _ _ kp (by rw [hfb]; rfl)
def canZ (O:List Od) (L:List Sa):Bool:=(dW O).any (expZ O L)
theorem canExplain_y (S:Ev.Steps Tryz.prog pr R) (hoff:Off pr) (h0:AHeap) (Bw:Nat) (v w:Value) (O:List Od) (L:List Sa) (hall:(dW O).length ≤ 1000000) (hwk:WkAt h0 Bw v O) (hw:SlAt h0 4 w (L.map cSa)) (hL:L.length ≤ 1000) :
  bD Tryz.prog R 58 [bG Bw,w] h0 fun u _=>u = .bool (canZ O L):=by
 obtain ⟨w1,w2,w3,rfl⟩:=row_sl hw
 obtain ⟨cv,ptrs,k1,k2,k3,k4,k5⟩:=hwk
 refine aV (fn:=Tryz.f58) (c:=(Tryz.f58.body).getD .skip) (by kernel_rfl) rfl (by kernel_rfl) rfl (fun K hK=>?_)
 generalize hF:finish Tryz.prog Tryz.f58 K = KF
 simp only [Tryz.f58,Option.getD_some,bJ,aX,aZ,T.setK_eq,id]
 repeat refine S.seq ?_
 refine S.region ?_
 simp (disch:=first|omega|simp only [aA,aB]<;>omega|decide) only [rUz,↓reduceIte,reduceEqDiff,reduceAdd,xK]
 obtain ⟨Br,hBr⟩:∃ x,x = h0.nx:=⟨_,rfl⟩
 have hbr:(h0.add [.slice w1 w2 w3]).bl.get Br = some (.cells [.slice w1 w2 w3] Br false):=by subst hBr; exact aP rfl
 have k0:Kp h0 (h0.add [.slice w1 w2 w3]):=Kp.refl.add
 have n0:(h0.add [.slice w1 w2 w3]).nx = h0.nx + 1:=rfl
 rw [← hBr]
 generalize h0.add [.slice w1 w2 w3] = H at hbr k0 n0 ⊢
 have b1:=(k0.get k2).trans k1
 repeat refine S.seq ?_
 refine S.region ?_
 simp (disch:=first|omega|simp only [aA,aB]<;>omega|decide) only [rUz,↓reduceIte,reduceEqDiff,reduceAdd,b1,aC fWk1 lPc,qPc,wk1]
 have hge:=idxG_ge (expZ O L) (dW O) 0
 have hIF:=indexF_y S hoff H Br v (.slice w1 w2 w3) cv ptrs O L hall (SlAt.mono k3 k0) k4 (fun i t B e1 e2=>(k5 i t B e1 e2).keep k0.1 (fun j hj _=>k0.get hj) fun _ _ q=>q) (by omega) hbr (SlAt.mono hw k0) hL
 refine bC (fid:=81) (first:=#[]) (captured:=#[]) (Post:=fun u _=>u = .bool (canZ O L)) (by rfl) (hoff _ _ _ rfl) (by
  simp (disch:=first|omega|simp only [aA,aB]<;>omega|decide) only [rUz,↓reduceIte,reduceEqDiff,reduceAdd]
  refine aV (fn:=Tryz.f81) (c:=(Tryz.f81.body).getD .skip) (by kernel_rfl) rfl (by kernel_rfl) rfl (fun K hK=>?_)
  generalize hF:finish Tryz.prog Tryz.f81 K = KF
  simp only [Tryz.f81,Option.getD_some,bJ,aX,aZ,T.setK_eq,id]
  repeat refine S.seq ?_
  refine S.region ?_
  simp (disch:=first|omega|simp only [aA,aB]<;>omega|decide) only [rUz,↓reduceIte,reduceEqDiff,reduceAdd]
  repeat refine S.seq ?_
  refine S.region ?_
  simp (disch:=first|omega|simp only [aA,aB]<;>omega|decide) only [rUz,↓reduceIte,reduceEqDiff,reduceAdd]
  refine bC (fid:=102) (first:=#[]) (captured:=#[]) (Post:=fun u _=>u = iv (idxG (expZ O L) (dW O) 0)) rfl (hoff _ _ _ rfl) (by simp (disch:=first|omega|simp only [aA,aB]<;>omega|decide) only [rUz,↓reduceIte,reduceEqDiff,reduceAdd]; exact hIF) ?_
  rintro u g hkg rfl
  simp (disch:=first|omega|simp only [aA,aB]<;>omega|decide) only [rUz,↓reduceIte,reduceEqDiff,reduceAdd,hge]
  refine S.ret ?_
  try simp only [aJ,aF]
  subst hF
  simp only [finish,aI]
  rw [show Tryz.f81.results.toList = [.tmp 4] from rfl]
  simp (disch:=first|omega|simp only [aA,aB]<;>omega|decide) only [bK,aY,aS,aT,aQ,aU,aO,upd_ne,aP,aW,result1]
  exact hK _ _ hkg rfl) ?_
 rintro u g hkg rfl
 simp (disch:=first|omega|simp only [aA,aB]<;>omega|decide) only [rUz,↓reduceIte,reduceEqDiff,reduceAdd]
 refine S.ret ?_
 try simp only [aJ,aF]
 subst hF
 simp only [finish,aI]
 rw [show Tryz.f58.results.toList = [.tmp 4] from rfl]
 simp (disch:=first|omega|simp only [aA,aB]<;>omega|decide) only [bK,aY,aS,aT,aQ,aU,aO,upd_ne,aP,aW,result1]
 exact hK _ _ (k0.trans hkg) rfl
end Go.Proofs.Po

/- The records that must be left out. -/
namespace Go.Proofs.Po
open Nat (reduceEqDiff reduceAdd reduceSub)
open Go Go.Ev Go.RowKit
set_option linter.unusedSimpArgs false
variable {pr:Prim} {R:ExT}
/-- What is left of records. -/
def lvO (L:List Sa) (x:List Int):List Sa:=kP (kZ 0 x) L 0
def lvQ (O:List Od) (L:List Sa) (x:List Int):Bool:=canZ O (lvO L x)
theorem lvO_len (L:List Sa) (x:List Int):(lvO L x).length ≤ L.length:=othG_len _ _ _
theorem leaveOne_y (S:Ev.Steps Tryz.prog pr R) (hoff:Off pr) (h0:AHeap) (B7 B3 Bw:Nat) (v w xv:Value) (O:List Od) (L:List Sa) (x:List Int) (hall:(dW O).length ≤ 1000000) (h7:h0.bl.get B7 = some (.cells [bG Bw] B7 false)) (h7l:B7 < h0.nx) (h3:h0.bl.get B3 = some (.cells [w] B3 false)) (hwk:WkAt h0 Bw v O) (hw:SlAt h0 4 w (L.map cSa)) (hL:L.length ≤ 1000) (hx:IAt h0 xv x) (hxl:x.length ≤ 1000) :
  bD Tryz.prog R 57 [xv,bG B7,bG B3] h0 fun u _=>u = .bool (lvQ O L x):=by
 have hwv:=rF hw
 obtain ⟨x1,x2,x3,rfl⟩:=ints_sl hx
 have hxv:veq (.slice x1 x2 x3) (.slice x1 x2 x3) = true:=IAt.veq hx
 refine aV (fn:=Tryz.f57) (c:=(Tryz.f57.body).getD .skip) (by kernel_rfl) rfl (by kernel_rfl) rfl (fun K hK=>?_)
 generalize hF:finish Tryz.prog Tryz.f57 K = KF
 simp only [Tryz.f57,Option.getD_some,bJ,aX,aZ,T.setK_eq,id]
 repeat refine S.seq ?_
 refine S.region ?_
 simp (disch:=first|omega|simp only [aA,aB]<;>omega|decide) only [rUz,↓reduceIte,reduceEqDiff,reduceAdd]
 repeat refine S.seq ?_
 refine S.drawnL [(false,0),(false,0),(false,0),(true,6),(true,15),(false,31)] (by kernel_rfl) (by kernel_rfl) (by kernel_rfl) ?_
 simp (disch:=first|omega|simp only [aA,aB]<;>omega|decide) only [rUz,↓reduceIte,reduceEqDiff,reduceAdd,rDz,infoL,reduceSub,h7,p88,h3,qcS]
 refine dC (fid:=59) (first:=#[]) (captured:=#[]) (Post:=fun u h=>∃ F,App h0.nx h 4 u ((kP (kZ 0 x) L 0).map cSa) F) rfl (hoff _ _ _ rfl) (by simp (disch:=first|omega|simp only [aA,aB]<;>omega|decide) only [rUz,↓reduceIte,reduceEqDiff,reduceAdd]; exact othersS_y S hoff h0 w (.slice x1 x2 x3) L x 0 hw hL (by omega) hx hxl) (Nat.le_of_ble_eq_true rfl) ?_
 rintro u g hkg ⟨F,app⟩
 have h7g:=(hkg.get h7l).trans h7
 refine ⟨?_,?_⟩
 ·try simp (disch:=first|decide|rfl) only [aK,aG,aH]
  rw [bF (v:=bG Bw) (by simp (disch:=first|omega|simp only [aA,aB]<;>omega|decide) only [rUz,↓reduceIte,reduceEqDiff,reduceAdd,rDz,infoL,reduceSub,h7g,p88]) (vC Bw)]
  try simp (disch:=first|decide|rfl) only [aK,aG,aH]
 simp (disch:=first|omega|simp only [aA,aB]<;>omega|decide) only [rUz,↓reduceIte,reduceEqDiff,reduceAdd,rDz,infoL,reduceSub]
 refine dC (fid:=58) (first:=#[]) (captured:=#[]) (Post:=fun u _=>u = .bool (lvQ O L x)) rfl (hoff _ _ _ rfl) (by simp (disch:=first|omega|simp only [aA,aB]<;>omega|decide) only [rUz,↓reduceIte,reduceEqDiff,reduceAdd]; exact canExplain_y S hoff g Bw v u O (lvO L x) hall (hwk.mono hkg) app.at (by have:=lvO_len L x; omega)) (Nat.le_of_ble_eq_true rfl) ?_
 rintro u2 g2 hkg2 rfl
 refine ⟨?_,?_⟩
 ·try simp (disch:=first|decide|rfl) only [aK,aG,aH]
 simp (disch:=first|omega|simp only [aA,aB]<;>omega|decide) only [rUz,↓reduceIte,reduceEqDiff,reduceAdd,rDz,infoL,reduceSub]
 refine S.ret ?_
 try simp only [aJ,aF]
 subst hF
 simp only [finish,aI]
 rw [show Tryz.f57.results.toList = [.tmp 4] from rfl]
 simp (disch:=first|omega|simp only [aA,aB]<;>omega|decide) only [bK,aY,aS,aT,aQ,aU,aO,upd_ne,aP,aW,result1]
 exact hK _ _ (hkg.trans hkg2) rfl
def LvAt (O:List Od) (L:List Sa) (u:Value) (h:AHeap):Prop:=
 (rQ O L ≠ 0 ∧ u = .tuple ⟨[nl,iv (rQ O L)]⟩) ∨ (rQ O L = 0 ∧ ∃ x w,(smZ L.length L.length).find? (lvQ O L) = some x ∧ u = .tuple ⟨[w,iv 0]⟩ ∧ IAt h w x) ∨ (rQ O L = 0 ∧ (smZ L.length L.length).find? (lvQ O L) = none ∧ u = .tuple ⟨[nl,iv 0]⟩)
theorem leave_y (S:Ev.Steps Tryz.prog pr R) (hoff:Off pr) (h0:AHeap) (v w:Value) (O:List Od) (L:List Sa) (hb:PoAt h0 v O) (hw:SlAt h0 4 w (L.map cSa)) (h9:O.length ≤ 9) (hL:L.length ≤ 100) :
  bD Tryz.prog R 21 [.agg ⟨poV v⟩,w] h0 (LvAt O L):=by
 obtain ⟨w1,w2,w3,rfl⟩:=row_sl hw
 refine aV (fn:=Tryz.f21) (c:=(Tryz.f21.body).getD .skip) (by kernel_rfl) rfl (by kernel_rfl) rfl (fun K hK=>?_)
 generalize hF:finish Tryz.prog Tryz.f21 K = KF
 simp only [Tryz.f21,Option.getD_some,bJ,aX,aZ,T.setK_eq,id]
 repeat refine S.seq ?_
 refine S.region ?_
 simp (disch:=first|omega|simp only [aA,aB]<;>omega|decide) only [rUz,↓reduceIte,reduceEqDiff,reduceAdd,xK]
 obtain ⟨B2,hB2⟩:∃ x,x = h0.nx:=⟨_,rfl⟩
 obtain ⟨B3,hB3⟩:∃ x,x = h0.nx + 1:=⟨_,rfl⟩
 have b2:((h0.add (poV v)).add [.slice w1 w2 w3]).bl.get B2 = some (.cells (poV v) B2 false):=by
  rw [aW (by show B2 ≠ h0.nx + 1; omega)]; subst hB2; exact aP rfl
 have b3:((h0.add (poV v)).add [.slice w1 w2 w3]).bl.get B3 = some (.cells [.slice w1 w2 w3] B3 false):=by subst hB3; exact aP rfl
 have k0:Kp h0 ((h0.add (poV v)).add [.slice w1 w2 w3]):=Kp.refl.add.add
 have n0:((h0.add (poV v)).add [.slice w1 w2 w3]).nx = h0.nx + 2:=rfl
 rw [← hB3,← hB2]
 generalize (h0.add (poV v)).add [.slice w1 w2 w3] = H at b2 b3 k0 n0 ⊢
 repeat refine S.seq ?_
 refine S.region ?_
 simp (disch:=first|omega|simp only [aA,aB]<;>omega|decide) only [rUz,↓reduceIte,reduceEqDiff,reduceAdd,b2,b3,qcS,bT pB (dR v)]
 refine bC (fid:=52) (first:=#[]) (captured:=#[]) (Post:=fun u _=>u = iv (rQ O L)) rfl (hoff _ _ _ rfl) (by simp (disch:=first|omega|simp only [aA,aB]<;>omega|decide) only [rUz,↓reduceIte,reduceEqDiff,reduceAdd]; exact look_y S hoff H v (.slice w1 w2 w3) O L (hb.mono k0) (SlAt.mono hw k0) h9) ?_
 rintro u g hkg rfl
 have g2:=(hkg.get (by omega:B2 < H.nx)).trans b2
 have g3:=(hkg.get (by omega:B3 < H.nx)).trans b3
 have kg:=k0.trans hkg
 have ng:=hkg.1
 clear b2 b3
 simp (disch:=first|omega|simp only [aA,aB]<;>omega|decide) only [rUz,↓reduceIte,reduceEqDiff,reduceAdd]
 cases h1:decide (rQ O L = 0) with
 | false =>
  have hz:=of_decide_eq_false h1
  repeat refine S.seq ?_
  refine S.region ?_
  simp (disch:=first|omega|simp only [aA,aB]<;>omega|decide) only [rUz,↓reduceIte,reduceEqDiff,reduceAdd,h1,Bool.not_false]
  repeat refine S.seq ?_
  refine S.cond (v:=true) (by first|rfl|(simp (disch:=first|omega|simp only [aA,aB]<;>omega|decide) only [rUz,↓reduceIte,reduceEqDiff,reduceAdd]<;>rfl)) (fun _=>?_) (fun e=>by cases e)
  repeat refine S.seq ?_
  refine S.region ?_
  simp (disch:=first|omega|simp only [aA,aB]<;>omega|decide) only [rUz,↓reduceIte,reduceEqDiff,reduceAdd]
  refine S.ret ?_
  try simp only [aJ,aF]
  subst hF
  simp only [finish,aI]
  rw [show Tryz.f21.results.toList = [.tmp 4,.tmp 5] from rfl]
  simp (disch:=first|omega|simp only [aA,aB]<;>omega|decide) only [bK,aY,aS,aT,aQ,aU,aO,upd_ne,aP,aW,result1]
  exact hK _ _ kg (.inl ⟨hz,rfl⟩)
 | true =>
 have hz:=of_decide_eq_true h1
 have hv:Val O:=by
  unfold rQ at hz
  cases hf:decide (dY O = 0) with
  | true=>exact nM.1 (of_decide_eq_true hf)
  | false=>rw [hf,cond_false] at hz; exact absurd hz (of_decide_eq_false hf)
 have hal:=all_len hv
 repeat refine S.seq ?_
 refine S.region ?_
 simp (disch:=first|omega|simp only [aA,aB]<;>omega|decide) only [rUz,↓reduceIte,reduceEqDiff,reduceAdd,h1,Bool.not_true]
 repeat refine S.seq ?_
 refine S.cond (v:=false) (by first|rfl|(simp (disch:=first|omega|simp only [aA,aB]<;>omega|decide) only [rUz,↓reduceIte,reduceEqDiff,reduceAdd]<;>rfl)) (fun e=>by cases e) (fun _=>?_)
 repeat refine S.seq ?_
 refine S.skip ?_
 simp (disch:=first|omega|simp only [aA,aB]<;>omega|decide) only [rUz,↓reduceIte,reduceEqDiff,reduceAdd]
 repeat refine S.seq ?_
 refine S.region ?_
 simp (disch:=first|omega|simp only [aA,aB]<;>omega|decide) only [rUz,↓reduceIte,reduceEqDiff,reduceAdd,g2,bT pB (dR v)]
 refine bC (fid:=46) (first:=#[]) (captured:=#[]) (Post:=fun u h=>∃ Bw,u = bG Bw ∧ g.nx ≤ Bw ∧ WkAt h Bw v O) rfl (hoff _ _ _ rfl) (by simp (disch:=first|omega|simp only [aA,aB]<;>omega|decide) only [rUz,↓reduceIte,reduceEqDiff,reduceAdd]; exact begin_y S hoff g v O (hb.mono kg) hv) ?_
 rintro u G hkG ⟨Bw,rfl,-,hwk⟩
 have nG:=hkG.1
 replace g3:=(hkG.get (by omega)).trans g3
 replace kg:=kg.trans hkG
 simp (disch:=first|omega|simp only [aA,aB]<;>omega|decide) only [rUz,↓reduceIte,reduceEqDiff,reduceAdd,cO z88,cp0]
 refine gI (B:=G.nx) (off:=0) (v:=bG Bw) (c:=[.pointer none]) (fam:=G.nx) (k0:=G.nx) (by simp (disch:=first|omega|simp only [aA,aB]<;>omega|decide) only [rUz,↓reduceIte,reduceEqDiff,reduceAdd]) (by simp (disch:=first|omega|simp only [aA,aB]<;>omega|decide) only [rUz,↓reduceIte,reduceEqDiff,reduceAdd]) s88 rfl rfl (aP rfl) (dL rfl) (by simp) ?_
 rw [show ([Value.pointer none]:List Value).set 0 (bG Bw) = [bG Bw] from rfl]
 obtain ⟨B7,hB7⟩:∃ x,x = G.nx:=⟨_,rfl⟩
 have k7:Kp G ((G.add [.pointer none]).upd G.nx [bG Bw] G.nx):=Kp.refl.add.upd (Nat.le_refl _)
 have b7:((G.add [.pointer none]).upd G.nx [bG Bw] G.nx).bl.get G.nx = some (.cells [bG Bw] G.nx false):=aO _ _ _
 have n7:((G.add [.pointer none]).upd G.nx [bG Bw] G.nx).nx = G.nx + 1:=rfl
 simp (disch:=first|omega|simp only [aA,aB]<;>omega|decide) only [rUz,↓reduceIte,reduceEqDiff,reduceAdd]
 rw [← hB7] at k7 b7 n7 ⊢
 generalize (G.add [.pointer none]).upd B7 [bG Bw] B7 = G2 at k7 b7 n7 ⊢
 have c3:=(k7.get (by omega)).trans g3
 have kg2:=kg.trans k7
 have hwG:=SlAt.mono hw kg2
 have hwkG:=hwk.mono k7
 have lS:=fun t h1 o=>dQ hwG iscS t h1 o
 repeat refine S.seq ?_
 refine S.region ?_
 simp (disch:=first|omega|simp only [aA,aB]<;>omega|decide) only [rUz,↓reduceIte,reduceEqDiff,reduceAdd,c3,qcS,lS]
 refine bC (fid:=56) (first:=#[]) (captured:=#[]) (Post:=SmAt L.length L.length (lvQ O L) G2.nx) rfl (hoff _ _ _ rfl) (by simp (disch:=first|omega|simp only [aA,aB]<;>omega|decide) only [rUz,↓reduceIte,reduceEqDiff,reduceAdd]; exact smallest_y S hoff G2 L.length L.length (by omega) (by omega) 57 [bG B7,bG B3] rfl (lvQ O L) (fun m hm x hx h' b f hk hb hg=>leaveOne_y S hoff h' B7 B3 Bw v (.slice w1 w2 w3) _ O L x (by omega) ((hk.get (by omega)).trans b7) (by have:=hk.1; omega) ((hk.get (by omega)).trans c3) (hwkG.mono hk) (SlAt.mono hwG hk) (by omega) (.inr ⟨b,_,f,false,rfl,hb,hg⟩) (by rw [vF m 0 x hx]; omega))) ?_
 rintro u g9 hk9 hsm
 rcases hsm with ⟨x,b,f,s1,rfl,s3,s4,s5⟩|⟨s1,rfl⟩
 ·simp (disch:=first|omega|simp only [aA,aB]<;>omega|decide) only [rUz,↓reduceIte,reduceEqDiff,reduceAdd]
  repeat refine S.seq ?_
  refine S.region ?_
  simp (disch:=first|omega|simp only [aA,aB]<;>omega|decide) only [rUz,↓reduceIte,reduceEqDiff,reduceAdd]
  refine S.ret ?_
  try simp only [aJ,aF]
  subst hF
  simp only [finish,aI]
  rw [show Tryz.f21.results.toList = [.tmp 4,.tmp 5] from rfl]
  simp (disch:=first|omega|simp only [aA,aB]<;>omega|decide) only [bK,aY,aS,aT,aQ,aU,aO,upd_ne,aP,aW,result1]
  exact hK _ _ (kg2.trans hk9) (.inr (.inl ⟨hz,x,_,s1,rfl,.inr ⟨b,_,f,false,rfl,s4,s5⟩⟩))
 ·simp (disch:=first|omega|simp only [aA,aB]<;>omega|decide) only [rUz,↓reduceIte,reduceEqDiff,reduceAdd]
  repeat refine S.seq ?_
  refine S.region ?_
  simp (disch:=first|omega|simp only [aA,aB]<;>omega|decide) only [rUz,↓reduceIte,reduceEqDiff,reduceAdd]
  refine S.ret ?_
  try simp only [aJ,aF]
  subst hF
  simp only [finish,aI]
  rw [show Tryz.f21.results.toList = [.tmp 4,.tmp 5] from rfl]
  simp (disch:=first|omega|simp only [aA,aB]<;>omega|decide) only [bK,aY,aS,aT,aQ,aU,aO,upd_ne,aP,aW,result1]
  exact hK _ _ (kg2.trans hk9) (.inr (.inr ⟨hz,s1,rfl⟩))
end Go.Proofs.Po
