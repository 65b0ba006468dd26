import Derived.Test.YthgmipngikdknaaGreatPrA
/- A copy of a truth; what the recursion over all orders looks at. -/
set_option maxHeartbeats 32000000
set_option maxRecDepth 100000
namespace Go.Proofs.Po
open Nat (reduceEqDiff reduceAdd reduceSub)
open Go Go.Ev Go.RowKit
set_option linter.unusedSimpArgs false
variable {pr:Prim} {R:ExT}
theorem nilS {q:Addr} {n c:Nat} {t:T Value} {o:Oper}:nV Tryz.prog t o .eql 35 (.slice none 0 0) (.slice (some q) n c) = some (.bool false):=by
 show rBin2 Tryz.prog t o .eql (qH Tryz.prog 35 (.slice (some q) n c) (.slice none 0 0)) = _
 unfold qH
 rw [uI]
 rfl
theorem evNil {t:T Value}:ev Tryz.prog t (.const (.slice none 0 0)) = .slice none 0 0:=rfl
theorem clone_y (S:Ev.Steps Tryz.prog pr R) (h0:AHeap) (b c f:Nat) (ro:Bool) (l:List Int) (hb:b < h0.nx) (hg:h0.bl.get b = some (.cells (l.map iv) f ro)) (hne:l ≠ []) (hl:l.length ≤ 1000) :
  bD Tryz.prog R 72 [.slice (some ⟨b,0,none⟩) l.length c] h0 fun u h=>INew h0.nx h u l:=by
 refine aV (fn:=Tryz.f72) (c:=(Tryz.f72.body).getD .skip) (by kernel_rfl) rfl (by kernel_rfl) rfl (fun K hK=>?_)
 generalize hF:finish Tryz.prog Tryz.f72 K = KF
 simp only [Tryz.f72,Option.getD_some,bJ,aX,aZ,T.setK_eq,id]
 repeat refine S.seq ?_
 refine S.region ?_
 simp (disch:=first|omega|simp only [aA,aB]<;>omega|decide) only [rUz,↓reduceIte,reduceEqDiff,reduceAdd]
 repeat refine S.seq ?_
 refine S.region ?_
 simp (disch:=first|omega|simp only [aA,aB]<;>omega|decide) only [rUz,↓reduceIte,reduceEqDiff,reduceAdd,evNil,nilS]
 repeat refine S.seq ?_
 refine S.cond (v:=false) (by first|rfl|(simp (disch:=first|omega|simp only [aA,aB]<;>omega|decide) only [rUz,↓reduceIte,reduceEqDiff,reduceAdd]<;>rfl)) (fun e=>by cases e) (fun _=>?_)
 repeat refine S.seq ?_
 refine S.skip ?_
 simp (disch:=first|omega|simp only [aA,aB]<;>omega|decide) only [rUz,↓reduceIte,reduceEqDiff,reduceAdd]
 repeat refine S.seq ?_
 refine S.region ?_
 simp (disch:=first|omega|simp only [aA,aB]<;>omega|decide) only [rUz,↓reduceIte,reduceEqDiff,reduceAdd,fH]
 refine wr_lit0 slI s3' z3 rfl ?_
 have hs:SlAt (h0.add []) 1 (.slice (some ⟨b,0,none⟩) l.length c) (i1 l):=by
  refine .inr ⟨b,c,f,ro,by simpa using hne,by rw [List.length_map],Nat.lt_succ_of_lt hb,?_,fun x hx=>?_⟩
  ·rw [aW (by omega),flat1]; exact hg
  ·obtain ⟨n,_,rfl⟩:=List.mem_map.1 hx; rfl
 simp (disch:=first|omega|simp only [aA,aB]<;>omega|decide) only [rUz,↓reduceIte,reduceEqDiff,reduceAdd,kW]
 refine wr_copyE (b:=h0.nx) (v:=.slice (some ⟨b,0,none⟩) l.length c) (cs:=i1 l) slI uI (by simp (disch:=first|omega|simp only [aA,aB]<;>omega|decide) only [rUz,↓reduceIte,reduceEqDiff,reduceAdd]) (by simp (disch:=first|omega|simp only [aA,aB]<;>omega|decide) only [rUz,↓reduceIte,reduceEqDiff,reduceAdd]) s3' (aP rfl) (dL rfl) (Nat.lt_succ_self _) hs nI (by rw [List.length_map]; show _ < 1000000; omega) ?_
 intro v' h' hc
 have hk:Kp h0 h':=hc.kp Kp.refl.add (Nat.le_refl _)
 obtain ⟨B,L,e1,e2,e3,e4,_⟩:=hc.at_
 simp (disch:=first|omega|simp only [aA,aB]<;>omega|decide) only [rUz,↓reduceIte,reduceEqDiff,reduceAdd]
 refine S.ret ?_
 try simp only [aJ,aF]
 subst hF
 simp only [finish,aI]
 rw [show Tryz.f72.results.toList = [.tmp 2] from rfl]
 simp (disch:=first|omega|simp only [aA,aB]<;>omega|decide) only [bK,aY,aS,aT,aQ,aU,aO,upd_ne,aP,aW,result1]
 refine hK _ _ hk ⟨B,h0.nx,by rw [e1,List.length_map],by rcases e2 with e2|e2<;>(have:(h0.add []).nx = h0.nx + 1:=rfl)<;>omega,e3,?_⟩
 rw [e4,flat1]
/-- The blocks of the recursion: what is called for each truth, the truth, the post, the recursion itself; the truth's array. -/
structure ZB where
 y:Nat
 s:Nat
 p:Nat
 c:Nat
 t:Nat
def Sm (S:Nat → Prop) (t:Nat) (j:Nat):Prop:=S j ∧ j ≠ t
def ZB.caps (z:ZB):List Value:=[bG z.y,bG z.s,bG z.p,bG z.c]
def oN (z:ZB):Value:=.func (.func 71) #[] ⟨z.caps⟩
structure ZOk (H:AHeap) (W:Nat → Prop) (v:Value) (n l:Nat) (z:ZB) (S:Nat → Prop) (h:AHeap):Prop where
 by_:h.bl.get z.y = some (.cells [.func (.yield l) #[] #[]] z.y false)
 bs:h.bl.get z.s = some (.cells [.slice (some ⟨z.t,0,none⟩) n n] z.s false)
 bp:h.bl.get z.p = some (.cells (poV v) z.p false)
 bc:h.bl.get z.c = some (.cells [oN z] z.c false)
 sy:Sm S z.t z.y ∧ z.y < h.nx
 ss:Sm S z.t z.s ∧ z.s < h.nx
 sc:Sm S z.t z.c ∧ z.c < h.nx
 sp:z.p < H.nx ∧ ¬ W z.p
 st:S z.t ∧ z.t < h.nx ∧ H.nx ≤ z.t
 ho:Out W H h
structure TB (z:ZB) (T:List Int) (h:AHeap):Prop where
 bl:h.bl.get z.t = some (.cells (T.map iv) z.t false)
 fm:h.fams.get z.t = some [z.t]
theorem TB.kp {z:ZB} {T:List Int} {h h':AHeap} (k:TB z T h) (hz:z.t < h.nx) (a:Kp h h'):TB z T h':=⟨(a.get hz).trans k.bl,(a.fget hz).trans k.fm⟩
theorem ZOk.bd {H:AHeap} {W:Nat → Prop} {v:Value} {n l:Nat} {z:ZB} {S:Nat → Prop} {h h':AHeap} (k:ZOk H W v n l z S h) (b:Bd (Sm S z.t) W H.nx h h'):ZOk H W v n l z S h':=by
 have hle:=b.le
 have hoo:=k.ho.le
 refine ⟨(b.get k.sy.2 (.inl k.sy.1)).trans k.by_,(b.get k.ss.2 (.inl k.ss.1)).trans k.bs,(b.get (by have:=k.sp.1; omega) (.inr k.sp)).trans k.bp,(b.get k.sc.2 (.inl k.sc.1)).trans k.bc,⟨k.sy.1,by have:=k.sy.2; omega⟩,⟨k.ss.1,by have:=k.ss.2; omega⟩,⟨k.sc.1,by have:=k.sc.2; omega⟩,k.sp,⟨k.st.1,by have:=k.st.2.1; omega,k.st.2.2⟩,b.out k.ho⟩
theorem ZOk.up {H:AHeap} {W:Nat → Prop} {v:Value} {n l:Nat} {z:ZB} {S S':Nat → Prop} {h:AHeap} (k:ZOk H W v n l z S h) (hs:∀ j,S j → S' j):ZOk H W v n l z S' h:=
 ⟨k.by_,k.bs,k.bp,k.bc,⟨⟨hs _ k.sy.1.1,k.sy.1.2⟩,k.sy.2⟩,⟨⟨hs _ k.ss.1.1,k.ss.1.2⟩,k.ss.2⟩,⟨⟨hs _ k.sc.1.1,k.sc.1.2⟩,k.sc.2⟩,k.sp,⟨hs _ k.st.1,k.st.2⟩,k.ho⟩
def AtT (H:AHeap) (x:List Int) (S:Nat → Prop) (h:AHeap) (az:List Value):Prop:=∃ b f,az = [.slice (some ⟨b,0,none⟩) x.length x.length] ∧ H.nx ≤ b ∧ b < h.nx ∧ ¬ S b ∧ h.bl.get b = some (.cells (x.map iv) f false)
/-- What is done for each truth, and kept of it. -/
structure Doer (P:Program) (R:ExT) (H:AHeap) (W:Nat → Prop) (l:Nat) (xs:List (List Int)) (I:Nat → (Nat → Prop) → AHeap → Prop) (E:(Nat → Prop) → AHeap → Prop):Prop where
 hI:∀ k,Stable (I k)
 hE:Stable E
 body:∀ k x S h az,xs[k]? = some x → AtT H x S h az → I k S h → Out W H h → (∀ j,S j → H.nx ≤ j ∧ j < h.nx) → ∀ Ky:KV,(∀ h',Bd S W H.nx h h' → I (k + 1) S h' → Ky (.bool true) h' = true) → (∀ h',Bd S W H.nx h h' → E S h' → Ky (.bool false) h' = true) → qL R l az h Ky = true
end Go.Proofs.Po

/- The recursion over all orders in which the orders come. -/
namespace Go.Proofs.Po
open Nat (reduceEqDiff reduceAdd reduceSub)
open Go Go.Ev Go.RowKit
set_option linter.unusedSimpArgs false
variable {pr:Prim} {R:ExT}
theorem sTb:bH Tryz.prog 4 = some 1:=by kernel_rfl
theorem zTb:zeroOf Tryz.prog 4 = some (.bool false):=by kernel_rfl
theorem pTy (c:List Value) (o:Nat):dD Tryz.prog 106 c o = c[o]?:=by kernel_rfl
theorem pTc (c:List Value) (o:Nat):dD Tryz.prog 124 c o = c[o]?:=by kernel_rfl
theorem cb0 (b:Bool):(Value.bool b).cells.toList = [Value.bool b]:=rfl
theorem veq_yield (l:Nat):veq (.func (.yield l) #[] #[]) (.func (.yield l) #[] #[]) = true:=by simp only [veq,veqA,veqL,Nat.beq_refl,Bool.and_self]
theorem veq_come (z:ZB):veq (oN z) (oN z) = true:=by simp only [oN,ZB.caps,veq,veqA,veqL,Nat.beq_refl,Bool.and_self]
/-- What the recursion leaves. -/
def CmPost (H:AHeap) (W:Nat → Prop) (n:Nat) (z:ZB) (Sx:Nat → Prop) (I:Nat → (Nat → Prop) → AHeap → Prop) (E:(Nat → Prop) → AHeap → Prop) (pre:List AR) (h:AHeap) (k2:Nat) (u:Value) (h':AHeap):Prop:=
 Bd (Sm Sx z.t) W H.nx h h' ∧ ((u = .bool true ∧ (∃ Tz',TB z Tz' h' ∧ Tz'.length = n ∧ ∀ a,a ∈ pre → Tz'[a.2]? = some a.1) ∧ I k2 Sx h') ∨ (u = .bool false ∧ E Sx h'))
theorem kpS {S W:Nat → Prop} {N:Nat} {h h':AHeap} (a:Kp h h'):Bd S W N h h':=a.bd
theorem come_leaf (S:Ev.Steps Tryz.prog pr R) (hoff:Off pr) (H:AHeap) (W:Nat → Prop) (v:Value) (O:List Od) (l:Nat) (z:ZB) (xs:List (List Int)) (I:Nat → (Nat → Prop) → AHeap → Prop) (E:(Nat → Prop) → AHeap → Prop) (D:Doer Tryz.prog R H W l xs I E) (hO:O.length ≤ 6 ∧ 1 ≤ O.length)
  (last:I2) (pre:List AR) (k:Nat) (wv:Value) (h:AHeap) (Sx:Nat → Prop) (Tz:List Int) (hT:Tz.length = O.length) (hS:∀ j,Sx j → H.nx ≤ j ∧ j < h.nx) (hz:ZOk H W v O.length l z Sx h) (ht:TB z Tz h) (hw:IAt h wv (wI [])) (hpr:∀ a,a ∈ pre → Tz[a.2]? = some a.1) (i:I k Sx h) (hx:xs[k]? = some Tz) :
  gJ Tryz.prog R 71 [wv,.agg ⟨c2 last⟩,bG z.y,bG z.s,bG z.p,bG z.c] h (CmPost H W O.length z Sx I E pre h (k + 1)):=by
 obtain ⟨q1,q2,q3,rfl⟩:=ints_sl hw
 have hlen:=fun t h1 o=>o5 hw t h1 o
 refine gW (fn:=Tryz.f71) (c:=(Tryz.f71.body).getD .skip) (by kernel_rfl) rfl (by kernel_rfl) rfl (fun K hK=>?_)
 generalize hF:finish Tryz.prog Tryz.f71 K = KF
 simp only [Tryz.f71,Option.getD_some,bJ,aX,aZ,T.setK_eq,id]
 repeat refine S.seq ?_
 refine S.region ?_
 simp (disch:=first|omega|simp only [aA,aB]<;>omega|decide) only [rUz,↓reduceIte,reduceEqDiff,reduceAdd,xK,cO zTb,cb0]
 obtain ⟨B6,hB6⟩:∃ x,x = h.nx:=⟨_,rfl⟩
 obtain ⟨B8,hB8⟩:∃ x,x = h.nx + 2:=⟨_,rfl⟩
 have hb6:(((h.add [.slice q1 q2 q3]).add (c2 last)).add [.bool false]).bl.get B6 = some (.cells [.slice q1 q2 q3] B6 false):=by
  rw [aW (by show B6 ≠ h.nx + 2; omega),aW (by show B6 ≠ h.nx + 1; omega)]; subst hB6; exact aP rfl
 have hb8:(((h.add [.slice q1 q2 q3]).add (c2 last)).add [.bool false]).bl.get B8 = some (.cells [.bool false] B8 false):=by subst hB8; exact aP rfl
 have hf8:(((h.add [.slice q1 q2 q3]).add (c2 last)).add [.bool false]).fams.get B8 = some [B8]:=by subst hB8; exact dL rfl
 have hk1:Kp h (((h.add [.slice q1 q2 q3]).add (c2 last)).add [.bool false]):=Kp.refl.add.add.add
 have hn1:(((h.add [.slice q1 q2 q3]).add (c2 last)).add [.bool false]).nx = h.nx + 3:=rfl
 rw [← hB8,← hB6]
 generalize ((h.add [.slice q1 q2 q3]).add (c2 last)).add [.bool false] = h1 at hb6 hb8 hf8 hk1 hn1 ⊢
 have hz1:=hz.bd (kpS hk1)
 have ht1:=ht.kp hz.st.2.1 hk1
 have e0:((wI []).length:Int) = 0:=rfl
 rw [e0] at hlen
 have hHh:=hz.ho.le
 repeat refine S.seq ?_
 refine S.region ?_
 simp (disch:=first|omega|simp only [aA,aB]<;>omega|decide) only [rUz,↓reduceIte,reduceEqDiff,reduceAdd,hb6,qI,hlen]
 repeat refine S.seq ?_
 refine S.cond (v:=true) (by first|rfl|(simp (disch:=first|omega|simp only [aA,aB]<;>omega|decide) only [rUz,↓reduceIte,reduceEqDiff,reduceAdd]<;>rfl)) (fun _=>?_) (fun e=>by cases e)
 have hTne:Tz ≠ []:=by intro e; rw [e] at hT; simp at hT; omega
 rw [← hT] at hz1
 repeat refine S.seq ?_
 refine S.drawnL [(false,0),(false,0),(true,2),(true,7),(true,15)] (by kernel_rfl) (by kernel_rfl) (by kernel_rfl) ?_
 simp (disch:=first|omega|simp only [aA,aB]<;>omega|decide) only [rUz,↓reduceIte,reduceEqDiff,reduceAdd,rDz,infoL,reduceSub,hz1.by_,pTy,hz1.bs,qI]
 refine dC (fid:=72) (first:=#[]) (captured:=#[]) (Post:=fun u g=>INew h1.nx g u Tz) rfl (hoff _ _ _ rfl) (by simp (disch:=first|omega|simp only [aA,aB]<;>omega|decide) only [rUz,↓reduceIte,reduceEqDiff,reduceAdd]; exact clone_y S h1 z.t Tz.length z.t false Tz hz1.st.2.1 ht1.bl hTne (by omega)) (Nat.le_of_ble_eq_true rfl) ?_
 rintro u g hkg ⟨bq,fq,rfl,bq1,bq2,bq3⟩
 have hz2:=hz1.bd (kpS hkg)
 refine ⟨?_,?_⟩
 ·try simp (disch:=first|decide|rfl) only [aK,aG,aH]
  rw [bF (v:=.func (.yield l) #[] #[]) (by simp (disch:=first|omega|simp only [aA,aB]<;>omega|decide) only [rUz,↓reduceIte,reduceEqDiff,reduceAdd,rDz,infoL,reduceSub,hz2.by_,pTy]) (veq_yield l)]
  try simp (disch:=first|decide|rfl) only [aK,aG,aH]
 simp (disch:=first|omega|simp only [aA,aB]<;>omega|decide) only [rUz,↓reduceIte,reduceEqDiff,reduceAdd,rDz,infoL,reduceSub]
 refine drW_yield (l:=l) (by simp (disch:=first|omega|simp only [aA,aB]<;>omega|decide) only [rUz,↓reduceIte,reduceEqDiff,reduceAdd,rDz,infoL,reduceSub]) (Nat.le_of_ble_eq_true rfl) ?_
 simp (disch:=first|omega|simp only [aA,aB]<;>omega|decide) only [rUz,↓reduceIte,reduceEqDiff,reduceAdd,rDz,infoL,reduceSub]
 have hb8g:=(hkg.get (by omega:B8 < h1.nx)).trans hb8
 have hf8g:=(hkg.fget (by omega:B8 < h1.nx)).trans hf8
 have hkhg:=hk1.trans hkg
 have iS:I k (fun j=>Sx j ∨ j = B8) g:=D.hI k _ _ _ _ i hkhg.out fun j hj h=>by
  rcases h with h|h
  ·exact h
  ·omega
 have low2:∀ j,(Sx j ∨ j = B8) → H.nx ≤ j ∧ j < g.nx:=fun j h=>by
  have:=hkg.1
  rcases h with h|h
  ·have:=hS j h; omega
  ·omega
 refine D.body k Tz (fun j=>Sx j ∨ j = B8) g _ hx ⟨bq,fq,rfl,by omega,bq2,fun h=>?_,bq3⟩ iS hz2.ho low2 _ (fun h' b i'=>?_) (fun h' b e'=>?_)
 ·rcases h with h|h
  ·have:=hS _ h; omega
  ·omega
 ·have hb8h:=(b.get (by omega:B8 < g.nx) (.inl (.inr rfl))).trans hb8g
  have hf8h:=(b.fget (by omega:B8 < g.nx) (.inl (.inr rfl))).trans hf8g
  have hgn:=hkg.1
  have hbn:=b.le
  refine yk_of ?_ ?_
  ·try simp (disch:=first|decide|rfl) only [aK,aG,aH]
  try simp (disch:=first|omega|simp only [aA,aB]<;>omega|decide) only [rUz,↓reduceIte,reduceEqDiff,reduceAdd,rDz,infoL,reduceSub]
  refine fP (jK (B:=B8) (off:=0) (v:=.bool true) (by simp (disch:=first|omega|simp only [aA,aB]<;>omega|decide) only [rUz,↓reduceIte,reduceEqDiff,reduceAdd,rDz,infoL,reduceSub]) (by simp (disch:=first|omega|simp only [aA,aB]<;>omega|decide) only [rUz,↓reduceIte,reduceEqDiff,reduceAdd,rDz,infoL,reduceSub]) sTb rfl rfl hb8h hf8h (by show 0 < 1; omega)) ?_ ?_
  ·try simp (disch:=first|decide|rfl) only [aK,aG,aH]
  simp (disch:=first|omega|simp only [aA,aB]<;>omega|decide) only [rUz,↓reduceIte,reduceEqDiff,reduceAdd,rDz,infoL,reduceSub]
  refine S.ret ?_
  try simp only [aJ,aF]
  subst hF
  simp only [finish,aI]
  rw [show Tryz.f71.results.toList = [.cell 8 4] from rfl]
  simp (disch:=first|omega|simp only [aA,aB]<;>omega|decide) only [bK,aY,aS,aT,aQ,aU,aO,upd_ne,aP,aW,result1,pb,List.set_cons_zero]
  have hkb:Bd (Sm Sx z.t) W H.nx h (h'.upd B8 [.bool true] B8):=by
   have k1:Bd (Sm Sx z.t) W H.nx h h':=(kpS hkhg).trans (b.mono fun j _ hj=>.inl hj.1)
   refine ⟨k1.le,fun j hj hn=>?_⟩
   rw [upd_ne _ _ _ (by omega),bM]
   exact k1.kp j hj hn
  refine hK _ _ ⟨hkb,.inl ⟨rfl,⟨Tz,⟨?_,?_⟩,hT,hpr⟩,?_⟩⟩
  ·rw [upd_ne _ _ _ (by have:=hz.st; omega)]
   exact (b.get (by have:=hz2.st; omega) (.inl (.inl hz.st.1))).trans ((hkhg.get hz.st.2.1).trans ht.bl)
  ·rw [bM]
   exact (b.fget (by have:=hz2.st; omega) (.inl (.inl hz.st.1))).trans ((hkhg.fget hz.st.2.1).trans ht.fm)
  ·refine D.hI _ _ _ _ _ i' (⟨Nat.le_refl _,fun j hj hn=>?_⟩:Out (fun j=>Sx j ∨ j = B8) h' (h'.upd B8 [.bool true] B8)) fun j _ h=>.inl h
   rw [upd_ne _ _ _ (fun q=>hn (.inr q)),bM]
   exact ⟨rfl,rfl⟩
 ·have hb8h:=(b.get (by omega:B8 < g.nx) (.inl (.inr rfl))).trans hb8g
  have hf8h:=(b.fget (by omega:B8 < g.nx) (.inl (.inr rfl))).trans hf8g
  have hgn:=hkg.1
  have hbn:=b.le
  refine yk_of ?_ ?_
  ·try simp (disch:=first|decide|rfl) only [aK,aG,aH]
  try simp (disch:=first|omega|simp only [aA,aB]<;>omega|decide) only [rUz,↓reduceIte,reduceEqDiff,reduceAdd,rDz,infoL,reduceSub]
  refine fP (jK (B:=B8) (off:=0) (v:=.bool false) (by simp (disch:=first|omega|simp only [aA,aB]<;>omega|decide) only [rUz,↓reduceIte,reduceEqDiff,reduceAdd,rDz,infoL,reduceSub]) (by simp (disch:=first|omega|simp only [aA,aB]<;>omega|decide) only [rUz,↓reduceIte,reduceEqDiff,reduceAdd,rDz,infoL,reduceSub]) sTb rfl rfl hb8h hf8h (by show 0 < 1; omega)) ?_ ?_
  ·try simp (disch:=first|decide|rfl) only [aK,aG,aH]
  simp (disch:=first|omega|simp only [aA,aB]<;>omega|decide) only [rUz,↓reduceIte,reduceEqDiff,reduceAdd,rDz,infoL,reduceSub]
  refine S.ret ?_
  try simp only [aJ,aF]
  subst hF
  simp only [finish,aI]
  rw [show Tryz.f71.results.toList = [.cell 8 4] from rfl]
  simp (disch:=first|omega|simp only [aA,aB]<;>omega|decide) only [bK,aY,aS,aT,aQ,aU,aO,upd_ne,aP,aW,result1,pb,List.set_cons_zero]
  have hkb:Bd (Sm Sx z.t) W H.nx h (h'.upd B8 [.bool false] B8):=by
   have k1:Bd (Sm Sx z.t) W H.nx h h':=(kpS hkhg).trans (b.mono fun j _ hj=>.inl hj.1)
   refine ⟨k1.le,fun j hj hn=>?_⟩
   rw [upd_ne _ _ _ (by omega),bM]
   exact k1.kp j hj hn
  refine hK _ _ ⟨hkb,.inr ⟨rfl,?_⟩⟩
  refine D.hE _ _ _ _ e' (⟨Nat.le_refl _,fun j hj hn=>?_⟩:Out (fun j=>Sx j ∨ j = B8) h' (h'.upd B8 [.bool false] B8)) fun j _ h=>.inl h
  rw [upd_ne _ _ _ (fun q=>hn (.inr q)),bM]
  exact ⟨rfl,rfl⟩
end Go.Proofs.Po

/- The recursion over all orders in which the orders come: its step. -/
namespace Go.Proofs.Po
open Nat (reduceEqDiff reduceAdd reduceSub)
open Go Go.Ev Go.RowKit
set_option linter.unusedSimpArgs false
variable {pr:Prim} {R:ExT}
theorem take_flat {α β:Type} (g:α → List β) {cz:List α} {i:Nat} {x:α} (h:cz[i]? = some x):(cz.take (i + 1)).flatMap g = (cz.take i).flatMap g ++ g x:=by
 rw [List.take_add_one,h]
 simp
theorem drop_flat {α β:Type} (g:α → List β) {cz:List α} {i:Nat} {x:α} (h:cz[i]? = some x):(cz.flatMap g).drop ((cz.take i).flatMap g).length = g x ++ (cz.drop (i + 1)).flatMap g:=by
 obtain ⟨hi,e⟩:=List.getElem?_eq_some_iff.1 h
 have e1:cz.flatMap g = (cz.take i).flatMap g ++ (cz.drop i).flatMap g:=by rw [← List.flatMap_append,List.take_append_drop]
 rw [e1,List.drop_append_of_le_length (Nat.le_refl _),List.drop_length,List.nil_append,List.drop_eq_getElem_cons hi,e,List.flatMap_cons]
theorem flat_le {α β:Type} (g:α → List β) (cz:List α) (i:Nat):((cz.take i).flatMap g).length ≤ (cz.flatMap g).length:=by
 have e1:cz.flatMap g = (cz.take i).flatMap g ++ (cz.drop i).flatMap g:=by rw [← List.flatMap_append,List.take_append_drop]
 rw [e1,List.length_append]; omega
/-- The ways that begin with one of those that can come next. -/
def wayZ (O:List Od) (n:Nat) (Wl:List Nat) (x:Nat × AR):List (List AR):=(fK O n (Wl.eraseIdx x.1) (iI x.2)).map fun p=>x.2 :: p
def cntZ (O:List Od) (n:Nat) (Wl:List Nat) (last:I2) (i:Nat):Nat:=(((fJ O Wl last).take i).flatMap (wayZ O n Wl)).length
theorem wJ (O:List Od) (n:Nat) (Wl:List Nat) (last:I2):fK O (n + 1) Wl last = (fJ O Wl last).flatMap (wayZ O n Wl):=rfl
theorem cnt_succ {O:List Od} {n:Nat} {Wl:List Nat} {last:I2} {i:Nat} {x:Nat × AR} (h:(fJ O Wl last)[i]? = some x):cntZ O n Wl last (i + 1) = cntZ O n Wl last i + (fK O n (Wl.eraseIdx x.1) (iI x.2)).length:=by
 unfold cntZ
 rw [take_flat _ h,List.length_append]
 unfold wayZ
 rw [List.length_map]
theorem cnt_all {O:List Od} {n:Nat} {Wl:List Nat} {last:I2}:cntZ O n Wl last (fJ O Wl last).length = (fK O (n + 1) Wl last).length:=by
 unfold cntZ
 rw [List.take_of_length_le (Nat.le_refl _),wJ]
/-- Which truths are left. -/
theorem rest_at {O:List Od} {n N k:Nat} {Wl:List Nat} {last:I2} {pre:List AR} {xs:List (List Int)} {rest:List (List Int)} (hx:xs.drop k = (fK O (n + 1) Wl last).map (fun p=>dZ N (pre ++ p)) ++ rest) {i:Nat} {x:Nat × AR} (h:(fJ O Wl last)[i]? = some x) :
  ∃ rest',xs.drop (k + cntZ O n Wl last i) = (fK O n (Wl.eraseIdx x.1) (iI x.2)).map (fun p=>dZ N ((pre ++ [x.2]) ++ p)) ++ rest':=by
 have e:=drop_flat (wayZ O n Wl) h
 have hle:=flat_le (wayZ O n Wl) (fJ O Wl last) i
 refine ⟨((fJ O Wl last).drop (i + 1)).flatMap (wayZ O n Wl) |>.map (fun p=>dZ N (pre ++ p)) |>.append rest,?_⟩
 rw [← List.drop_drop,hx,wJ,List.drop_append_of_le_length (by rw [List.length_map]; exact hle)]
 show ((List.map _ _).drop (((fJ O Wl last).take i).flatMap (wayZ O n Wl)).length) ++ rest = _
 rw [← List.map_drop,e,List.map_append,List.append_assoc]
 congr 1
 unfold wayZ
 rw [List.map_map]
 congr 1
 funext p
 show dZ N (pre ++ x.2 :: p) = _
 rw [List.append_assoc]; rfl
theorem getI {n:Nat} {B i:Nat} (h:i < n):bY Tryz.prog 35 (.slice (some ⟨B,0,none⟩) n n) (iv (i:Int)) = some (.pointer (some ⟨B,i,none⟩)):=by
 rw [eQ slI s3' h,Nat.zero_add,Nat.mul_one]
theorem set_agree {Tz:List Int} {pre:List AR} {a:AR} (h:∀ b,b ∈ pre → Tz[b.2]? = some b.1) (hn:∀ b,b ∈ pre → b.2 ≠ a.2) (hl:a.2 < Tz.length):∀ b,b ∈ pre ++ [a] → (Tz.set a.2 a.1)[b.2]? = some b.1:=by
 intro b hb
 rw [List.getElem?_set]
 rcases List.mem_append.1 hb with hb|hb
 ·rw [if_neg fun e=>hn b hb e.symm]; exact h b hb
 ·obtain rfl:b = a:=by simpa using hb
  rw [if_pos rfl,if_pos hl]
/-- What holds of the truth as far as it is chosen. -/
structure PreOk (O:List Od) (pre:List AR) (Wl:List Nat) (last:I2):Prop where
 nd:Wl.Pairwise fun x y=>x ≠ y
 lt:∀ j,j ∈ Wl → j < O.length
 cov:∀ j,j < O.length → j ∈ Wl ∨ ∃ a,a ∈ pre ∧ a.2 = j
 out:∀ a,a ∈ pre → a.2 ∉ Wl
 pn:pre.Pairwise fun x y=>x.2 ≠ y.2
 lst:0 ≤ last.1 ∧ last.1 ≤ 1000
theorem pre_step {O:List Od} {pre:List AR} {Wl:List Nat} {last:I2} (hv:Val O) (k:PreOk O pre Wl last) {i:Nat} {x:Nat × AR} (h:(fJ O Wl last)[i]? = some x) :
  PreOk O (pre ++ [x.2]) (Wl.eraseIdx x.1) (iI x.2) ∧ x.1 < Wl.length ∧ x.2.2 < O.length ∧ x.2.2 ∈ Wl:=by
 obtain ⟨q,hq,j,hj,e,hc⟩:=oV (List.mem_of_getElem? h)
 rw [Nat.zero_add] at hq
 have e2:x.2.2 = j:=by rw [e]; rfl
 have hjW:=List.mem_of_getElem? hj
 have hjO:=k.lt j hjW
 have hql:=(List.getElem?_eq_some_iff.1 hj).1
 have hcc:=uX.1 hc
 have ok:=hv.ok _ (List.mem_of_getElem? (jB hjO))
 have m0:=ok.m0; have m2:=ok.m2
 rw [e2] at hcc
 refine ⟨⟨tV k.nd _,fun y hy=>?_,fun y hy=>?_,fun a ha=>?_,?_,by unfold iI; show 0 ≤ x.2.1 ∧ x.2.1 ≤ 1000; omega⟩,by omega,by omega,by rw [e2]; exact hjW⟩
 ·rw [hq,jM k.nd hj] at hy; exact k.lt y hy.1
 ·by_cases hyj:y = j
  ·exact .inr ⟨x.2,by simp,by rw [e2,hyj]⟩
  ·rcases k.cov y hy with h|⟨a,ha,rfl⟩
   ·exact .inl (by rw [hq,jM k.nd hj]; exact ⟨h,hyj⟩)
   ·exact .inr ⟨a,by simp [ha],rfl⟩
 ·rw [hq,jM k.nd hj]
  rcases List.mem_append.1 ha with ha|ha
  ·exact fun q=>k.out a ha q.1
  ·obtain rfl:a = x.2:=by simpa using ha
   exact fun q=>q.2 e2
 ·rw [List.pairwise_append]
  refine ⟨k.pn,List.pairwise_singleton _ _,fun a ha b hb=>?_⟩
  obtain rfl:b = x.2:=by simpa using hb
  intro e3
  exact k.out a ha (by rw [e3,e2]; exact hjW)
end Go.Proofs.Po

/- The recursion over all orders in which the orders come: its walk. -/
namespace Go.Proofs.Po
open Nat (reduceEqDiff reduceAdd reduceSub)
open Go Go.Ev Go.RowKit
set_option linter.unusedSimpArgs false
variable {pr:Prim} {R:ExT}
/-- What is kept while those that can come next are gone through: G is the heap at the beginning. -/
structure KqI (H:AHeap) (W:Nat → Prop) (n:Nat) (z:ZB) (S3:Nat → Prop) (I:Nat → (Nat → Prop) → AHeap → Prop) (pre:List AR) (G:AHeap) (k:Nat) (U:Nat → Prop) (h:AHeap):Prop where
 le:G.nx ≤ h.nx
 up:∀ j,U j → G.nx ≤ j
 bd:Bd (Sm S3 z.t) W H.nx G h
 tb:∃ Tz,TB z Tz h ∧ Tz.length = n ∧ ∀ a,a ∈ pre → Tz[a.2]? = some a.1
 i:I k (fun j=>S3 j ∨ U j) h
structure E2 (H:AHeap) (W:Nat → Prop) (z:ZB) (S3:Nat → Prop) (E:(Nat → Prop) → AHeap → Prop) (G:AHeap) (e:Exit) (U:Nat → Prop) (h:AHeap):Prop where
 le:G.nx ≤ h.nx
 up:∀ j,U j → G.nx ≤ j
 bd:Bd (Sm S3 z.t) W H.nx G h
 e:e = .ret
 i:E (fun j=>S3 j ∨ U j) h
theorem bd_out {H:AHeap} {W S3 U:Nat → Prop} {z:ZB} {G h h':AHeap} (b:Bd (Sm S3 z.t) W H.nx G h) (hu:∀ j,U j → G.nx ≤ j) (o:Out U h h'):Bd (Sm S3 z.t) W H.nx G h':=
 ⟨Nat.le_trans b.le o.le,fun j hj hn=>by
  have hnu:¬ U j:=fun q=>by have:=hu j q; omega
  have hjh:=Nat.lt_of_lt_of_le hj b.le
  exact ⟨(o.get hjh hnu).trans (b.get hj hn),(o.fget hjh hnu).trans (b.fget hj hn)⟩⟩
theorem KqI.stable {H:AHeap} {W:Nat → Prop} {n:Nat} {z:ZB} {S3:Nat → Prop} {I:Nat → (Nat → Prop) → AHeap → Prop} {pre:List AR} {G:AHeap} (hI:∀ k,Stable (I k)) (hz:z.t < G.nx) (k:Nat):Stable (KqI H W n z S3 I pre G k):=by
 intro U U' h h' q o hu
 have hup:∀ j,U' j → G.nx ≤ j:=fun j hj=>by
  by_cases hjh:j < h.nx
  ·exact q.up j (hu j hjh hj)
  ·have:=q.le; omega
 refine ⟨Nat.le_trans q.le o.le,hup,bd_out q.bd q.up o,?_,?_⟩
 ·obtain ⟨Tz,t1,t2,t3⟩:=q.tb
  have hnu:¬ U z.t:=fun q2=>by have:=q.up _ q2; omega
  have hzh:=Nat.lt_of_lt_of_le hz q.le
  exact ⟨Tz,⟨(o.get hzh hnu).trans t1.bl,(o.fget hzh hnu).trans t1.fm⟩,t2,t3⟩
 ·refine hI k _ _ _ _ q.i (o.weak fun j _ hj=>.inr hj) fun j hj hj'=>?_
  rcases hj' with hj'|hj'
  ·exact .inl hj'
  ·exact .inr (hu j hj hj')
theorem E2.stable {H:AHeap} {W:Nat → Prop} {z:ZB} {S3:Nat → Prop} {E:(Nat → Prop) → AHeap → Prop} {G:AHeap} (hE:Stable E) (e:Exit):Stable (E2 H W z S3 E G e):=by
 intro U U' h h' q o hu
 have hup:∀ j,U' j → G.nx ≤ j:=fun j hj=>by
  by_cases hjh:j < h.nx
  ·exact q.up j (hu j hjh hj)
  ·have:=q.le; omega
 refine ⟨Nat.le_trans q.le o.le,hup,bd_out q.bd q.up o,q.e,?_⟩
 refine hE _ _ _ _ q.i (o.weak fun j _ hj=>.inr hj) fun j hj hj'=>?_
 rcases hj' with hj'|hj'
 ·exact .inl hj'
 ·exact .inr (hu j hj hj')
theorem xQ {h:AHeap} {B:Nat} {c:List Value} {S:Nat → Prop} (hB:S B):Out S h (h.upd B c B):=⟨Nat.le_refl _,fun j _ hn=>by
 rw [upd_ne _ _ _ (fun e=>hn (by rw [e]; exact hB)),bM]
 exact ⟨rfl,rfl⟩⟩
theorem xR {h:AHeap} {B:Nat} {o:AObj} {S:Nat → Prop} (hB:S B):Out S h (h.setm B o):=⟨Nat.le_refl _,fun j _ hn=>by
 rw [gK (fun e=>hn (by rw [e]; exact hB)),setm_fams]
 exact ⟨rfl,rfl⟩⟩
theorem app_keep {lo F:Nat} {g h':AHeap} {u:Value} {l:List Int} (k:App lo g 1 u (i1 l) F) (hle:g.nx ≤ h'.nx) (hb:∀ b,lo ≤ b → b < g.nx → h'.bl.get b = g.bl.get b):IAt h' u l:=by
 rcases k with ⟨k1,k2⟩|⟨b,L,k1,k2,k3,k4,k5,_⟩
 ·exact .inl ⟨by simpa using k1,.inl k2⟩
 ·refine .inr ⟨b,(i1 l).length,F,false,by rw [k2,List.length_map],by omega,?_⟩
  rw [hb b k3 k4,k5,flat1]
theorem leftP_one {i:Nat}:∀ j,kZ 0 [(i:Int)] j = decide (j = 0 + i):=by
 intro j
 unfold kZ hasI
 simp only [List.any_cons,List.any_nil,Bool.or_false]
 congr 1
 rw [eq_iff_iff]; omega
theorem oth_wI {Wl:List Nat} {i:Nat}:kP (kZ 0 [(i:Int)]) (wI Wl) 0 = wI (Wl.eraseIdx i):=by
 unfold wI
 rw [othG_map,othG_erase Wl 0 i leftP_one]
theorem come_step (S:Ev.Steps Tryz.prog pr R) (hoff:Off pr) (H:AHeap) (W:Nat → Prop) (v:Value) (O:List Od) (hv:Val O) (l:Nat) (z:ZB) (xs:List (List Int)) (I:Nat → (Nat → Prop) → AHeap → Prop) (E:(Nat → Prop) → AHeap → Prop) (D:Doer Tryz.prog R H W l xs I E)
  (hp:∀ h',Out W H h' → PoAt h' v O) (n:Nat)
  (ih:∀ (Wl:List Nat) (last:I2) (pre:List AR) (k:Nat) (rest:List (List Int)) (wv:Value) (h:AHeap) (Sx:Nat → Prop) (Tz:List Int),Wl.length = n → n ≤ O.length → PreOk O pre Wl last → Tz.length = O.length → (∀ a,a ∈ pre → Tz[a.2]? = some a.1) → (∀ j,Sx j → H.nx ≤ j ∧ j < h.nx) → ZOk H W v O.length l z Sx h → TB z Tz h →
   (∀ h',Bd (Sm Sx z.t) W H.nx h h' → IAt h' wv (wI Wl)) → I k Sx h → xs.drop k = (fK O n Wl last).map (fun p=>dZ O.length (pre ++ p)) ++ rest →
   gJ Tryz.prog R 71 [wv,.agg ⟨c2 last⟩,bG z.y,bG z.s,bG z.p,bG z.c] h (CmPost H W O.length z Sx I E pre h (k + (fK O n Wl last).length)))
  (Wl:List Nat) (last:I2) (pre:List AR) (k:Nat) (rest:List (List Int)) (wv:Value) (h:AHeap) (Sx:Nat → Prop) (Tz:List Int) (hWl:Wl.length = n + 1) (hnO:n + 1 ≤ O.length) (hpo:PreOk O pre Wl last) (hT:Tz.length = O.length) (hpr:∀ a,a ∈ pre → Tz[a.2]? = some a.1) (hS:∀ j,Sx j → H.nx ≤ j ∧ j < h.nx) (hz:ZOk H W v O.length l z Sx h) (ht:TB z Tz h)
  (hw:∀ h',Bd (Sm Sx z.t) W H.nx h h' → IAt h' wv (wI Wl)) (i:I k Sx h) (hx:xs.drop k = (fK O (n + 1) Wl last).map (fun p=>dZ O.length (pre ++ p)) ++ rest) :
  gJ Tryz.prog R 71 [wv,.agg ⟨c2 last⟩,bG z.y,bG z.s,bG z.p,bG z.c] h (CmPost H W O.length z Sx I E pre h (k + (fK O (n + 1) Wl last).length)):=by
 have hw0:=hw h Bd.refl
 have h6:=hv.l6
 have hW6:Wl.length ≤ 6:=by omega
 obtain ⟨q1,q2,q3,rfl⟩:=ints_sl hw0
 have hlen:=fun t h1 o=>o5 hw0 t h1 o
 rw [wI_len,hWl] at hlen
 refine gW (fn:=Tryz.f71) (c:=(Tryz.f71.body).getD .skip) (by kernel_rfl) rfl (by kernel_rfl) rfl (fun K hK=>?_)
 generalize hF:finish Tryz.prog Tryz.f71 K = KF
 simp only [Tryz.f71,Option.getD_some,bJ,aX,aZ,T.setK_eq,id]
 repeat refine S.seq ?_
 refine S.region ?_
 simp (disch:=first|omega|simp only [aA,aB]<;>omega|decide) only [rUz,↓reduceIte,reduceEqDiff,reduceAdd,xK,cO zTb,cb0]
 obtain ⟨B6,hB6⟩:∃ x,x = h.nx:=⟨_,rfl⟩
 obtain ⟨B7,hB7⟩:∃ x,x = h.nx + 1:=⟨_,rfl⟩
 obtain ⟨B8,hB8⟩:∃ x,x = h.nx + 2:=⟨_,rfl⟩
 have hb6:(((h.add [.slice q1 q2 q3]).add (c2 last)).add [.bool false]).bl.get B6 = some (.cells [.slice q1 q2 q3] B6 false):=by
  rw [aW (by show B6 ≠ h.nx + 2; omega),aW (by show B6 ≠ h.nx + 1; omega)]; subst hB6; exact aP rfl
 have hb7:(((h.add [.slice q1 q2 q3]).add (c2 last)).add [.bool false]).bl.get B7 = some (.cells (c2 last) B7 false):=by
  rw [aW (by show B7 ≠ h.nx + 2; omega)]; subst hB7; exact aP rfl
 have hb8:(((h.add [.slice q1 q2 q3]).add (c2 last)).add [.bool false]).bl.get B8 = some (.cells [.bool false] B8 false):=by subst hB8; exact aP rfl
 have hf8:(((h.add [.slice q1 q2 q3]).add (c2 last)).add [.bool false]).fams.get B8 = some [B8]:=by subst hB8; exact dL rfl
 have hk1:Kp h (((h.add [.slice q1 q2 q3]).add (c2 last)).add [.bool false]):=Kp.refl.add.add.add
 have hn1:(((h.add [.slice q1 q2 q3]).add (c2 last)).add [.bool false]).nx = h.nx + 3:=rfl
 rw [← hB8,← hB7,← hB6]
 generalize ((h.add [.slice q1 q2 q3]).add (c2 last)).add [.bool false] = h1 at hb6 hb7 hb8 hf8 hk1 hn1 ⊢
 have hz1:=hz.bd (kpS hk1)
 have hHh:=hz.ho.le
 repeat refine S.seq ?_
 refine S.region ?_
 simp (disch:=first|omega|simp only [aA,aB]<;>omega|decide) only [rUz,↓reduceIte,reduceEqDiff,reduceAdd,hb6,qI,hlen]
 repeat refine S.seq ?_
 refine S.cond (v:=false) (by first|rfl|(simp (disch:=first|omega|simp only [aA,aB]<;>omega|decide) only [rUz,↓reduceIte,reduceEqDiff,reduceAdd]<;>rfl)) (fun e=>by cases e) (fun _=>?_)
 repeat refine S.seq ?_
 refine S.skip ?_
 simp (disch:=first|omega|simp only [aA,aB]<;>omega|decide) only [rUz,↓reduceIte,reduceEqDiff,reduceAdd]
 repeat refine S.seq ?_
 refine S.region ?_
 simp (disch:=first|omega|simp only [aA,aB]<;>omega|decide) only [rUz,↓reduceIte,reduceEqDiff,reduceAdd,hb6,hb7,hz1.bp,qI,bT pB (dR v),bT pV (kX last)]
 refine bC (fid:=73) (first:=#[]) (captured:=#[]) (Post:=fun u h'=>∃ B3 B4 B5,u = cmsV B3 B4 B5 ∧ CmsAt h' B3 B4 B5 v (.slice q1 q2 q3) last ∧ h1.nx ≤ B3 ∧ B3 < h'.nx ∧ h1.nx ≤ B4 ∧ B4 < h'.nx ∧ h1.nx ≤ B5 ∧ B5 < h'.nx) rfl (hoff _ _ _ rfl) (by simp (disch:=first|omega|simp only [aA,aB]<;>omega|decide) only [rUz,↓reduceIte,reduceEqDiff,reduceAdd]; exact comers_y S h1 v (.slice q1 q2 q3) Wl (hw _ (kpS hk1)) last) ?_
 rintro u G hkG ⟨C3,C4,C5,rfl,hcms,c3,c3',c4,c4',c5,c5'⟩
 have hkg:=hk1.trans hkG
 have hn1G:=hkG.1
 replace hb6:=(hkG.get (by omega:B6 < h1.nx)).trans hb6
 replace hb8:=(hkG.get (by omega:B8 < h1.nx)).trans hb8
 replace hf8:=(hkG.fget (by omega:B8 < h1.nx)).trans hf8
 have hzG:=hz.bd (kpS hkg)
 have htG:=ht.kp hz.st.2.1 hkg
 have iG:I k (fun j=>Sx j ∨ (h.nx ≤ j ∧ j < G.nx)) G:=D.hI k _ _ _ _ i hkg.out fun j hj hq=>by
  rcases hq with hq|hq
  ·exact hq
  ·omega
 obtain ⟨S3,hS3⟩:∃ S3:Nat → Prop,S3 = fun j=>Sx j ∨ (h.nx ≤ j ∧ j < G.nx):=⟨_,rfl⟩
 rw [← hS3] at iG
 have s3l:∀ j,S3 j → H.nx ≤ j ∧ j < G.nx:=fun j hj=>by
  rw [hS3] at hj
  rcases hj with hj|hj
  ·have:=hS j hj; omega
  ·omega
 have s3x:∀ j,Sx j → S3 j:=fun j hj=>by rw [hS3]; exact .inl hj
 have s3n:∀ j,h.nx ≤ j → j < G.nx → S3 j:=fun j h1 h2=>by rw [hS3]; exact .inr ⟨h1,h2⟩
 have hzt:=hz.st
 have hz3:ZOk H W v O.length l z S3 G:=hzG.up s3x
 have hwG:∀ h',Bd (Sm S3 z.t) W H.nx G h' → IAt h' (.slice q1 q2 q3) (wI Wl):=fun h' b=>hw h' ((kpS hkg).trans (b.mono fun j _ hj=>⟨s3x j hj.1,hj.2⟩))
 have hcm:∀ h',Bd (Sm S3 z.t) W H.nx G h' → CmsAt h' C3 C4 C5 v (.slice q1 q2 q3) last:=fun h' b =>
  ⟨(b.get c3' (.inl ⟨s3n _ (by omega) c3',by omega⟩)).trans hcms.b3,(b.get c4' (.inl ⟨s3n _ (by omega) c4',by omega⟩)).trans hcms.b4,(b.get c5' (.inl ⟨s3n _ (by omega) c5',by omega⟩)).trans hcms.b5⟩
 have s8:S3 B8:=s3n _ (by omega) (by omega)
 have s8t:Sm S3 z.t B8:=⟨s8,by omega⟩
 have s6t:Sm S3 z.t B6:=⟨s3n _ (by omega) (by omega),by omega⟩
 have hB8G:B8 < G.nx:=by omega
 have hB6G:B6 < G.nx:=by omega
 have back:∀ h',Bd (Sm S3 z.t) W H.nx G h' → Bd (Sm Sx z.t) W H.nx h h':=fun h' b=>(kpS hkg).trans (b.mono fun j _ hj=>⟨s3x j hj.1,hj.2⟩)
 have hGh:=hkg.1
 have hB8h:h.nx ≤ B8:=by omega
 clear hb7 hk1 hn1 hz1 hw hw0 hcms hkG hn1G hB6 hB7 hB8 c3 c4 c5 hlen
 clear h1
 simp (disch:=first|omega|simp only [aA,aB]<;>omega|decide) only [rUz,↓reduceIte,reduceEqDiff,reduceAdd]
 repeat refine S.seq ?_
 refine S.block ?_
 refine S.rangeFn (W:=fun j=>¬ (Sm S3 z.t j ∨ (j < H.nx ∧ ¬ W j))) (xs:=fJ O Wl last) (At:=AtC) (d:=G.nx) (l:=G.nx + 1) (g:=93) (first:=#[]) (captured:=#[bG C4,bG C3,bG C5]) (fn:=Tryz.f93) (c:=(Tryz.f93.body).getD .skip) (fun i=>KqI H W O.length z S3 I pre G (k + cntZ O n Wl last i)) (E2 H W z S3 E G) (by simp (disch:=first|omega|simp only [aA,aB]<;>omega|decide) only [rUz,↓reduceIte,reduceEqDiff,reduceAdd]; rfl) (by kernel_rfl) rfl rfl rfl ?_ (fun i=>KqI.stable D.hI (by omega) _) (fun e=>E2.stable D.hE e) ?_ ?_ ?_ ?_ ?_
 ·intro h2 hk2 hn2
  have key:∀ h',Out (fun j=>(¬ (Sm S3 z.t j ∨ (j < H.nx ∧ ¬ W j))) ∨ j = G.nx + 1) h2 h' → Bd (Sm S3 z.t) W H.nx G h':=fun h' o=>by
   refine (kpS hk2).trans (o.bd fun j hj hn hq=>?_)
   rcases hq with hq|hq
   ·exact hq hn
   ·subst hq
    rcases hn with hn|hn
    ·have:=s3l _ hn.1; omega
    ·omega
  exact comersIt S hoff h2 _ C3 C4 C5 v (.slice q1 q2 q3) O hv Wl last hpo.lst hpo.lt hW6 (fun h' o=>hcm h' (key h' o)) (fun h' o=>hp h' ((key h' o).out hzG.ho)) (fun h' o=>hwG h' (key h' o))
 ·intro h2 hk2 hn2
  refine ⟨by omega,fun j hj=>by omega,kpS hk2,⟨Tz,htG.kp (by omega) hk2,hT,hpr⟩,?_⟩
  have e0:k + cntZ O n Wl last 0 = k:=by unfold cntZ; rw [List.take_zero]; rfl
  rw [e0]
  refine D.hI k _ _ _ _ iG hk2.out fun j hj hq=>?_
  rcases hq with hq|hq
  ·exact hq
  ·omega
 ·rintro x _ _ _ rfl
  kernel_rfl
 ·intro ix x U h1 az hxi hat hU i2 ho1 hn1 KA hKA
  obtain rfl:az = _:=hat
  obtain ⟨hpo',hxl,hxO,hxW⟩:=pre_step hv hpo hxi
  simp only [iD,aZ,T.setK_eq,id]
  repeat refine S.seq ?_
  refine S.region ?_
  simp (disch:=first|omega|simp only [aA,aB]<;>omega|decide) only [rUz,↓reduceIte,reduceEqDiff,reduceAdd]
  repeat refine S.seq ?_
  refine S.region ?_
  simp (disch:=first|omega|simp only [aA,aB]<;>omega|decide) only [rUz,↓reduceIte,reduceEqDiff,reduceAdd,cO zV]
  refine dF (B:=h1.nx) (c:=[iv 0,iv 0]) (fam:=h1.nx) (k:=h1.nx) (l:=c2 (iI x.2)) (by simp (disch:=first|omega|simp only [aA,aB]<;>omega|decide) only [rUz,↓reduceIte,reduceEqDiff,reduceAdd]) (by simp (disch:=first|omega|simp only [aA,aB]<;>omega|decide) only [rUz,↓reduceIte,reduceEqDiff,reduceAdd]) sV (by omega) rfl (aP rfl) (dL rfl) rfl ?_
  have hk2:Kp h1 ((h1.add [iv 0,iv 0]).upd h1.nx (c2 (iI x.2)) h1.nx):=Kp.refl.add.upd (Nat.le_refl _)
  have hg2:((h1.add [iv 0,iv 0]).upd h1.nx (c2 (iI x.2)) h1.nx).bl.get h1.nx = some (.cells (c2 (iI x.2)) h1.nx false):=aO _ _ _
  have hn2:h1.nx < ((h1.add [iv 0,iv 0]).upd h1.nx (c2 (iI x.2)) h1.nx).nx:=Nat.lt_succ_self _
  simp (disch:=first|omega|simp only [aA,aB]<;>omega|decide) only [rUz,↓reduceIte,reduceEqDiff,reduceAdd]
  obtain ⟨BA,hBA⟩:∃ x,x = h1.nx:=⟨_,rfl⟩
  rw [← hBA] at hk2 hg2 hn2 ⊢
  generalize (h1.add [iv 0,iv 0]).upd BA (c2 (iI x.2)) BA = h2 at hk2 hg2 hn2 ⊢
  refine hKA _ _ hk2 fun hb hbut K' kn kr _=>?_
  have hVu:∀ j,(U j ∨ j = G.nx ∨ j = G.nx + 1) → G.nx ≤ j ∧ j < h1.nx:=fun j hj=>by
   rcases hj with hj|hj|hj
   ·have:=hU j hj; omega
   ·omega
   ·omega
  have hltG:z.t < G.nx:=by have:=hz3.st; omega
  have n2b:=hbut.nx
  have le12:=hk2.1
  have bd2b:Bd (Sm S3 z.t) W H.nx h2 hb:=(hbut.out (S:=fun j=>j = G.nx + 1) rfl).bd fun j hj hn hq=>by
   rcases hn with hn|hn
   ·have:=s3l _ hn.1; omega
   ·have:=hz3.ho.le; omega
  have bdGb:Bd (Sm S3 z.t) W H.nx G hb:=(i2.bd.trans (kpS hk2)).trans bd2b
  have zb:=hz3.bd bdGb
  obtain ⟨Ty,ty1,ty2,ty3⟩:=i2.tb
  have tyb:TB z Ty hb:=⟨(hbut.get (by omega)).trans ((hk2.get (by omega)).trans ty1.bl),(hbut.fam _).trans ((hk2.fget (by omega)).trans ty1.fm)⟩
  have hgb:hb.bl.get BA = some (.cells (c2 (iI x.2)) BA false):=(hbut.get (by omega)).trans hg2
  have hb6b:=(bdGb.get hB6G (.inl s6t)).trans hb6
  have a0:(c2 (iI x.2))[0]? = some (iv x.2.1):=rfl
  have a1:(c2 (iI x.2))[1]? = some (iv (x.2.2:Int)):=rfl
  have hxm:x.2.2 < (Ty.map iv).length:=by rw [List.length_map,ty2]; exact hxO
  have es:(Ty.map iv).set x.2.2 (iv x.2.1) = (Ty.set x.2.2 x.2.1).map iv:=by rw [List.map_set]
  repeat refine S.seq ?_
  refine S.block ?_
  repeat refine S.seq ?_
  refine S.region ?_
  simp (disch:=first|omega|simp only [aA,aB]<;>omega|decide) only [rUz,↓reduceIte,reduceEqDiff,reduceAdd,zb.bs,qI,hgb,aC fV1 s3,aC fV0 s3,p3,a0,a1,getI hxO]
  refine mP s3' ?_
  simp (disch:=first|omega|simp only [aA,aB]<;>omega|decide) only [rUz,↓reduceIte,reduceEqDiff,reduceAdd,tyb.bl,tyb.fm]
  rw [es]
  have o1:Out (fun j=>j = z.t) hb (hb.upd z.t ((Ty.set x.2.2 x.2.1).map iv) z.t):=xQ rfl
  have tyc:TB z (Ty.set x.2.2 x.2.1) (hb.upd z.t ((Ty.set x.2.2 x.2.1).map iv) z.t):=⟨aO _ _ _,by rw [bM]; exact tyb.fm⟩
  have hnc:(hb.upd z.t ((Ty.set x.2.2 x.2.1).map iv) z.t).nx = hb.nx:=rfl
  generalize hb.upd z.t ((Ty.set x.2.2 x.2.1).map iv) z.t = hc at o1 tyc hnc ⊢
  have bdbc:Bd (Sm S3 z.t) W H.nx hb hc:=o1.bd fun j hj hn hq=>by
   rcases hn with hn|hn
   ·exact hn.2 hq
   ·have:=hz3.st; omega
  have zc:=zb.bd bdbc
  have hgc:hc.bl.get BA = some (.cells (c2 (iI x.2)) BA false):=(o1.get (by omega) (by omega)).trans hgb
  have hb6c:=(bdbc.get (by have:=bdGb.le; omega) (.inl s6t)).trans hb6b
  have hwc:=hwG hc (bdGb.trans bdbc)
  have hsl:=IAt.veq hwc
  repeat refine S.seq ?_
  refine S.drawnL [(false,0),(false,0),(false,0),(true,4),(true,14),(false,0),(true,63),(false,127)] (by kernel_rfl) (by kernel_rfl) (by kernel_rfl) ?_
  simp (disch:=first|omega|simp only [aA,aB]<;>omega|decide) only [rUz,↓reduceIte,reduceEqDiff,reduceAdd,rDz,infoL,reduceSub,zc.bc,pTc,hb6c,qI]
  refine dH rfl ?_
  simp (disch:=first|omega|simp only [aA,aB]<;>omega|decide) only [rUz,↓reduceIte,reduceEqDiff,reduceAdd,rDz,infoL,reduceSub,hgc,bT pV (kX _)]
  refine jS (qZ slI s3' z3 rfl (by omega) (u:=iv (x.1:Int)) (l:=[iv (x.1:Int)]) (by simp (disch:=first|omega|simp only [aA,aB]<;>omega|decide) only [rUz,↓reduceIte,reduceEqDiff,reduceAdd,rDz,infoL,reduceSub]) rfl rfl) (Nat.le_of_ble_eq_true rfl) ?_ ?_
  ·have g1:(hc.add [iv (x.1:Int)]).bl.get BA = some (.cells (c2 (iI x.2)) BA false):=by rw [aW (by omega)]; exact hgc
   have g2:(hc.add [iv (x.1:Int)]).bl.get B6 = some (.cells [.slice q1 q2 q3] B6 false):=by rw [aW (by have:=bdGb.le; omega)]; exact hb6c
   have g3:(hc.add [iv (x.1:Int)]).bl.get z.c = some (.cells [oN z] z.c false):=by rw [aW (by have:=zc.sc.2; omega)]; exact zc.bc
   try simp (disch:=first|decide|rfl) only [aK,aG,aH]
   rw [bF (v:=.agg ⟨c2 (iI x.2)⟩) (by simp (disch:=first|omega|simp only [aA,aB]<;>omega|decide) only [rUz,↓reduceIte,reduceEqDiff,reduceAdd,rDz,infoL,reduceSub,g1,bT pV (kX _)]) (veq_c2 _)]
   try simp (disch:=first|decide|rfl) only [aK,aG,aH]
   rw [bF (v:=.slice q1 q2 q3) (by simp (disch:=first|omega|simp only [aA,aB]<;>omega|decide) only [rUz,↓reduceIte,reduceEqDiff,reduceAdd,rDz,infoL,reduceSub,g2,qI]) hsl]
   try simp (disch:=first|decide|rfl) only [aK,aG,aH]
   rw [bF (v:=oN z) (by simp (disch:=first|omega|simp only [aA,aB]<;>omega|decide) only [rUz,↓reduceIte,reduceEqDiff,reduceAdd,rDz,infoL,reduceSub,g3,pTc]) (veq_come z)]
   try simp (disch:=first|decide|rfl) only [aK,aG,aH]
  simp (disch:=first|omega|simp only [aA,aB]<;>omega|decide) only [rUz,↓reduceIte,reduceEqDiff,reduceAdd,rDz,infoL,reduceSub]
  have hkd:Kp hc (hc.add [iv (x.1:Int)]):=Kp.refl.add
  have hlv:IAt (hc.add [iv (x.1:Int)]) (.slice (some ⟨hc.nx,0,none⟩) 1 1) [(x.1:Int)]:=.inr ⟨hc.nx,1,hc.nx,false,rfl,Nat.lt_succ_self _,aP rfl⟩
  have hnd:(hc.add [iv (x.1:Int)]).nx = hc.nx + 1:=rfl
  generalize hc.add [iv (x.1:Int)] = hd0 at hkd hlv hnd ⊢
  have hgd:=(hkd.get (by omega:BA < hc.nx)).trans hgc
  have zd:=zc.bd (kpS hkd)
  refine dC (fid:=74) (first:=#[]) (captured:=#[]) (Post:=fun u g=>∃ F,App hd0.nx g 1 u (i1 (kP (kZ 0 [(x.1:Int)]) (wI Wl) 0)) F) rfl (hoff _ _ _ rfl) (by simp (disch:=first|omega|simp only [aA,aB]<;>omega|decide) only [rUz,↓reduceIte,reduceEqDiff,reduceAdd]; exact othersI_y S hoff hd0 (.slice q1 q2 q3) _ (wI Wl) [(x.1:Int)] 0 (hwc.mono hkd) (by rw [wI_len]; omega) (by omega) hlv (by simp)) (Nat.le_of_ble_eq_true rfl) ?_
  rintro u g hkg2 ⟨F,app⟩
  rw [oth_wI] at app
  have hgg:=(hkg2.get (by omega:BA < hd0.nx)).trans hgd
  have zg:=zd.bd (kpS hkg2)
  refine ⟨?_,?_⟩
  ·try simp (disch:=first|decide|rfl) only [aK,aG,aH]
   rw [bF (v:=.agg ⟨c2 (iI x.2)⟩) (by simp (disch:=first|omega|simp only [aA,aB]<;>omega|decide) only [rUz,↓reduceIte,reduceEqDiff,reduceAdd,rDz,infoL,reduceSub,hgg,bT pV (kX _)]) (veq_c2 _)]
   try simp (disch:=first|decide|rfl) only [aK,aG,aH]
   rw [bF (v:=oN z) (by simp (disch:=first|omega|simp only [aA,aB]<;>omega|decide) only [rUz,↓reduceIte,reduceEqDiff,reduceAdd,rDz,infoL,reduceSub,zg.bc,pTc]) (veq_come z)]
   try simp (disch:=first|decide|rfl) only [aK,aG,aH]
  simp (disch:=first|omega|simp only [aA,aB]<;>omega|decide) only [rUz,↓reduceIte,reduceEqDiff,reduceAdd,rDz,infoL,reduceSub]
  have leg:=hkg2.1
  have kcg:Kp hc g:=hkd.trans hkg2
  obtain ⟨Sr,hSr⟩:∃ Sr:Nat → Prop,Sr = fun j=>S3 j ∨ (U j ∨ j = G.nx ∨ j = G.nx + 1) ∨ (h1.nx ≤ j ∧ j < g.nx):=⟨_,rfl⟩
  have srl:∀ j,Sr j → H.nx ≤ j ∧ j < g.nx:=fun j hj=>by
   rw [hSr] at hj
   have:=hz3.ho.le
   rcases hj with hj|hj|hj
   ·have:=s3l j hj; omega
   ·have:=hVu j hj; omega
   ·omega
  have sr3:∀ j,S3 j → Sr j:=fun j hj=>by rw [hSr]; exact .inl hj
  have srV:∀ j,(U j ∨ j = G.nx ∨ j = G.nx + 1) → Sr j:=fun j hj=>by rw [hSr]; exact .inr (.inl hj)
  have srN:∀ j,h1.nx ≤ j → j < g.nx → Sr j:=fun j p1 p2=>by rw [hSr]; exact .inr (.inr ⟨p1,p2⟩)
  have hzr:ZOk H W v O.length l z Sr g:=zg.up sr3
  have tyg:TB z (Ty.set x.2.2 x.2.1) g:=tyc.kp (by omega) kcg
  have out1:Out (fun j=>S3 j ∨ (U j ∨ j = G.nx ∨ j = G.nx + 1)) h1 g:=((hk2.out.trans (hbut.out (.inr (.inr (.inr rfl))))).trans (o1.weak fun j _ hj=>by rw [hj]; exact .inl hz3.st.1)).trans kcg.out
  have ir:I (k + cntZ O n Wl last ix) Sr g:=D.hI _ _ _ _ _ i2.i out1 fun j hj hq=>by
   rw [hSr] at hq
   rcases hq with hq|hq|hq
   ·exact .inl hq
   ·exact .inr hq
   ·omega
  obtain ⟨rest',hrest⟩:=rest_at hx hxi
  have hag:=set_agree ty3 (fun b hb e=>hpo.out b hb (by rw [e]; exact hxW)) (by rw [ty2]; exact hxO:x.2.2 < Ty.length)
  have hih:=ih (Wl.eraseIdx x.1) (iI x.2) (pre ++ [x.2]) (k + cntZ O n Wl last ix) rest' u g Sr (Ty.set x.2.2 x.2.1) (by rw [List.length_eraseIdx,if_pos hxl]; omega) (by omega) hpo' (by rw [List.length_set]; exact ty2) hag srl hzr tyg
   (fun h' b=>app_keep app b.le fun b1 p1 p2=>b.get p2 (.inl ⟨srN b1 (by omega) p2,by omega⟩)) ir hrest
  refine drW_bringsX (fid:=71) (first:=#[]) (captured:=⟨z.caps⟩) (Post:=CmPost H W O.length z Sr I E (pre ++ [x.2]) g (k + cntZ O n Wl last ix + (fK O n (Wl.eraseIdx x.1) (iI x.2)).length)) (by simp (disch:=first|omega|simp only [aA,aB]<;>omega|decide) only [rUz,↓reduceIte,reduceEqDiff,reduceAdd,rDz,infoL,reduceSub]; rfl) (hoff _ _ _ rfl) (by simp (disch:=first|omega|simp only [aA,aB]<;>omega|decide) only [rUz,↓reduceIte,reduceEqDiff,reduceAdd,rDz,infoL,reduceSub]; exact hih) (Nat.le_of_ble_eq_true rfl) ?_
  rintro u2 h9 ⟨b9,hcase⟩
  have bdb9:Bd (Sm S3 z.t) W H.nx hb h9:=(bdbc.trans (kpS kcg)).trans (b9.mono fun j _ hj=>⟨sr3 j hj.1,hj.2⟩)
  have bdV:Bd (fun j=>U j ∨ j = G.nx ∨ j = G.nx + 1) (fun j=>¬ (Sm S3 z.t j ∨ (j < H.nx ∧ ¬ W j))) G.nx hb h9:=by
   refine ⟨bdb9.le,fun j hj hn=>?_⟩
   rcases hn with hn|⟨hn1,hn2⟩
   ·have hv1:=hVu j hn
    have e1:=o1.kp j hj (by omega)
    have e2:=kcg.2 j (by omega)
    have e3:=b9.kp j (by omega) (.inl ⟨srV j hn,by omega⟩)
    exact ⟨e3.1.trans (e2.1.trans e1.1),e3.2.trans (e2.2.trans e1.2)⟩
   ·exact bdb9.kp j hj (Classical.not_not.1 hn2)
  rcases hcase with ⟨rfl,⟨T9,t91,t92,t93⟩,i9⟩|⟨rfl,e9⟩
  ·refine ⟨?_,?_⟩
   ·try simp (disch:=first|decide|rfl) only [aK,aG,aH]
   simp (disch:=first|omega|simp only [aA,aB]<;>omega|decide) only [rUz,↓reduceIte,reduceEqDiff,reduceAdd,rDz,infoL,reduceSub,dX]
   repeat refine S.seq ?_
   refine S.cond (v:=false) (by first|rfl|(simp (disch:=first|omega|simp only [aA,aB]<;>omega|decide) only [rUz,↓reduceIte,reduceEqDiff,reduceAdd,Bool.not_true]<;>rfl)) (fun e=>by cases e) (fun _=>?_)
   repeat refine S.seq ?_
   refine S.skip ?_
   simp (disch:=first|omega|simp only [aA,aB]<;>omega|decide) only [rUz,↓reduceIte,reduceEqDiff,reduceAdd]
   refine kn _ _ bdV ⟨by have:=bdGb.le; have:=bdb9.le; omega,fun j hj=>(hVu j hj).1,bdGb.trans bdb9,⟨T9,t91,t92,fun a ha=>t93 a (by simp [ha])⟩,?_⟩
   rw [cnt_succ hxi,← Nat.add_assoc]
   refine (D.hI _).sub i9 fun j _ hj=>?_
   rcases hj with hj|hj
   ·exact sr3 j hj
   ·exact srV j hj
  ·refine ⟨?_,?_⟩
   ·try simp (disch:=first|decide|rfl) only [aK,aG,aH]
   simp (disch:=first|omega|simp only [aA,aB]<;>omega|decide) only [rUz,↓reduceIte,reduceEqDiff,reduceAdd,rDz,infoL,reduceSub,dX]
   repeat refine S.seq ?_
   refine S.cond (v:=true) (by first|rfl|(simp (disch:=first|omega|simp only [aA,aB]<;>omega|decide) only [rUz,↓reduceIte,reduceEqDiff,reduceAdd,Bool.not_false]<;>rfl)) (fun _=>?_) (fun e=>by cases e)
   have l9:=b9.le
   have hb89:=((bdGb.trans bdb9).get hB8G (.inl s8t)).trans hb8
   have hf89:=((bdGb.trans bdb9).fget hB8G (.inl s8t)).trans hf8
   repeat refine S.seq ?_
   refine S.region ?_
   simp (disch:=first|omega|simp only [aA,aB]<;>omega|decide) only [rUz,↓reduceIte,reduceEqDiff,reduceAdd]
   refine mP sTb ?_
   simp (disch:=first|omega|simp only [aA,aB]<;>omega|decide) only [rUz,↓reduceIte,reduceEqDiff,reduceAdd,hb89,hf89]
   refine S.ret ?_
   simp only [aJ,aF]
   have hbl8:∀ j,(h9.upd B8 ([Value.bool false].set 0 (.bool false)) B8).bl.get j = h9.bl.get j:=fun j=>by
    by_cases hj:j = B8
    ·subst hj; rw [aO,hb89]; rfl
    ·rw [upd_ne _ _ _ hj]
   have bdV':Bd (fun j=>U j ∨ j = G.nx ∨ j = G.nx + 1) (fun j=>¬ (Sm S3 z.t j ∨ (j < H.nx ∧ ¬ W j))) G.nx hb (h9.upd B8 ([Value.bool false].set 0 (.bool false)) B8):=⟨bdV.le,fun j hj hn=>by rw [hbl8,bM]; exact bdV.kp j hj hn⟩
   have bdG9:=bdGb.trans bdb9
   refine kr _ _ bdV' ⟨by have:=bdGb.le; have:=bdb9.le; show G.nx ≤ h9.nx; omega,fun j hj=>(hVu j hj).1,⟨bdG9.le,fun j hj hn=>by rw [hbl8,bM]; exact bdG9.kp j hj hn⟩,rfl,?_⟩
   refine D.hE _ _ _ _ e9 (xQ (sr3 _ s8)) fun j _ hj=>?_
   rcases hj with hj|hj
   ·exact sr3 j hj
   ·exact srV j hj
 ·intro U h1 i1 ho hd1 hd
  have hb81:=(i1.bd.get hB8G (.inl s8t)).trans hb8
  have hf81:=(i1.bd.fget hB8G (.inl s8t)).trans hf8
  have hne:B8 ≠ G.nx:=by omega
  simp only [jR,fM]
  repeat refine S.seq ?_
  refine S.region ?_
  simp (disch:=first|omega|simp only [aA,aB]<;>omega|decide) only [rUz,↓reduceIte,reduceEqDiff,reduceAdd]
  refine mP sTb ?_
  simp (disch:=first|omega|simp only [aA,aB]<;>omega|decide) only [rUz,↓reduceIte,reduceEqDiff,reduceAdd,hb81,hf81]
  have hd':(h1.upd B8 ([Value.bool false].set 0 (.bool true)) B8).bl.get G.nx = some (.deferred true):=by rw [upd_ne _ _ _ (fun e=>hne e.symm)]; exact hd
  have hld:((h1.upd B8 ([Value.bool false].set 0 (.bool true)) B8).setm G.nx (.deferred false)).bl.get B8 = some (.cells [.bool true] B8 false):=by rw [gK hne]; exact aO _ _ _
  refine S.ret ?_
  try simp only [aJ,aF]
  subst hF
  simp only [finish]
  rw [rE (hd')]
  rw [show Tryz.f71.results.toList = [.cell 8 4] from rfl]
  simp (disch:=first|omega|simp only [aA,aB]<;>omega|decide) only [bK,aY,aS,aT,aQ,aU,aO,upd_ne,aP,aW,result1,hld,pb]
  have oF:Out (fun j=>j = B8 ∨ j = G.nx) h1 ((h1.upd B8 ([Value.bool false].set 0 (.bool true)) B8).setm G.nx (.deferred false)):=(xQ (.inl rfl)).trans (xR (.inr rfl))
  obtain ⟨T9,t1,t2,t3⟩:=i1.tb
  have lG:=i1.le
  refine hK _ _ ⟨(back h1 i1.bd).trans (oF.bd fun j hj hn hq=>?_),.inl ⟨rfl,⟨T9,⟨(oF.get (by omega) (by omega)).trans t1.bl,(oF.fget (by omega) (by omega)).trans t1.fm⟩,t2,t3⟩,?_⟩⟩
  ·rcases hn with hn|hn
   ·have:=hS j hn.1; omega
   ·omega
  ·rw [← cnt_all]
   refine D.hI _ _ _ _ _ i1.i (oF.weak fun j _ hj=>?_) fun j _ hj=>.inl (s3x j hj)
   rcases hj with hj|hj
   ·rw [hj]; exact .inl s8
   ·exact .inr (.inr (.inl hj))
 ·intro e U h1 e1 he ho hd1 hd
  obtain rfl:=e1.e
  have hb81:=(e1.bd.get hB8G (.inl s8t)).trans hb8
  have hne:B8 ≠ G.nx:=by omega
  have hld:(h1.setm G.nx (.deferred false)).bl.get B8 = some (.cells [.bool false] B8 false):=by rw [gK hne]; exact hb81
  simp only [aF,aJ]
  try simp only [aJ,aF]
  subst hF
  simp only [finish]
  rw [rE (hd)]
  rw [show Tryz.f71.results.toList = [.cell 8 4] from rfl]
  simp (disch:=first|omega|simp only [aA,aB]<;>omega|decide) only [bK,aY,aS,aT,aQ,aU,aO,upd_ne,aP,aW,result1,hld,pb]
  have oF:Out (fun j=>j = G.nx) h1 (h1.setm G.nx (.deferred false)):=xR rfl
  have lG:=e1.le
  refine hK _ _ ⟨(back h1 e1.bd).trans (oF.bd fun j hj hn hq=>?_),.inr ⟨rfl,?_⟩⟩
  ·rcases hn with hn|hn
   ·have:=hS j hn.1; omega
   ·omega
  ·exact D.hE _ _ _ _ e1.i (oF.weak fun j _ hj=>.inr (.inr (.inl hj))) fun j _ hj=>.inl (s3x j hj)
/-- The recursion. -/
theorem ways_y (S:Ev.Steps Tryz.prog pr R) (hoff:Off pr) (H:AHeap) (W:Nat → Prop) (v:Value) (O:List Od) (hv:Val O) (l:Nat) (z:ZB) (xs:List (List Int)) (I:Nat → (Nat → Prop) → AHeap → Prop) (E:(Nat → Prop) → AHeap → Prop) (D:Doer Tryz.prog R H W l xs I E)
  (hp:∀ h',Out W H h' → PoAt h' v O):∀ (n:Nat) (Wl:List Nat) (last:I2) (pre:List AR) (k:Nat) (rest:List (List Int)) (wv:Value) (h:AHeap) (Sx:Nat → Prop) (Tz:List Int),Wl.length = n → n ≤ O.length → PreOk O pre Wl last → Tz.length = O.length → (∀ a,a ∈ pre → Tz[a.2]? = some a.1) → (∀ j,Sx j → H.nx ≤ j ∧ j < h.nx) → ZOk H W v O.length l z Sx h → TB z Tz h →
   (∀ h',Bd (Sm Sx z.t) W H.nx h h' → IAt h' wv (wI Wl)) → I k Sx h → xs.drop k = (fK O n Wl last).map (fun p=>dZ O.length (pre ++ p)) ++ rest →
   gJ Tryz.prog R 71 [wv,.agg ⟨c2 last⟩,bG z.y,bG z.s,bG z.p,bG z.c] h (CmPost H W O.length z Sx I E pre h (k + (fK O n Wl last).length))
 | 0,Wl,last,pre,k,rest,wv,h,Sx,Tz,hWl,_,hpo,hT,hpr,hS,hz,ht,hw,i,hx=>by
  have hW0:Wl = []:=List.length_eq_zero_iff.1 hWl
  subst hW0
  have e:Tz = dZ O.length pre:=truthOf_eq hpo.pn hT (fun j hj=>by
   rcases hpo.cov j hj with h|h
   ·cases h
   ·exact h) hpr
  have hxk:xs[k]? = some Tz:=by
   have:xs.drop k = dZ O.length pre :: rest:=by rw [hx]; show dZ O.length (pre ++ []) :: rest = _; rw [List.append_nil]
   have:=(drop_cons this.symm).1
   rw [this,← e]
  exact come_leaf S hoff H W v O l z xs I E D ⟨hv.l6,hv.l1⟩ last pre k wv h Sx Tz hT hS hz ht (hw h Bd.refl) hpr i hxk
 | n + 1,Wl,last,pre,k,rest,wv,h,Sx,Tz,hWl,hn,hpo,hT,hpr,hS,hz,ht,hw,i,hx =>
  come_step S hoff H W v O hv l z xs I E D hp n (fun Wl last pre k rest wv h Sx Tz a1 a2 a3 a4 a5 a6 a7 a8 a9 a10 a11=>ways_y S hoff H W v O hv l z xs I E D hp n Wl last pre k rest wv h Sx Tz a1 a2 a3 a4 a5 a6 a7 a8 a9 a10 a11) Wl last pre k rest wv h Sx Tz hWl hn hpo hT hpr hS hz ht hw i hx
end Go.Proofs.Po

/- All truths that are gone through, in turn. -/
namespace Go.Proofs.Po
open Nat (reduceEqDiff reduceAdd reduceSub)
open Go Go.Ev Go.RowKit
set_option linter.unusedSimpArgs false
variable {pr:Prim} {R:ExT}
def trsV (B1:Nat):Value:=.func (.func 70) #[] #[bG B1]
theorem truths_y (S:Ev.Steps Tryz.prog pr R) (h0:AHeap) (v:Value) :
  bD Tryz.prog R 53 [.agg ⟨poV v⟩] h0 fun u h=>∃ B1,u = trsV B1 ∧ h.bl.get B1 = some (.cells (poV v) B1 false) ∧ h0.nx ≤ B1 ∧ B1 < h.nx:=by
 refine aV (fn:=Tryz.f53) (c:=(Tryz.f53.body).getD .skip) (by kernel_rfl) rfl (by kernel_rfl) rfl (fun K hK=>?_)
 generalize hF:finish Tryz.prog Tryz.f53 K = KF
 simp only [Tryz.f53,Option.getD_some,bJ,aX,aZ,T.setK_eq,id]
 repeat refine S.seq ?_
 refine S.region ?_
 simp (disch:=first|omega|simp only [aA,aB]<;>omega|decide) only [rUz,↓reduceIte,reduceEqDiff,reduceAdd]
 repeat refine S.seq ?_
 refine S.region ?_
 simp (disch:=first|omega|simp only [aA,aB]<;>omega|decide) only [rUz,↓reduceIte,reduceEqDiff,reduceAdd]
 refine S.ret ?_
 try simp only [aJ,aF]
 subst hF
 simp only [finish,aI]
 rw [show Tryz.f53.results.toList = [.tmp 2] from rfl]
 simp (disch:=first|omega|simp only [aA,aB]<;>omega|decide) only [bK,aY,aS,aT,aQ,aU,aO,upd_ne,aP,aW,result1]
 exact hK _ _ Kp.refl.add ⟨h0.nx,rfl,aP rfl,Nat.le_refl _,Nat.lt_succ_self _⟩
def tY (n k:Nat):List Int:=(List.range k).map (fun (j:Nat)=>(j:Int)) ++ List.replicate (n - k) (0:Int)
theorem fillN_len (n k:Nat) (hk:k ≤ n):(tY n k).length = n:=by unfold tY; rw [List.length_append,List.length_map,List.length_range,List.length_replicate]; omega
theorem fillN_set (n k:Nat) (hk:k < n):(tY n k).set k (k:Int) = tY n (k + 1):=by
 apply List.ext_getElem?
 intro j
 unfold tY
 rw [List.getElem?_set,List.length_append,List.length_map,List.length_range,List.length_replicate]
 by_cases e:k = j
 ·subst e
  rw [if_pos rfl,if_pos (by omega),List.getElem?_append_left (by rw [List.length_map,List.length_range]; omega),List.getElem?_map,List.getElem?_range (by omega)]
  rfl
 ·rw [if_neg e]
  by_cases h1:j < k
  ·rw [List.getElem?_append_left (by rw [List.length_map,List.length_range]; omega),List.getElem?_append_left (by rw [List.length_map,List.length_range]; omega),List.getElem?_map,List.getElem?_map,List.getElem?_range h1,List.getElem?_range (by omega)]
  ·rw [List.getElem?_append_right (by rw [List.length_map,List.length_range]; omega),List.getElem?_append_right (by rw [List.length_map,List.length_range]; omega),List.length_map,List.length_range,List.length_map,List.length_range,List.getElem?_replicate,List.getElem?_replicate]
   by_cases h2:j < n
   ·rw [if_pos (by omega),if_pos (by omega)]
   ·rw [if_neg (by omega),if_neg (by omega)]
theorem fillN_all (n:Nat):tY n n = wI (List.range n):=by unfold tY wI; rw [Nat.sub_self,List.replicate_zero,List.append_nil]
theorem zTi:zeroOf Tryz.prog 35 = some nl:=by kernel_rfl
theorem zTc:zeroOf Tryz.prog 124 = some .nilFunc:=by kernel_rfl
theorem sTc:bH Tryz.prog 124 = some 1:=by kernel_rfl
theorem cs0:(Value.slice none 0 0).cells.toList = [nl]:=rfl
theorem cf0:(Value.nilFunc).cells.toList = [Value.nilFunc]:=rfl
theorem bV1 (a:Int):fG Tryz.prog 126 [(1,iv a)] = some (.agg ⟨c2 (0,a)⟩):=by kernel_rfl
structure IFi (H0:AHeap) (Bw n B1 B2 B3:Nat) (k:Nat) (t:T Value) (h:AHeap):Prop where
 kp:Fr H0 Bw h
 own:Own h Bw (tY n k)
 t1:tget t 1 = bG B1
 t2:tget t 2 = bG B2
 t3:tget t 3 = bG B3
 t4:tget t 4 = .slice (some ⟨Bw,0,none⟩) n n
 t16:tget t 16 = iv (n:Int)
 t17:tget t 17 = iv (k:Int)
 hk:k ≤ n
theorem truthsIt (S:Ev.Steps Tryz.prog pr R) (hoff:Off pr) (H:AHeap) (W:Nat → Prop) (B1:Nat) (v:Value) (O:List Od) (hv:Val O) (hb1:B1 < H.nx ∧ ¬ W B1) (hg1:H.bl.get B1 = some (.cells (poV v) B1 false)) (hp:∀ h',Out W H h' → PoAt h' v O) :
  Iters Tryz.prog R 70 (fun y=>[y,bG B1]) H W (dW O) (AtT H):=by
 intro l I E K hI hE i0 body done stop
 have h6:=hv.l6
 have h1:=hv.l1
 have hp0:=hp H Out.refl
 have lO:=fun t h1 o=>dQ hp0 iscO t h1 o
 refine call_run (fn:=Tryz.f70) (c:=(Tryz.f70.body).getD .skip) (by kernel_rfl) rfl (by kernel_rfl) rfl ?_
 generalize hF:finish Tryz.prog Tryz.f70 K = KF
 simp only [Tryz.f70,Option.getD_some,bJ,aX,aZ,T.setK_eq,id]
 repeat refine S.seq ?_
 refine S.region ?_
 simp (disch:=first|omega|simp only [aA,aB]<;>omega|decide) only [rUz,↓reduceIte,reduceEqDiff,reduceAdd]
 obtain ⟨By,hBy⟩:∃ x,x = H.nx:=⟨_,rfl⟩
 have g1:(H.add [.func (.yield l) #[] #[]]).bl.get B1 = some (.cells (poV v) B1 false):=by rw [aW (by omega)]; exact hg1
 have by0:(H.add [.func (.yield l) #[] #[]]).bl.get By = some (.cells [.func (.yield l) #[] #[]] By false):=by subst hBy; exact aP rfl
 have k0:Kp H (H.add [.func (.yield l) #[] #[]]):=Kp.refl.add
 have n0:(H.add [.func (.yield l) #[] #[]]).nx = H.nx + 1:=rfl
 rw [← hBy]
 generalize H.add [.func (.yield l) #[] #[]] = Ha at g1 by0 k0 n0 ⊢
 repeat refine S.seq ?_
 refine S.region ?_
 simp (disch:=first|omega|simp only [aA,aB]<;>omega|decide) only [rUz,↓reduceIte,reduceEqDiff,reduceAdd,g1,aC fB0 lcO,qcO,po0,lO,mQ]
 refine wr_makeInts (k:=O.length) slI info3 z3 info3b info3s (by simp (disch:=first|omega|simp only [aA,aB]<;>omega|decide) only [rUz,↓reduceIte,reduceEqDiff,reduceAdd]) (by simp (disch:=first|omega|simp only [aA,aB]<;>omega|decide) only [rUz,↓reduceIte,reduceEqDiff,reduceAdd]) (by omega) (fun hown=>?_)
 obtain ⟨Bt,hBt⟩:∃ x,x = Ha.nx:=⟨_,rfl⟩
 have k1:Kp Ha (Ha.add ((List.replicate O.length 0).map iv)):=Kp.refl.add
 have n1:(Ha.add ((List.replicate O.length 0).map iv)).nx = Ha.nx + 1:=rfl
 rw [← hBt] at hown ⊢
 generalize Ha.add ((List.replicate O.length 0).map iv) = Hb at hown k1 n1 ⊢
 simp (disch:=first|omega|simp only [aA,aB]<;>omega|decide) only [rUz,↓reduceIte,reduceEqDiff,reduceAdd,cO zTi,cs0]
 obtain ⟨Bs,hBs⟩:∃ x,x = Hb.nx:=⟨_,rfl⟩
 refine gI (B:=Hb.nx) (off:=0) (v:=.slice (some ⟨Bt,0,none⟩) O.length O.length) (c:=[nl]) (fam:=Hb.nx) (k0:=Hb.nx) (by simp (disch:=first|omega|simp only [aA,aB]<;>omega|decide) only [rUz,↓reduceIte,reduceEqDiff,reduceAdd]) (by simp (disch:=first|omega|simp only [aA,aB]<;>omega|decide) only [rUz,↓reduceIte,reduceEqDiff,reduceAdd]) lI' rfl rfl (aP rfl) (dL rfl) (by simp) ?_
 rw [show ([nl]:List Value).set 0 (.slice (some ⟨Bt,0,none⟩) O.length O.length) = [.slice (some ⟨Bt,0,none⟩) O.length O.length] from rfl]
 have k2:Kp Hb ((Hb.add [nl]).upd Hb.nx [.slice (some ⟨Bt,0,none⟩) O.length O.length] Hb.nx):=Kp.refl.add.upd (Nat.le_refl _)
 have bs0:((Hb.add [nl]).upd Hb.nx [.slice (some ⟨Bt,0,none⟩) O.length O.length] Hb.nx).bl.get Hb.nx = some (.cells [.slice (some ⟨Bt,0,none⟩) O.length O.length] Hb.nx false):=aO _ _ _
 have n2:((Hb.add [nl]).upd Hb.nx [.slice (some ⟨Bt,0,none⟩) O.length O.length] Hb.nx).nx = Hb.nx + 1:=rfl
 simp (disch:=first|omega|simp only [aA,aB]<;>omega|decide) only [rUz,↓reduceIte,reduceEqDiff,reduceAdd]
 rw [← hBs] at k2 bs0 n2 ⊢
 generalize (Hb.add [nl]).upd Bs [.slice (some ⟨Bt,0,none⟩) O.length O.length] Bs = Hc at k2 bs0 n2 ⊢
 have kc:=(k0.trans k1).trans k2
 have g1c:=((k1.trans k2).get (by omega:B1 < Ha.nx)).trans g1
 have byc:=((k1.trans k2).get (by omega:By < Ha.nx)).trans by0
 have ownt:=hown.mono k2
 clear hown k0 k1 k2 g1 by0
 repeat refine S.seq ?_
 refine S.region ?_
 simp (disch:=first|omega|simp only [aA,aB]<;>omega|decide) only [rUz,↓reduceIte,reduceEqDiff,reduceAdd,g1c,aC fB0 lcO,qcO,po0,lO,mQ]
 refine wr_makeInts (k:=O.length) slI info3 z3 info3b info3s (by simp (disch:=first|omega|simp only [aA,aB]<;>omega|decide) only [rUz,↓reduceIte,reduceEqDiff,reduceAdd]) (by simp (disch:=first|omega|simp only [aA,aB]<;>omega|decide) only [rUz,↓reduceIte,reduceEqDiff,reduceAdd]) (by omega) (fun hown=>?_)
 obtain ⟨Bw,hBw⟩:∃ x,x = Hc.nx:=⟨_,rfl⟩
 have k1:Kp Hc (Hc.add ((List.replicate O.length 0).map iv)):=Kp.refl.add
 have n3:(Hc.add ((List.replicate O.length 0).map iv)).nx = Hc.nx + 1:=rfl
 rw [← hBw] at hown ⊢
 generalize Hc.add ((List.replicate O.length 0).map iv) = Hd at hown k1 n3 ⊢
 have kd:=kc.trans k1
 have g1d:=(k1.get (by omega:B1 < Hc.nx)).trans g1c
 have byd:=(k1.get (by omega:By < Hc.nx)).trans byc
 have bsd:=(k1.get (by omega:Bs < Hc.nx)).trans bs0
 have owntd:=ownt.mono k1
 clear ownt k1 g1c byc bs0 kc
 simp (disch:=first|omega|simp only [aA,aB]<;>omega|decide) only [rUz,↓reduceIte,reduceEqDiff,reduceAdd]
 have lsw:∀ (t:T Value) (h1:AHeap) (o:Oper),qJ Tryz.prog t h1 o 35 (.slice (some ⟨Bw,0,none⟩) O.length O.length) = some (iv (O.length:Int)):=fun _ _ _=>lT isI
 repeat refine S.seq ?_
 refine S.region ?_
 simp (disch:=first|omega|simp only [aA,aB]<;>omega|decide) only [rUz,↓reduceIte,reduceEqDiff,reduceAdd,lsw]
 have e0:List.replicate O.length (0:Int) = tY O.length 0:=by unfold tY; rfl
 rw [e0] at hown
 repeat refine S.seq ?_
 refine S.block ?_
 refine S.loop (ι:=Nat) (IFi Hd Bw O.length B1 By Bs) (fun k=>O.length - k) ?_ 0 _ _ ?_
 rotate_left
 ·refine ⟨Fr.refl,hown,?_,?_,?_,?_,?_,?_,Nat.zero_le _⟩
  all_goals (first|rfl|(simp (disch:=first|omega|simp only [aA,aB]<;>omega|decide) only [rUz,↓reduceIte,reduceEqDiff,reduceAdd]<;>rfl))
 clear hown
 intro k t h ⟨fr,own,t1,t2,t3,t4,t16,t17,hk⟩ K' hn he
 repeat refine S.seq ?_
 refine S.region ?_
 simp (disch:=first|omega|simp only [aA,aB]<;>omega|decide) only [rUz,↓reduceIte,reduceEqDiff,reduceAdd,t16,t17]
 repeat refine S.seq ?_
 refine S.cond (v:=decide ((k:Int) < (O.length:Int))) (by first|rfl|(simp (disch:=first|omega|simp only [aA,aB]<;>omega|decide) only [rUz,↓reduceIte,reduceEqDiff,reduceAdd]<;>rfl)) (fun e=>?_) (fun e=>?_)
 ·have hkn:k < O.length:=by have:=of_decide_eq_true e; omega
  clear e
  have hfl:=fillN_len O.length k hk
  have hxm:k < ((tY O.length k).map iv).length:=by rw [List.length_map]; omega
  have es:=fillN_set O.length k hkn
  repeat refine S.seq ?_
  refine S.skip ?_
  simp (disch:=first|omega|simp only [aA,aB]<;>omega|decide) only [rUz,↓reduceIte,reduceEqDiff,reduceAdd]
  repeat refine S.seq ?_
  refine S.block ?_
  repeat refine S.seq ?_
  refine S.region ?_
  simp (disch:=first|omega|simp only [aA,aB]<;>omega|decide) only [rUz,↓reduceIte,reduceEqDiff,reduceAdd,t17]
  repeat refine S.seq ?_
  refine S.region ?_
  simp (disch:=first|omega|simp only [aA,aB]<;>omega|decide) only [rUz,↓reduceIte,reduceEqDiff,reduceAdd,t4,t17,getI hkn]
  refine mP s3' ?_
  simp (disch:=first|omega|simp only [aA,aB]<;>omega|decide) only [rUz,↓reduceIte,reduceEqDiff,reduceAdd,own.2.1,own.2.2]
  have ow2:=own.upd (i:=k) (x:=(k:Int))
  rw [es] at ow2
  repeat refine S.seq ?_
  refine S.region ?_
  simp (disch:=first|omega|simp only [aA,aB]<;>omega|decide) only [rUz,↓reduceIte,reduceEqDiff,reduceAdd,t17]
  refine hn (k + 1) _ _ (by omega) ⟨fr.upd,ow2,?_,?_,?_,?_,?_,?_,by omega⟩
  all_goals (first|rfl|(simp (disch:=first|omega|simp only [aA,aB]<;>omega|decide) only [rUz,↓reduceIte,reduceEqDiff,reduceAdd,t1,t2,t3,t4,t16]<;>rfl))
 have hkn:k = O.length:=by have:=of_decide_eq_false e; omega
 subst hkn
 refine S.exit (he _ _ _ _ (fun e=>by cases e) ?_)
 rw [fillN_all] at own
 have hdn:=fr.le
 simp (disch:=first|omega|simp only [aA,aB]<;>omega|decide) only [rUz,↓reduceIte,reduceEqDiff,reduceAdd]
 repeat refine S.seq ?_
 refine S.region ?_
 simp (disch:=first|omega|simp only [aA,aB]<;>omega|decide) only [rUz,↓reduceIte,reduceEqDiff,reduceAdd,cO zTc,cf0]
 repeat refine S.seq ?_
 refine S.region ?_
 simp (disch:=first|omega|simp only [aA,aB]<;>omega|decide) only [rUz,↓reduceIte,reduceEqDiff,reduceAdd,t1,t2,t3]
 obtain ⟨Bc,hBc⟩:∃ x,x = h.nx:=⟨_,rfl⟩
 obtain ⟨z,hz⟩:∃ z:ZB,z = ⟨By,Bs,B1,Bc,Bt⟩:=⟨_,rfl⟩
 refine gI (B:=h.nx) (off:=0) (v:=oN z) (c:=[.nilFunc]) (fam:=h.nx) (k0:=h.nx) (by simp (disch:=first|omega|simp only [aA,aB]<;>omega|decide) only [rUz,↓reduceIte,reduceEqDiff,reduceAdd]) (by subst hz; simp (disch:=first|omega|simp only [aA,aB]<;>omega|decide) only [rUz,↓reduceIte,reduceEqDiff,reduceAdd,t1,t2,t3]; subst hBc; rfl) sTc rfl rfl (aP rfl) (dL rfl) (by simp) ?_
 rw [show ([Value.nilFunc]:List Value).set 0 (oN z) = [oN z] from rfl]
 have k2:Kp h ((h.add [.nilFunc]).upd h.nx [oN z] h.nx):=Kp.refl.add.upd (Nat.le_refl _)
 have bc0:((h.add [.nilFunc]).upd h.nx [oN z] h.nx).bl.get h.nx = some (.cells [oN z] h.nx false):=aO _ _ _
 have n5:((h.add [.nilFunc]).upd h.nx [oN z] h.nx).nx = h.nx + 1:=rfl
 simp (disch:=first|omega|simp only [aA,aB]<;>omega|decide) only [rUz,↓reduceIte,reduceEqDiff,reduceAdd]
 rw [← hBc] at k2 bc0 n5 ⊢
 generalize (h.add [.nilFunc]).upd Bc [oN z] Bc = Hz at k2 bc0 n5 ⊢
 repeat refine S.seq ?_
 refine S.region ?_
 simp (disch:=first|omega|simp only [aA,aB]<;>omega|decide) only [rUz,↓reduceIte,reduceEqDiff,reduceAdd,bc0,pTc,t4,fF,List.map_cons,List.map_nil,bV1]
 have kH:Kp H Hz:=(fr.toKp kd (by omega)).trans k2
 have iz:I 0 (fun j=>H.nx ≤ j ∧ j < Hz.nx) Hz:=hI 0 _ _ _ _ i0 kH.out fun j hj hq=>by omega
 have gz:∀ j,j < Hd.nx → j ≠ Bw → Hz.bl.get j = Hd.bl.get j:=fun j hj hn=>(k2.get (by omega)).trans (fr.bl j hj hn)
 have zz:ZOk H W v O.length l z (fun j=>H.nx ≤ j ∧ j < Hz.nx) Hz:=by
  subst hz
  refine ⟨(gz By (by omega) (by omega)).trans byd,(gz Bs (by omega) (by omega)).trans bsd,(gz B1 (by omega) (by omega)).trans g1d,bc0,⟨⟨⟨?_,?_⟩,?_⟩,?_⟩,⟨⟨⟨?_,?_⟩,?_⟩,?_⟩,⟨⟨⟨?_,?_⟩,?_⟩,?_⟩,hb1,⟨⟨?_,?_⟩,?_,?_⟩,kH.out⟩
  all_goals (dsimp only; omega)
 have tz:TB z (List.replicate O.length 0) Hz:=by
  subst hz
  exact ⟨(gz Bt (by omega) (by omega)).trans owntd.2.1,(k2.fget (by show Bt < h.nx; omega)).trans ((fr.fam Bt (by omega)).trans owntd.2.2)⟩
 have hzt:z.t = Bt:=by rw [hz]
 have bw1:=own.2.1
 have hwz:∀ h',Bd (Sm (fun j=>H.nx ≤ j ∧ j < Hz.nx) z.t) W H.nx Hz h' → IAt h' (.slice (some ⟨Bw,0,none⟩) O.length O.length) (wI (List.range O.length)):=fun h' b=>by
  refine .inr ⟨Bw,O.length,Bw,false,by rw [wI_len,List.length_range],by have:=b.le; omega,?_⟩
  exact (b.get (by omega) (.inl ⟨⟨by omega,by omega⟩,by omega⟩)).trans ((k2.get (by omega)).trans bw1)
 have hh:=ways_y S hoff H W v O hv l z (dW O) I E ⟨hI,hE,body⟩ hp O.length (List.range O.length) (0,-1) [] 0 [] (.slice (some ⟨Bw,0,none⟩) O.length O.length) Hz (fun j=>H.nx ≤ j ∧ j < Hz.nx) (List.replicate O.length 0) List.length_range (Nat.le_refl _)
  ⟨xP _,fun j hj=>List.mem_range.1 hj,fun j hj=>.inl (List.mem_range.2 hj),(fun a ha=>by cases ha),List.Pairwise.nil,by omega⟩ List.length_replicate (fun a ha=>by cases ha) (fun j hj=>hj) zz tz hwz iz (by rw [List.drop_zero,List.append_nil]; rfl)
 refine iT (fid:=71) (first:=#[]) (captured:=⟨z.caps⟩) (by simp (disch:=first|omega|simp only [aA,aB]<;>omega|decide) only [rUz,↓reduceIte,reduceEqDiff,reduceAdd]; rfl) (hoff _ _ _ rfl) (by simp (disch:=first|omega|simp only [aA,aB]<;>omega|decide) only [rUz,↓reduceIte,reduceEqDiff,reduceAdd]; exact hh) ?_
 rintro u h9 ⟨b9,hcase⟩
 simp (disch:=first|omega|simp only [aA,aB]<;>omega|decide) only [rUz,↓reduceIte,reduceEqDiff,reduceAdd]
 subst hF
 simp only [finish,aI]
 rw [show Tryz.f70.results.toList = [] from rfl]
 simp only [bK,result1]
 rcases hcase with ⟨_,_,i9⟩|⟨_,e9⟩
 ·refine done (fun j=>H.nx ≤ j ∧ j < Hz.nx) _ ?_ (b9.out kH.out)
  have e:0 + (fK O O.length (List.range O.length) (0,-1)).length = (dW O).length:=by unfold dW pathsA; rw [List.length_map,Nat.zero_add]
  rw [e] at i9
  exact i9
 ·exact stop _ _ e9 (b9.out kH.out)
end Go.Proofs.Po
