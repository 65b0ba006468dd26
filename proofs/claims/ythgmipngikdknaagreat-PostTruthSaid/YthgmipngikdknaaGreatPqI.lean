import Derived.Test.YthgmipngikdknaaGreatPrC
import Derived.Test.YthgmipngikdknaaGreatPtB
/- A truth that explains records. -/
namespace Go.Proofs.Po
open Nat (reduceEqDiff reduceAdd reduceSub)
open Go Go.Ev Go.RowKit
set_option linter.unusedSimpArgs false
variable {pr:Prim} {R:ExT}
/-- Whether a truth explains records. -/
def expZ (O:List Od) (L:List Sa) (t:List Int):Bool:=L.all fun s=>decide (cnS s L ≤ cnS s (dG O t).2)
theorem s28:bJ Tryz.prog 28 = some 1:=by kernel_rfl
theorem z28:zeroOf Tryz.prog 28 = some (iv 0):=by kernel_rfl
theorem p28 (c:List Value) (o:Nat):dA Tryz.prog 28 c o = c[o]?:=by kernel_rfl
theorem ci0 (n:Int):(Value.int .i64 n).cells.toList = [iv n]:=rfl
def ExAt (O:List Od) (L:List Sa) (u:Value) (h:AHeap):Prop:=
 (gV O L ≠ 0 ∧ u = .tuple ⟨[nl,iv (gV O L)]⟩) ∨ (gV O L = 0 ∧ ∃ t w,(allZ O).find? (expZ O L) = some t ∧ u = .tuple ⟨[w,iv 0]⟩ ∧ IS h w t) ∨ (gV O L = 0 ∧ (allZ O).find? (expZ O L) = none ∧ u = .tuple ⟨[nl,iv 11]⟩)
/-- What is kept while the truths are gone through. -/
structure IEx (G:AHeap) (B4 B5:Nat) (O:List Od) (L:List Sa) (k:Nat) (S:Nat → Prop) (h:AHeap):Prop where
 le:G.nx ≤ h.nx
 up:∀ j,S j → G.nx ≤ j
 kp:∀ j,j < G.nx → h.bl.get j = G.bl.get j ∧ h.fams.get j = G.fams.get j
 no:∀ i t,i < k → (allZ O)[i]? = some t → expZ O L t = false
structure EEx (G:AHeap) (B4 B5:Nat) (O:List Od) (L:List Sa) (e:Exit) (S:Nat → Prop) (h:AHeap):Prop where
 le:G.nx ≤ h.nx
 up:∀ j,S j → G.nx ≤ j
 kp:∀ j,j < G.nx → j ≠ B4 → j ≠ B5 → h.bl.get j = G.bl.get j ∧ h.fams.get j = G.fams.get j
 e:e = .ret
 ex:∃ t b f,(allZ O).find? (expZ O L) = some t ∧ h.bl.get B4 = some (.cells [.slice (some ⟨b,0,none⟩) t.length t.length] B4 false) ∧ h.bl.get B5 = some (.cells [iv 0] B5 false) ∧ G.nx ≤ b ∧ b < h.nx ∧ ¬ S b ∧ h.bl.get b = some (.cells (t.map iv) f false)
theorem IEx.stable {G:AHeap} {B4 B5:Nat} {O:List Od} {L:List Sa} (k:Nat):Stable (IEx G B4 B5 O L k):=by
 intro S S' h h' q o hs
 have hle:=q.le
 have no:∀ j,j < G.nx → ¬ S j:=fun j hj hq=>by have:=q.up j hq; omega
 refine ⟨Nat.le_trans hle o.le,fun j hj=>?_,fun j hj=>?_,q.no⟩
 ·by_cases hjh:j < h.nx
  ·exact q.up j (hs j hjh hj)
  ·omega
 ·have:=q.kp j hj
  exact ⟨(o.get (by omega) (no j hj)).trans this.1,(o.fget (by omega) (no j hj)).trans this.2⟩
theorem EEx.stable {G:AHeap} {B4 B5:Nat} {O:List Od} {L:List Sa} (h4:B4 < G.nx) (h5:B5 < G.nx) (e:Exit):Stable (EEx G B4 B5 O L e):=by
 intro S S' h h' q o hs
 have hle:=q.le
 have no:∀ j,j < G.nx → ¬ S j:=fun j hj hq=>by have:=q.up j hq; omega
 obtain ⟨t,b,f,e1,e2,e3,e4,e5,e6,e7⟩:=q.ex
 refine ⟨Nat.le_trans hle o.le,fun j hj=>?_,fun j hj n4 n5=>?_,q.e,t,b,f,e1,(o.get (by omega) (no _ h4)).trans e2,(o.get (by omega) (no _ h5)).trans e3,e4,Nat.lt_of_lt_of_le e5 o.le,fun q2=>e6 (hs b e5 q2),(o.get e5 e6).trans e7⟩
 ·by_cases hjh:j < h.nx
  ·exact q.up j (hs j hjh hj)
  ·omega
 ·have:=q.kp j hj n4 n5
  exact ⟨(o.get (by omega) (no j hj)).trans this.1,(o.fget (by omega) (no j hj)).trans this.2⟩
theorem find_at {α:Type} {p:α → Bool}:∀ {l:List α} {k:Nat} {x:α},l[k]? = some x → (∀ i y,i < k → l[i]? = some y → p y = false) → p x = true → l.find? p = some x
 | [],_,_,h,_,_=>by simp at h
 | a :: l,0,x,h,_,hp=>by
  obtain rfl:a = x:=by simpa using h
  rw [List.find?_cons,hp]
 | a :: l,k + 1,x,h,hn,hp=>by
  rw [List.find?_cons,hn 0 a (by omega) rfl]
  exact find_at (by simpa using h) (fun i y hi hy=>hn (i + 1) y (by omega) (by simpa using hy)) hp
theorem find_no {α:Type} {p:α → Bool} {l:List α} (h:∀ (i:Nat) (y:α),l[i]? = some y → p y = false):l.find? p = none:=by
 rw [List.find?_eq_none]
 intro x hx
 obtain ⟨i,hi⟩:=List.mem_iff_getElem?.1 hx
 rw [h i x hi]; simp
theorem bl_is {h:AHeap} {t:List Int} {b f:Nat} (hl:1 ≤ t.length) (hb:b < h.nx) (hg:h.bl.get b = some (.cells (t.map iv) f false)):IS h (.slice (some ⟨b,0,none⟩) t.length t.length) t:=by
 refine .inr ⟨b,t.length,f,false,?_,by rw [List.length_map],hb,by rw [flat1]; exact hg,fun c hc=>?_⟩
 ·intro e; have:=congrArg List.length e; rw [List.length_map] at this; simp at this; subst this; simp at hl
 ·obtain ⟨n,_,rfl⟩:=List.mem_map.1 hc; rfl
set_option maxRecDepth 100000 in
set_option maxHeartbeats 32000000 in
theorem explain_y (S:Ev.Steps Tryz.prog pr R) (hoff:Off pr) (h0:AHeap) (v w:Value) (O:List Od) (L:List Sa) (hb:PoAt h0 v O) (hw:SlAt h0 4 w (L.map cSa)) (h9:O.length ≤ 9) (hL:L.length ≤ 1000) :
  bD Tryz.prog R 19 [.agg ⟨poV v⟩,w] h0 (ExAt O L):=by
 obtain ⟨w1,w2,w3,rfl⟩:=row_sl hw
 refine aW (fn:=Tryz.f19) (c:=(Tryz.f19.body).getD .skip) (by kernel_rfl) rfl (by kernel_rfl) rfl (fun K hK=>?_)
 generalize hF:finish Tryz.prog Tryz.f19 K = KF
 simp only [Tryz.f19,Option.getD_some,bI,aZ,bC,T.setK_eq,id]
 repeat refine S.seq ?_
 refine S.region ?_
 simp (disch:=first|omega|simp only [aA,aB]<;>omega|decide) only [rUz,↓reduceIte,reduceEqDiff,reduceAdd,uV,bU zTi,bU z28,cs0,ci0]
 obtain ⟨B2,hB2⟩:∃ x,x = h0.nx:=⟨_,rfl⟩
 obtain ⟨B3,hB3⟩:∃ x,x = h0.nx + 1:=⟨_,rfl⟩
 obtain ⟨B4,hB4⟩:∃ x,x = h0.nx + 2:=⟨_,rfl⟩
 obtain ⟨B5,hB5⟩:∃ x,x = h0.nx + 3:=⟨_,rfl⟩
 have b2:((((h0.add (poV v)).add [.slice w1 w2 w3]).add [nl]).add [iv 0]).bl.get B2 = some (.cells (poV v) B2 false):=by
  rw [aX (by show B2 ≠ h0.nx + 3; omega),aX (by show B2 ≠ h0.nx + 2; omega),aX (by show B2 ≠ h0.nx + 1; omega)]; subst hB2; exact aP rfl
 have b3:((((h0.add (poV v)).add [.slice w1 w2 w3]).add [nl]).add [iv 0]).bl.get B3 = some (.cells [.slice w1 w2 w3] B3 false):=by
  rw [aX (by show B3 ≠ h0.nx + 3; omega),aX (by show B3 ≠ h0.nx + 2; omega)]; subst hB3; exact aP rfl
 have b4:((((h0.add (poV v)).add [.slice w1 w2 w3]).add [nl]).add [iv 0]).bl.get B4 = some (.cells [nl] B4 false):=by
  rw [aX (by show B4 ≠ h0.nx + 3; omega)]; subst hB4; exact aP rfl
 have f4:((((h0.add (poV v)).add [.slice w1 w2 w3]).add [nl]).add [iv 0]).fams.get B4 = some [B4]:=by
  rw [mP (by show B4 ≠ h0.nx + 3; omega)]; subst hB4; exact dL rfl
 have b5:((((h0.add (poV v)).add [.slice w1 w2 w3]).add [nl]).add [iv 0]).bl.get B5 = some (.cells [iv 0] B5 false):=by subst hB5; exact aP rfl
 have f5:((((h0.add (poV v)).add [.slice w1 w2 w3]).add [nl]).add [iv 0]).fams.get B5 = some [B5]:=by subst hB5; exact dL rfl
 have k0:Kp h0 ((((h0.add (poV v)).add [.slice w1 w2 w3]).add [nl]).add [iv 0]):=Kp.refl.add.add.add.add
 have n0:((((h0.add (poV v)).add [.slice w1 w2 w3]).add [nl]).add [iv 0]).nx = h0.nx + 4:=rfl
 rw [← hB5,← hB4,← hB3,← hB2]
 generalize (((h0.add (poV v)).add [.slice w1 w2 w3]).add [nl]).add [iv 0] = H at b2 b3 b4 f4 b5 f5 k0 n0 ⊢
 repeat refine S.seq ?_
 refine S.region ?_
 simp (disch:=first|omega|simp only [aA,aB]<;>omega|decide) only [rUz,↓reduceIte,reduceEqDiff,reduceAdd,b2,b3,qcS,bP pB (dC v)]
 refine aV (fid:=52) (first:=#[]) (captured:=#[]) (Post:=fun u _=>u = iv (gV O L)) rfl (hoff _ _ _ rfl) (by simp (disch:=first|omega|simp only [aA,aB]<;>omega|decide) only [rUz,↓reduceIte,reduceEqDiff,reduceAdd]; exact look_y S hoff H v (.slice w1 w2 w3) O L (hb.mono k0) (SlAt.mono hw k0) h9) ?_
 rintro u g hkg rfl
 have g2:=(hkg.get (by omega:B2 < H.nx)).trans b2
 have g3:=(hkg.get (by omega:B3 < H.nx)).trans b3
 have g4:=(hkg.get (by omega:B4 < H.nx)).trans b4
 have g5:=(hkg.get (by omega:B5 < H.nx)).trans b5
 have e4:=(hkg.fget (by omega:B4 < H.nx)).trans f4
 have e5:=(hkg.fget (by omega:B5 < H.nx)).trans f5
 have kg:=k0.trans hkg
 have ng:=hkg.1
 have h45:B4 ≠ B5:=by omega
 clear b2 b3 b4 f4 b5 f5
 simp (disch:=first|omega|simp only [aA,aB]<;>omega|decide) only [rUz,↓reduceIte,reduceEqDiff,reduceAdd]
 cases h1:decide (gV O L = 0) with
 | false =>
  have hz:=of_decide_eq_false h1
  repeat refine S.seq ?_
  refine S.region ?_
  simp (disch:=first|omega|simp only [aA,aB]<;>omega|decide) only [rUz,↓reduceIte,reduceEqDiff,reduceAdd,h1,Bool.not_false]
  repeat refine S.seq ?_
  refine S.cond (v:=true) (by first|rfl|(simp (disch:=first|omega|simp only [aA,aB]<;>omega|decide) only [rUz,↓reduceIte,reduceEqDiff,reduceAdd]<;>rfl)) (fun _=>?_) (fun e=>by cases e)
  repeat refine S.seq ?_
  refine S.region ?_
  simp (disch:=first|omega|simp only [aA,aB]<;>omega|decide) only [rUz,↓reduceIte,reduceEqDiff,reduceAdd]
  refine dN (B:=B4) (off:=0) (v:=nl) (c:=[nl]) (fam:=B4) (k0:=B4) (by simp (disch:=first|omega|simp only [aA,aB]<;>omega|decide) only [rUz,↓reduceIte,reduceEqDiff,reduceAdd]) rfl lI' rfl rfl g4 e4 (by simp) ?_
  rw [show ([nl]:List Value).set 0 nl = [nl] from rfl]
  simp (disch:=first|omega|simp only [aA,aB]<;>omega|decide) only [rUz,↓reduceIte,reduceEqDiff,reduceAdd]
  refine dN (B:=B5) (off:=0) (v:=iv (gV O L)) (c:=[iv 0]) (fam:=B5) (k0:=B5) (by simp (disch:=first|omega|simp only [aA,aB]<;>omega|decide) only [rUz,↓reduceIte,reduceEqDiff,reduceAdd]) (by simp (disch:=first|omega|simp only [aA,aB]<;>omega|decide) only [rUz,↓reduceIte,reduceEqDiff,reduceAdd]) s28 rfl rfl (by rw [upd_ne _ _ _ (fun e=>h45 e.symm)]; exact g5) (by rw [bM]; exact e5) (by simp) ?_
  rw [show ([iv 0]:List Value).set 0 (iv (gV O L)) = [iv (gV O L)] from rfl]
  simp (disch:=first|omega|simp only [aA,aB]<;>omega|decide) only [rUz,↓reduceIte,reduceEqDiff,reduceAdd]
  have x4:((g.upd B4 [nl] B4).upd B5 [iv (gV O L)] B5).bl.get B4 = some (.cells [nl] B4 false):=by rw [upd_ne _ _ _ h45]; exact aO _ _ _
  have x5:((g.upd B4 [nl] B4).upd B5 [iv (gV O L)] B5).bl.get B5 = some (.cells [iv (gV O L)] B5 false):=aO _ _ _
  refine S.ret ?_
  try simp only [aI,aF]
  subst hF
  simp only [finish,aJ]
  rw [show Tryz.f19.results.toList = [.cell 4 35,.cell 5 28] from rfl]
  simp (disch:=first|omega|simp only [aA,aB]<;>omega|decide) only [bH,aY,aQ,aS,aT,aU,aO,upd_ne,aP,aX,result1,x4,x5,qI,p28]
  exact hK _ _ ((kg.upd (by omega)).upd (by omega)) (.inl ⟨hz,rfl⟩)
 | true =>
 have hz:=of_decide_eq_true h1
 have hv:Val O:=by
  unfold gV at hz
  cases hf:decide (dK O = 0) with
  | true=>exact kW.1 (of_decide_eq_true hf)
  | false=>rw [hf,cond_false] at hz; exact absurd hz (of_decide_eq_false hf)
 repeat refine S.seq ?_
 refine S.region ?_
 simp (disch:=first|omega|simp only [aA,aB]<;>omega|decide) only [rUz,↓reduceIte,reduceEqDiff,reduceAdd,h1,Bool.not_true]
 repeat refine S.seq ?_
 refine S.cond (v:=false) (by first|rfl|(simp (disch:=first|omega|simp only [aA,aB]<;>omega|decide) only [rUz,↓reduceIte,reduceEqDiff,reduceAdd]<;>rfl)) (fun e=>by cases e) (fun _=>?_)
 repeat refine S.seq ?_
 refine S.skip ?_
 simp (disch:=first|omega|simp only [aA,aB]<;>omega|decide) only [rUz,↓reduceIte,reduceEqDiff,reduceAdd]
 repeat refine S.seq ?_
 refine S.region ?_
 simp (disch:=first|omega|simp only [aA,aB]<;>omega|decide) only [rUz,↓reduceIte,reduceEqDiff,reduceAdd,g2,bP pB (dC v)]
 refine aV (fid:=53) (first:=#[]) (captured:=#[]) (Post:=fun u h=>∃ B9,u = trsV B9 ∧ h.bl.get B9 = some (.cells (poV v) B9 false) ∧ g.nx ≤ B9 ∧ B9 < h.nx) rfl (hoff _ _ _ rfl) (by simp (disch:=first|omega|simp only [aA,aB]<;>omega|decide) only [rUz,↓reduceIte,reduceEqDiff,reduceAdd]; exact truths_y S g v) ?_
 rintro u G hkG ⟨B9,rfl,b9,b9l,b9u⟩
 have nG:=hkG.1
 replace g2:=(hkG.get (by omega)).trans g2
 replace g3:=(hkG.get (by omega)).trans g3
 replace g4:=(hkG.get (by omega)).trans g4
 replace g5:=(hkG.get (by omega)).trans g5
 replace e4:=(hkG.fget (by omega)).trans e4
 replace e5:=(hkG.fget (by omega)).trans e5
 replace kg:=kg.trans hkG
 have hB4G:B4 < G.nx:=by omega
 have hB5G:B5 < G.nx:=by omega
 clear hkG
 simp (disch:=first|omega|simp only [aA,aB]<;>omega|decide) only [rUz,↓reduceIte,reduceEqDiff,reduceAdd]
 repeat refine S.seq ?_
 refine S.block ?_
 refine S.rangeFn (W:=fun j=>j = B4 ∨ j = B5) (xs:=allZ O) (d:=G.nx) (l:=G.nx + 1) (At:=fun x U h az=>∃ b f,az = [.slice (some ⟨b,0,none⟩) x.length x.length] ∧ G.nx + 2 ≤ b ∧ b < h.nx ∧ ¬ U b ∧ h.bl.get b = some (.cells (x.map iv) f false)) (g:=70) (first:=#[]) (captured:=#[bG B9]) (fn:=Tryz.f70) (c:=(Tryz.f70.body).getD .skip) (IEx G B4 B5 O L) (EEx G B4 B5 O L) (by simp (disch:=first|omega|simp only [aA,aB]<;>omega|decide) only [rUz,↓reduceIte,reduceEqDiff,reduceAdd]; rfl) (by kernel_rfl) rfl rfl rfl ?_ (fun k=>IEx.stable k) (fun e=>EEx.stable hB4G hB5G e) ?_ ?_ ?_ ?_ ?_
 ·intro h2 hk2 hn2
  have hit:=truthsIt S hoff h2 (fun j=>(j = B4 ∨ j = B5) ∨ j = G.nx + 1) B9 v O hv ⟨by omega,by omega⟩ ((hk2.get b9u).trans b9) (fun h' o=>oO hb (Nat.le_refl _) (by have:=o.le; have:=kg.1; omega) fun j hj=>(o.get (by have:=kg.1; omega) (by omega)).trans ((hk2.get (by have:=kg.1; omega)).trans (kg.get hj)))
  have e:AtT h2 = fun (x:List Int) (U:Nat → Prop) (h:AHeap) (az:List Value)=>∃ b f,az = [.slice (some ⟨b,0,none⟩) x.length x.length] ∧ G.nx + 2 ≤ b ∧ b < h.nx ∧ ¬ U b ∧ h.bl.get b = some (.cells (x.map iv) f false):=by
   funext x U h az
   unfold AtT
   rw [hn2]
  rw [e] at hit
  exact hit
 ·intro h2 hk2 hn2
  exact ⟨by omega,fun j hj=>by omega,fun j hj=>hk2.2 j hj,fun i t hi=>absurd hi (Nat.not_lt_zero _)⟩
 ·rintro x _ _ _ ⟨b,f,rfl,_⟩
  kernel_rfl
 ·intro k x U h1 az hxk hat hU i1 ho1 hn1 KA hKA
  obtain ⟨tb,tf,rfl,tb1,tb2,tb3,tb4⟩:=hat
  simp only [gG,bC,T.setK_eq,id]
  repeat refine S.seq ?_
  refine S.region ?_
  simp (disch:=first|omega|simp only [aA,aB]<;>omega|decide) only [rUz,↓reduceIte,reduceEqDiff,reduceAdd]
  refine hKA _ _ Kp.refl fun hb' hbut K' kn kr _=>?_
  have hVu:∀ j,(U j ∨ j = G.nx ∨ j = G.nx + 1) → G.nx ≤ j ∧ j < h1.nx:=fun j hj=>by
   rcases hj with hj|hj|hj
   ·have:=hU j hj; omega
   ·omega
   ·omega
  have ib:=IEx.stable (B4:=B4) (B5:=B5) k _ _ _ _ i1 (hbut.out (.inr (.inr rfl))) fun j _ hj=>hj
  have nb:=hbut.nx
  have gb:∀ j,j < G.nx → hb'.bl.get j = G.bl.get j:=fun j hj=>(ib.kp j hj).1
  have hb2:=(gb B2 (by omega)).trans g2
  have hb3:=(gb B3 (by omega)).trans g3
  have htr:fJ O x = true:=(mV hv).1 x (List.mem_of_getElem? hxk)
  have htru:=rD hv htr
  have hpb:PoAt hb' v O:=oO hb (Nat.le_refl _) (by have:=kg.1; omega) fun j hj=>(gb j (by have:=kg.1; omega)).trans (kg.get hj)
  have hwb:SlAt hb' 4 (.slice w1 w2 w3) (L.map cSa):=oO hw (Nat.le_refl _) (by have:=kg.1; omega) fun j hj=>(gb j (by have:=kg.1; omega)).trans (kg.get hj)
  have htbb:=(hbut.get (by omega)).trans tb4
  have htb:IAt hb' (.slice (some ⟨tb,0,none⟩) x.length x.length) x:=.inr ⟨tb,_,tf,false,rfl,by omega,htbb⟩
  have hwv:=oW hwb
  repeat refine S.seq ?_
  refine S.block ?_
  repeat refine S.seq ?_
  refine S.drawnL [(false,0),(false,0),(true,3),(false,0),(true,15)] (by kernel_rfl) (by kernel_rfl) (by kernel_rfl) ?_
  simp (disch:=first|omega|simp only [aA,aB]<;>omega|decide) only [rUz,↓reduceIte,reduceEqDiff,reduceAdd,rDz,infoL,reduceSub,hb2,bP pB (dC v)]
  refine dJ rfl ?_
  simp (disch:=first|omega|simp only [aA,aB]<;>omega|decide) only [rUz,↓reduceIte,reduceEqDiff,reduceAdd,rDz,infoL,reduceSub,hb3,qcS]
  refine cZ (fid:=54) (first:=#[]) (captured:=#[]) (Post:=fun u h=>RunAt2 hb'.nx O x v u h) rfl (hoff _ _ _ rfl) (by simp (disch:=first|omega|simp only [aA,aB]<;>omega|decide) only [rUz,↓reduceIte,reduceEqDiff,reduceAdd]; exact run_y2 S hoff hb' v (.slice (some ⟨tb,0,none⟩) x.length x.length) O x hpb htb hv htru) (Nat.le_of_ble_eq_true rfl) ?_
  rintro u g hkg ⟨Bc,cv2,lf,sv,rfl,c1,c2,c3,c4,c5,c6,c7⟩
  have hb3g:=(hkg.get (by omega:B3 < hb'.nx)).trans hb3
  refine ⟨?_,?_⟩
  ·try simp (disch:=first|decide|rfl) only [aK,aG,aH]
   rw [bF (v:=.slice w1 w2 w3) (by simp (disch:=first|omega|simp only [aA,aB]<;>omega|decide) only [rUz,↓reduceIte,reduceEqDiff,reduceAdd,rDz,infoL,reduceSub,hb3g,qcS]) hwv]
   try simp (disch:=first|decide|rfl) only [aK,aG,aH]
  simp (disch:=first|omega|simp only [aA,aB]<;>omega|decide) only [rUz,↓reduceIte,reduceEqDiff,reduceAdd,rDz,infoL,reduceSub]
  refine cZ (fid:=55) (first:=#[]) (captured:=#[]) (Post:=fun u _=>u = .bool (expZ O L x)) rfl (hoff _ _ _ rfl) (by simp (disch:=first|omega|simp only [aA,aB]<;>omega|decide) only [rUz,↓reduceIte,reduceEqDiff,reduceAdd]; exact wH S hoff g Bc v cv2 lf sv (.slice w1 w2 w3) (dG O x).2 L c1 c2 c4 c3 (by omega) (SlAt.mono hwb hkg) hL) (Nat.le_of_ble_eq_true rfl) ?_
  rintro u g9 hkg9 rfl
  have hk2:=hkg.trans hkg9
  refine ⟨?_,?_⟩
  ·try simp (disch:=first|decide|rfl) only [aK,aG,aH]
  have ng9:=hk2.1
  cases hq:expZ O L x with
  | true =>
   simp (disch:=first|omega|simp only [aA,aB]<;>omega|decide) only [rUz,↓reduceIte,reduceEqDiff,reduceAdd,rDz,infoL,reduceSub]
   repeat refine S.seq ?_
   refine S.cond (v:=true) (by first|rfl|(simp (disch:=first|omega|simp only [aA,aB]<;>omega|decide) only [rUz,↓reduceIte,reduceEqDiff,reduceAdd]<;>rfl)) (fun _=>?_) (fun e=>by cases e)
   have y4:=(hk2.get (by omega:B4 < hb'.nx)).trans ((gb B4 hB4G).trans g4)
   have y5:=(hk2.get (by omega:B5 < hb'.nx)).trans ((gb B5 hB5G).trans g5)
   have z4:=(hk2.fget (by omega:B4 < hb'.nx)).trans (((ib.kp B4 hB4G).2).trans e4)
   have z5:=(hk2.fget (by omega:B5 < hb'.nx)).trans (((ib.kp B5 hB5G).2).trans e5)
   repeat refine S.seq ?_
   refine S.region ?_
   simp (disch:=first|omega|simp only [aA,aB]<;>omega|decide) only [rUz,↓reduceIte,reduceEqDiff,reduceAdd]
   refine dN (B:=B4) (off:=0) (v:=.slice (some ⟨tb,0,none⟩) x.length x.length) (c:=[nl]) (fam:=B4) (k0:=B4) (by simp (disch:=first|omega|simp only [aA,aB]<;>omega|decide) only [rUz,↓reduceIte,reduceEqDiff,reduceAdd]) (by simp (disch:=first|omega|simp only [aA,aB]<;>omega|decide) only [rUz,↓reduceIte,reduceEqDiff,reduceAdd]) lI' rfl rfl y4 z4 (by simp) ?_
   rw [show ([nl]:List Value).set 0 (.slice (some ⟨tb,0,none⟩) x.length x.length) = [.slice (some ⟨tb,0,none⟩) x.length x.length] from rfl]
   simp (disch:=first|omega|simp only [aA,aB]<;>omega|decide) only [rUz,↓reduceIte,reduceEqDiff,reduceAdd]
   refine dN (B:=B5) (off:=0) (v:=iv 0) (c:=[iv 0]) (fam:=B5) (k0:=B5) (by simp (disch:=first|omega|simp only [aA,aB]<;>omega|decide) only [rUz,↓reduceIte,reduceEqDiff,reduceAdd]) (by simp (disch:=first|omega|simp only [aA,aB]<;>omega|decide) only [rUz,↓reduceIte,reduceEqDiff,reduceAdd]) s28 rfl rfl (by rw [upd_ne _ _ _ (fun e=>h45 e.symm)]; exact y5) (by rw [bM]; exact z5) (by simp) ?_
   rw [show ([iv 0]:List Value).set 0 (iv 0) = [iv 0] from rfl]
   simp (disch:=first|omega|simp only [aA,aB]<;>omega|decide) only [rUz,↓reduceIte,reduceEqDiff,reduceAdd]
   refine S.ret ?_
   simp only [aI,aF]
   have kpj:∀ j,j < hb'.nx → j ≠ B4 → j ≠ B5 → ((g9.upd B4 [.slice (some ⟨tb,0,none⟩) x.length x.length] B4).upd B5 [iv 0] B5).bl.get j = hb'.bl.get j ∧ ((g9.upd B4 [.slice (some ⟨tb,0,none⟩) x.length x.length] B4).upd B5 [iv 0] B5).fams.get j = hb'.fams.get j:=fun j hj n4 n5=>by
    rw [upd_ne _ _ _ n5,upd_ne _ _ _ n4,bM,bM]
    exact hk2.2 j hj
   refine kr _ _ ⟨ng9,fun j hj hn=>kpj j hj ?_ ?_⟩ ⟨by show G.nx ≤ g9.nx; omega,fun j hj=>(hVu j hj).1,fun j hj n4 n5=>?_,rfl,x,tb,tf,find_at hxk ib.no hq,?_,aO _ _ _,by omega,by show tb < g9.nx; omega,fun q=>?_,?_⟩
   ·rcases hn with hn|hn
    ·have:=hVu j hn; omega
    ·exact fun e=>hn.2 (.inl e)
   ·rcases hn with hn|hn
    ·have:=hVu j hn; omega
    ·exact fun e=>hn.2 (.inr e)
   ·have q1:=kpj j (by omega) n4 n5
    have q2:=ib.kp j hj
    exact ⟨q1.1.trans q2.1,q1.2.trans q2.2⟩
   ·rw [upd_ne _ _ _ h45]; exact aO _ _ _
   ·rcases q with q|q|q
    ·exact tb3 q
    ·omega
    ·omega
   ·rw [(kpj tb (by omega) (by omega) (by omega)).1]; exact htbb
  | false =>
   simp (disch:=first|omega|simp only [aA,aB]<;>omega|decide) only [rUz,↓reduceIte,reduceEqDiff,reduceAdd,rDz,infoL,reduceSub]
   repeat refine S.seq ?_
   refine S.cond (v:=false) (by first|rfl|(simp (disch:=first|omega|simp only [aA,aB]<;>omega|decide) only [rUz,↓reduceIte,reduceEqDiff,reduceAdd]<;>rfl)) (fun e=>by cases e) (fun _=>?_)
   repeat refine S.seq ?_
   refine S.skip ?_
   simp (disch:=first|omega|simp only [aA,aB]<;>omega|decide) only [rUz,↓reduceIte,reduceEqDiff,reduceAdd]
   refine kn _ _ (kpS hk2) ⟨by omega,fun j hj=>(hVu j hj).1,fun j hj=>?_,fun i t hi ht=>?_⟩
   ·have q2:=ib.kp j hj
    exact ⟨(hk2.get (by omega)).trans q2.1,(hk2.fget (by omega)).trans q2.2⟩
   ·by_cases hik:i = k
    ·subst hik; rw [hxk] at ht; cases ht; exact hq
    ·exact ib.no i t (by omega) ht
 ·intro U h1 i1 ho hd1 hd
  have hle:=i1.le
  have y4:=((i1.kp B4 hB4G).1).trans g4
  have y5:=((i1.kp B5 hB5G).1).trans g5
  have z4:=((i1.kp B4 hB4G).2).trans e4
  have z5:=((i1.kp B5 hB5G).2).trans e5
  simp only [iV,fC]
  repeat refine S.seq ?_
  refine S.region ?_
  simp (disch:=first|omega|simp only [aA,aB]<;>omega|decide) only [rUz,↓reduceIte,reduceEqDiff,reduceAdd]
  refine dN (B:=B4) (off:=0) (v:=nl) (c:=[nl]) (fam:=B4) (k0:=B4) (by simp (disch:=first|omega|simp only [aA,aB]<;>omega|decide) only [rUz,↓reduceIte,reduceEqDiff,reduceAdd]) rfl lI' rfl rfl y4 z4 (by simp) ?_
  rw [show ([nl]:List Value).set 0 nl = [nl] from rfl]
  simp (disch:=first|omega|simp only [aA,aB]<;>omega|decide) only [rUz,↓reduceIte,reduceEqDiff,reduceAdd]
  refine dN (B:=B5) (off:=0) (v:=iv 11) (c:=[iv 0]) (fam:=B5) (k0:=B5) (by simp (disch:=first|omega|simp only [aA,aB]<;>omega|decide) only [rUz,↓reduceIte,reduceEqDiff,reduceAdd]) (by simp (disch:=first|omega|simp only [aA,aB]<;>omega|decide) only [rUz,↓reduceIte,reduceEqDiff,reduceAdd]) s28 rfl rfl (by rw [upd_ne _ _ _ (fun e=>h45 e.symm)]; exact y5) (by rw [bM]; exact z5) (by simp) ?_
  rw [show ([iv 0]:List Value).set 0 (iv 11) = [iv 11] from rfl]
  simp (disch:=first|omega|simp only [aA,aB]<;>omega|decide) only [rUz,↓reduceIte,reduceEqDiff,reduceAdd]
  have hd':((h1.upd B4 [nl] B4).upd B5 [iv 11] B5).bl.get G.nx = some (.deferred true):=by rw [upd_ne _ _ _ (by omega),upd_ne _ _ _ (by omega)]; exact hd
  have x4:(((h1.upd B4 [nl] B4).upd B5 [iv 11] B5).setm G.nx (.deferred false)).bl.get B4 = some (.cells [nl] B4 false):=by rw [dV (by omega),upd_ne _ _ _ h45]; exact aO _ _ _
  have x5:(((h1.upd B4 [nl] B4).upd B5 [iv 11] B5).setm G.nx (.deferred false)).bl.get B5 = some (.cells [iv 11] B5 false):=by rw [dV (by omega)]; exact aO _ _ _
  refine S.ret ?_
  try simp only [aI,aF]
  subst hF
  simp only [finish]
  rw [kU (hd')]
  rw [show Tryz.f19.results.toList = [.cell 4 35,.cell 5 28] from rfl]
  simp (disch:=first|omega|simp only [aA,aB]<;>omega|decide) only [bH,aY,aQ,aS,aT,aU,aO,upd_ne,aP,aX,result1,x4,x5,qI,p28]
  refine hK _ _ ⟨by have:=kg.1; show h0.nx ≤ h1.nx; omega,fun j hj=>?_⟩ (.inr (.inr ⟨hz,find_no fun i y hy=>i1.no i y (List.getElem?_eq_some_iff.1 hy).1 hy,rfl⟩))
  have hjG:j < G.nx:=by have:=kg.1; omega
  rw [dV (by omega),setm_fams,upd_ne _ _ _ (by omega),upd_ne _ _ _ (by omega),bM,bM]
  exact ⟨((i1.kp j hjG).1).trans (kg.get hj),((i1.kp j hjG).2).trans (kg.fget hj)⟩
 ·intro e U h1 e1 he ho hd1 hd
  obtain rfl:=e1.e
  obtain ⟨t,b,f,q1,q2,q3,q4,q5,q6,q7⟩:=e1.ex
  have x4:(h1.setm G.nx (.deferred false)).bl.get B4 = some (.cells [.slice (some ⟨b,0,none⟩) t.length t.length] B4 false):=by rw [dV (by omega)]; exact q2
  have x5:(h1.setm G.nx (.deferred false)).bl.get B5 = some (.cells [iv 0] B5 false):=by rw [dV (by omega)]; exact q3
  have hle:=e1.le
  simp only [aF,aI]
  try simp only [aI,aF]
  subst hF
  simp only [finish]
  rw [kU (hd)]
  rw [show Tryz.f19.results.toList = [.cell 4 35,.cell 5 28] from rfl]
  simp (disch:=first|omega|simp only [aA,aB]<;>omega|decide) only [bH,aY,aQ,aS,aT,aU,aO,upd_ne,aP,aX,result1,x4,x5,qI,p28]
  have hbG:b ≠ G.nx:=fun q=>q6 (.inr (.inl q))
  have ht:=(mV hv).1 t (List.mem_of_find?_eq_some q1)
  refine hK _ _ ⟨by have:=kg.1; show h0.nx ≤ h1.nx; omega,fun j hj=>?_⟩ (.inr (.inl ⟨hz,t,_,q1,rfl,bl_is (by rw [(rD hv ht).len]; exact hv.l1) q5 (by rw [dV hbG]; exact q7)⟩))
  have hjG:j < G.nx:=by have:=kg.1; omega
  rw [dV (by omega),setm_fams]
  have:=e1.kp j hjG (by omega) (by omega)
  exact ⟨this.1.trans (kg.get hj),this.2.trans (kg.fget hj)⟩
end Go.Proofs.Po
