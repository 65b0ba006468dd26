import Derived.Test.YthgmipngikdknaaGreatPrB
import Derived.Test.YthgmipngikdknaaGreatPoO
import Derived.Test.YthgmipngikdknaaGreatEvE
import Derived.Test.YthgmipngikdknaaGreatPwB
import Derived.Test.YthgmipngikdknaaGreatPoI
/- A post at work: the courses of all truths that are gone through. -/
set_option maxHeartbeats 32000000
set_option maxRecDepth 100000
namespace Go.Proofs.Po
open Nat (reduceEqDiff reduceAdd reduceSub)
open Go Go.Ev Go.RowKit
set_option linter.unusedSimpArgs false
variable {pr:Prim} {R:ExT}
theorem s88:bH Tryz.prog 88 = some 1:=by kernel_rfl
theorem z88:zeroOf Tryz.prog 88 = some (.pointer none):=by kernel_rfl
theorem p88 (c:List Value) (o:Nat):dD Tryz.prog 88 c o = c[o]?:=by kernel_rfl
theorem cp0:(Value.pointer none).cells.toList = [Value.pointer none]:=rfl
theorem fWk0:bZ Tryz.prog 120 0 = some (0,33):=by kernel_rfl
theorem fWk1:bZ Tryz.prog 120 1 = some (1,118):=by kernel_rfl
theorem lPc:bH Tryz.prog 118 = some (0 + 1):=by kernel_rfl
theorem lPc':bH Tryz.prog 118 = some 1:=by kernel_rfl
theorem qPc (c:List Value) (o:Nat):dD Tryz.prog 118 c o = c[o]?:=by kernel_rfl
theorem isPc:jW Tryz.prog 118 = true:=by kernel_rfl
theorem slPc:fE Tryz.prog 118 = some 100:=by kernel_rfl
theorem uPc:Tryz.prog.underlying 118 = some (.slice 100):=by kernel_rfl
theorem nPc:eY Tryz.prog 100 1 = true:=by kernel_rfl
theorem sPc:bH Tryz.prog 100 = some 1:=by kernel_rfl
theorem zPc:zeroOf Tryz.prog 100 = some (.pointer none):=by kernel_rfl
theorem pPc (c:List Value) (o:Nat):dD Tryz.prog 100 c o = c[o]?:=by kernel_rfl
theorem bWk (p:Option Addr) (n c:Nat):fG Tryz.prog 120 [(0,.agg ⟨[.slice p n c]⟩)] = some (.agg ⟨[.slice p n c,nl]⟩):=by kernel_rfl
def wkV (v cv:Value):List Value:=[v,cv]
theorem wk0 (v cv:Value):(wkV v cv)[0]? = some v:=rfl
theorem wk1 (v cv:Value):(wkV v cv)[1]? = some cv:=rfl
theorem vC (B:Nat):veq (bG B) (bG B) = true:=by simp only [veq,Nat.beq_refl,Bool.and_self]
def cP (B:Nat):List Value:=[bG B]
/-- A course that lies outside of Q. -/
def CrU (Q:Nat → Prop) (h:AHeap) (B:Nat) (O:List Od) (v:Value) (t:List Int):Prop:=∃ cv lf sv,h.bl.get B = some (.cells (crV v cv lf sv) B false) ∧ lf.length = 6 ∧ SlAt h 4 sv ((dI O t).2.map cSa) ∧ (dI O t).2.length ≤ 120 ∧ B < h.nx ∧ ¬ Q B ∧ ∀ b,blk sv = some b → ¬ Q b ∧ b < h.nx
theorem CrU.keep {Q Q':Nat → Prop} {h h':AHeap} {B:Nat} {O:List Od} {v:Value} {t:List Int} (k:CrU Q h B O v t) (hle:h.nx ≤ h'.nx) (hk:∀ j,j < h.nx → ¬ Q j → h'.bl.get j = h.bl.get j) (hq:∀ j,j < h.nx → Q' j → Q j):CrU Q' h' B O v t:=by
 obtain ⟨cv,lf,sv,k1,k2,k3,k4,k5,k6,k7⟩:=k
 exact ⟨cv,lf,sv,(hk B k5 k6).trans k1,k2,slAt_ne k3 hle fun j hj hn=>hk j hn (k7 j hj).1,k4,by omega,fun q=>k6 (hq B k5 q),fun b hb=>⟨fun q=>(k7 b hb).1 (hq b (k7 b hb).2 q),by have:=(k7 b hb).2; omega⟩⟩
theorem blk_lt {h:AHeap} {sz b:Nat} {v:Value} {cs:List (List Value)} (k:SlAt h sz v cs) (hb:blk v = some b):b < h.nx:=by
 rcases k with ⟨_,rfl|rfl⟩|⟨b',c,f,ro,_,rfl,hl,_⟩
 ·cases hb
 ·cases hb
 ·cases hb; exact hl
/-- A post at work. -/
def WkAt (h:AHeap) (Bw:Nat) (v:Value) (O:List Od):Prop:=∃ (cv:Value) (ptrs:List Nat),h.bl.get Bw = some (.cells (wkV v cv) Bw false) ∧ Bw < h.nx ∧ SlAt h 1 cv (ptrs.map cP) ∧ ptrs.length = (dW O).length ∧ ∀ (i:Nat) (t:List Int) (B:Nat),(dW O)[i]? = some t → ptrs[i]? = some B → CrU (fun _=>False) h B O v t
theorem WkAt.mono {h h':AHeap} {Bw:Nat} {v:Value} {O:List Od} (k:WkAt h Bw v O) (a:Kp h h'):WkAt h' Bw v O:=by
 obtain ⟨cv,ptrs,k1,k2,k3,k4,k5⟩:=k
 exact ⟨cv,ptrs,(a.get k2).trans k1,Nat.lt_of_lt_of_le k2 a.1,SlAt.mono k3 a,k4,fun i t B e1 e2=>(k5 i t B e1 e2).keep a.1 (fun j hj _=>a.get hj) fun _ _ q=>q⟩
def facN:Nat → Nat
 | 0=>1
 | n + 1=>(n + 1) * facN n
theorem comersG_len (O:List Od) (last:I2):∀ (W:List Nat) (i:Nat),(iU O last W i).length ≤ W.length
 | [],_=>Nat.le_refl _
 | j :: W,i=>by
  have:=comersG_len O last W (i + 1)
  unfold iU
  cases canC O (lF O j last) with
  | true=>rw [cond_true,List.length_cons,List.length_cons]; omega
  | false=>rw [cond_false,List.length_cons]; omega
theorem flatM_len {α β:Type} (g:α → List β) (m:Nat):∀ (l:List α),(∀ x,x ∈ l → (g x).length ≤ m) → (l.flatMap g).length ≤ l.length * m
 | [],_=>by simp
 | x :: l,h=>by
  have h1:=h x (by simp)
  have h2:=flatM_len g m l fun y hy=>h y (by simp [hy])
  rw [List.flatMap_cons,List.length_append,List.length_cons,Nat.succ_mul]; omega
theorem paths_len (O:List Od):∀ (n:Nat) (W:List Nat) (last:I2),W.length = n → (fK O n W last).length ≤ facN n
 | 0,_,_,_=>Nat.le_refl _
 | n + 1,W,last,hW=>by
  have h1:=flatM_len (wayZ O n W) (facN n) (fJ O W last) fun x hx=>by
   unfold wayZ
   rw [List.length_map]
   obtain ⟨k,hk,j,hj,_⟩:=oV hx
   have hkl:=(List.getElem?_eq_some_iff.1 hj).1
   exact paths_len O n _ _ (by rw [List.length_eraseIdx,if_pos (by omega)]; omega)
  have h2:=comersG_len O last W 0
  rw [wJ]
  refine Nat.le_trans h1 ?_
  have h3:(fJ O W last).length ≤ n + 1:=by unfold fJ; omega
  show _ ≤ (n + 1) * facN n
  exact Nat.mul_le_mul_right _ h3
theorem facN_mono:∀ n,n ≤ 6 → facN n ≤ 720:=by decide
theorem all_len {O:List Od} (hv:Val O):(dW O).length ≤ 720:=by
 unfold dW pathsA
 rw [List.length_map]
 exact Nat.le_trans (paths_len O _ _ _ List.length_range) (facN_mono _ hv.l6)
/-- What is kept while the truths are gone through; G is the heap at the beginning. -/
structure IBg (G:AHeap) (Bw:Nat) (v:Value) (O:List Od) (k:Nat) (S:Nat → Prop) (h:AHeap):Prop where
 le:G.nx ≤ h.nx
 up:∀ j,S j → G.nx ≤ j
 kp:∀ j,j < G.nx → j ≠ Bw → h.bl.get j = G.bl.get j ∧ h.fams.get j = G.fams.get j
 ex:∃ (cv:Value) (ptrs:List Nat) (Ow:Nat → Prop),h.bl.get Bw = some (.cells (wkV v cv) Bw false) ∧ h.fams.get Bw = some [Bw] ∧ AppO Ow h 1 cv (ptrs.map cP) ∧ ptrs.length = k ∧ (∀ j,Ow j → ¬ S j ∧ G.nx ≤ j ∧ j < h.nx) ∧ ∀ (i:Nat) (t:List Int) (B:Nat),(dW O)[i]? = some t → ptrs[i]? = some B → CrU (fun j=>S j ∨ Ow j ∨ j < G.nx) h B O v t
theorem IBg.stable {G:AHeap} {Bw:Nat} {v:Value} {O:List Od} (hB:Bw < G.nx) (k:Nat):Stable (IBg G Bw v O k):=by
 intro S S' h h' q o hs
 obtain ⟨cv,ptrs,Ow,e1,e2,e3,e4,e5,e6⟩:=q.ex
 have hle:=q.le
 have no:∀ j,j < G.nx → ¬ S j:=fun j hj hq=>by have:=q.up j hq; omega
 have hup:∀ j,S' j → G.nx ≤ j:=fun j hj=>by
  by_cases hjh:j < h.nx
  ·exact q.up j (hs j hjh hj)
  ·omega
 refine ⟨Nat.le_trans hle o.le,hup,fun j hj hn=>?_,cv,ptrs,Ow,(o.get (by omega) (no _ hB)).trans e1,(o.fget (by omega) (no _ hB)).trans e2,e3.keep o.le fun j hj ho=>o.kp j hj (e5 j ho).1,e4,fun j ho=>⟨fun q2=>(e5 j ho).1 (hs j (e5 j ho).2.2 q2),(e5 j ho).2.1,by have:=(e5 j ho).2.2; have:=o.le; omega⟩,fun i t B a b=>(e6 i t B a b).keep o.le (fun j hj hn=>o.get hj fun q2=>hn (.inl q2)) fun j hj hq=>?_⟩
 ·have:=q.kp j hj hn
  exact ⟨(o.get (by omega) (no j hj)).trans this.1,(o.fget (by omega) (no j hj)).trans this.2⟩
 ·rcases hq with hq|hq
  ·exact .inl (hs j hj hq)
  ·exact .inr hq
theorem begin_y (S:Ev.Steps Tryz.prog pr R) (hoff:Off pr) (h0:AHeap) (v:Value) (O:List Od) (hp:PoAt h0 v O) (hv:Val O) :
  bD Tryz.prog R 46 [.agg ⟨poV v⟩] h0 fun u h=>∃ Bw,u = bG Bw ∧ h0.nx ≤ Bw ∧ WkAt h Bw v O:=by
 obtain ⟨q1,q2,q3,hvq⟩:=row_sl hp
 have hal:=all_len hv
 have hbW:=bWk q1 q2 q3
 rw [← hvq] at hbW
 have hbW':fG Tryz.prog 120 [(0,.agg ⟨poV v⟩)] = some (.agg ⟨wkV v nl⟩):=hbW
 refine aV (fn:=Tryz.f46) (c:=(Tryz.f46.body).getD .skip) (by kernel_rfl) rfl (by kernel_rfl) rfl (fun K hK=>?_)
 generalize hF:finish Tryz.prog Tryz.f46 K = KF
 simp only [Tryz.f46,Option.getD_some,bJ,aX,aZ,T.setK_eq,id]
 repeat refine S.seq ?_
 refine S.region ?_
 simp (disch:=first|omega|simp only [aA,aB]<;>omega|decide) only [rUz,↓reduceIte,reduceEqDiff,reduceAdd]
 obtain ⟨B1,hB1⟩:∃ x,x = h0.nx:=⟨_,rfl⟩
 have b1:(h0.add (poV v)).bl.get B1 = some (.cells (poV v) B1 false):=by subst hB1; exact aP rfl
 have k0:Kp h0 (h0.add (poV v)):=Kp.refl.add
 have n0:(h0.add (poV v)).nx = h0.nx + 1:=rfl
 rw [← hB1]
 generalize h0.add (poV v) = Ha at b1 k0 n0 ⊢
 repeat refine S.seq ?_
 refine S.region ?_
 simp (disch:=first|omega|simp only [aA,aB]<;>omega|decide) only [rUz,↓reduceIte,reduceEqDiff,reduceAdd,b1,bT pB (dR v),fF,List.map_cons,List.map_nil,hbW',cO z88,cp0]
 obtain ⟨Bw,hBw⟩:∃ x,x = Ha.nx:=⟨_,rfl⟩
 obtain ⟨B3,hB3⟩:∃ x,x = Ha.nx + 1:=⟨_,rfl⟩
 refine gI (B:=Ha.nx + 1) (off:=0) (v:=bG Ha.nx) (c:=[.pointer none]) (fam:=Ha.nx + 1) (k0:=Ha.nx + 1) (by simp (disch:=first|omega|simp only [aA,aB]<;>omega|decide) only [rUz,↓reduceIte,reduceEqDiff,reduceAdd]) (by simp (disch:=first|omega|simp only [aA,aB]<;>omega|decide) only [rUz,↓reduceIte,reduceEqDiff,reduceAdd]) s88 rfl rfl (aP rfl) (dL rfl) (by simp) ?_
 rw [show ([Value.pointer none]:List Value).set 0 (bG Ha.nx) = [bG Ha.nx] from rfl]
 have k1:Kp Ha ((((Ha.add (wkV v nl)).add [.pointer none])).upd (Ha.nx + 1) [bG Ha.nx] (Ha.nx + 1)):=(Kp.refl.add.add).upd (by omega)
 have bw0:((((Ha.add (wkV v nl)).add [.pointer none])).upd (Ha.nx + 1) [bG Ha.nx] (Ha.nx + 1)).bl.get Ha.nx = some (.cells (wkV v nl) Ha.nx false):=by
  rw [upd_ne _ _ _ (by omega),aW (by show Ha.nx ≠ Ha.nx + 1; omega)]; exact aP rfl
 have fw0:((((Ha.add (wkV v nl)).add [.pointer none])).upd (Ha.nx + 1) [bG Ha.nx] (Ha.nx + 1)).fams.get Ha.nx = some [Ha.nx]:=by
  rw [bM,nD (by show Ha.nx ≠ Ha.nx + 1; omega)]; exact dL rfl
 have b30:((((Ha.add (wkV v nl)).add [.pointer none])).upd (Ha.nx + 1) [bG Ha.nx] (Ha.nx + 1)).bl.get (Ha.nx + 1) = some (.cells [bG Ha.nx] (Ha.nx + 1) false):=aO _ _ _
 have n1:((((Ha.add (wkV v nl)).add [.pointer none])).upd (Ha.nx + 1) [bG Ha.nx] (Ha.nx + 1)).nx = Ha.nx + 2:=rfl
 simp (disch:=first|omega|simp only [aA,aB]<;>omega|decide) only [rUz,↓reduceIte,reduceEqDiff,reduceAdd]
 rw [← hB3] at k1 bw0 fw0 b30 n1 ⊢
 rw [← hBw] at k1 bw0 fw0 b30 n1 ⊢
 generalize (((Ha.add (wkV v nl)).add [.pointer none])).upd B3 [bG Bw] B3 = Hb at k1 bw0 fw0 b30 n1 ⊢
 replace b1:=(k1.get (by omega)).trans b1
 replace k1:=k0.trans k1
 clear k0
 repeat refine S.seq ?_
 refine S.region ?_
 simp (disch:=first|omega|simp only [aA,aB]<;>omega|decide) only [rUz,↓reduceIte,reduceEqDiff,reduceAdd,b1,bT pB (dR v)]
 refine bC (fid:=53) (first:=#[]) (captured:=#[]) (Post:=fun u h=>∃ B9,u = trsV B9 ∧ h.bl.get B9 = some (.cells (poV v) B9 false) ∧ Hb.nx ≤ B9 ∧ B9 < h.nx) rfl (hoff _ _ _ rfl) (by simp (disch:=first|omega|simp only [aA,aB]<;>omega|decide) only [rUz,↓reduceIte,reduceEqDiff,reduceAdd]; exact truths_y S Hb v) ?_
 rintro u G hkG ⟨B9,rfl,b9,b9l,b9u⟩
 have nG:=hkG.1
 replace b1:=(hkG.get (by omega)).trans b1
 replace fw0:=(hkG.fget (by omega)).trans fw0
 replace bw0:=(hkG.get (by omega)).trans bw0
 replace b30:=(hkG.get (by omega)).trans b30
 replace k1:=k1.trans hkG
 have hBwG:Bw < G.nx:=by omega
 have hB3G:B3 < G.nx:=by omega
 have hB1G:B1 < G.nx:=by omega
 have hB13:B3 ≠ Bw:=by omega
 have hB11:B1 ≠ Bw:=by omega
 have hBw0:h0.nx ≤ Bw:=by omega
 clear hkG
 simp (disch:=first|omega|simp only [aA,aB]<;>omega|decide) only [rUz,↓reduceIte,reduceEqDiff,reduceAdd]
 repeat refine S.seq ?_
 refine S.block ?_
 refine S.rangeFn (W:=fun j=>j = Bw) (xs:=dW O) (d:=G.nx) (l:=G.nx + 1) (At:=fun x U h az=>∃ b f,az = [.slice (some ⟨b,0,none⟩) x.length x.length] ∧ G.nx + 2 ≤ b ∧ b < h.nx ∧ ¬ U b ∧ h.bl.get b = some (.cells (x.map iv) f false)) (g:=70) (first:=#[]) (captured:=#[bG B9]) (fn:=Tryz.f70) (c:=(Tryz.f70.body).getD .skip) (IBg G Bw v O) (fun _ _ _=>False) (by simp (disch:=first|omega|simp only [aA,aB]<;>omega|decide) only [rUz,↓reduceIte,reduceEqDiff,reduceAdd]; rfl) (by kernel_rfl) rfl rfl rfl ?_ (fun k=>IBg.stable hBwG k) (fun _ _ _ _ _ q _ _=>q) ?_ ?_ ?_ ?_ ?_
 ·intro h2 hk2 hn2
  have hit:=truthsIt S hoff h2 (fun j=>j = Bw ∨ j = G.nx + 1) B9 v O hv ⟨by omega,by omega⟩ ((hk2.get b9u).trans b9) (fun h' o=>xO hp (Nat.le_refl _) (by have:=o.le; have:=k1.1; omega) fun j hj=>(o.get (by have:=k1.1; omega) (by have:=k1.1; omega)).trans ((hk2.get (by have:=k1.1; omega)).trans (k1.get hj)))
  have e:AtT h2 = fun (x:List Int) (U:Nat → Prop) (h:AHeap) (az:List Value)=>∃ b f,az = [.slice (some ⟨b,0,none⟩) x.length x.length] ∧ G.nx + 2 ≤ b ∧ b < h.nx ∧ ¬ U b ∧ h.bl.get b = some (.cells (x.map iv) f false):=by
   funext x U h az
   unfold AtT
   rw [hn2]
  rw [e] at hit
  exact hit
 ·intro h2 hk2 hn2
  refine ⟨by omega,fun j hj=>by omega,fun j hj _=>hk2.2 j hj,nl,[],fun _=>False,(hk2.get hBwG).trans bw0,(hk2.fget hBwG).trans fw0,AppO.nil,rfl,(fun j h=>h.elim),fun i t B _ e=>?_⟩
  simp at e
 ·rintro x _ _ _ ⟨b,f,rfl,_⟩
  kernel_rfl
 ·intro k x U h1 az hxk hat hU i1 ho1 hn1 KA hKA
  obtain ⟨tb,tf,rfl,tb1,tb2,tb3,tb4⟩:=hat
  simp only [iD,aZ,T.setK_eq,id]
  repeat refine S.seq ?_
  refine S.region ?_
  simp (disch:=first|omega|simp only [aA,aB]<;>omega|decide) only [rUz,↓reduceIte,reduceEqDiff,reduceAdd]
  refine hKA _ _ Kp.refl fun hb hbut K' kn _ _=>?_
  have hVu:∀ j,(U j ∨ j = G.nx ∨ j = G.nx + 1) → G.nx ≤ j ∧ j < h1.nx:=fun j hj=>by
   rcases hj with hj|hj|hj
   ·have:=hU j hj; omega
   ·omega
   ·omega
  have ib:=IBg.stable hBwG k _ _ _ _ i1 (hbut.out (.inr (.inr rfl))) fun j _ hj=>hj
  have nb:=hbut.nx
  obtain ⟨cv,ptrs,Ow,e1,e2,e3,e4,e5,e6⟩:=ib.ex
  have gb:∀ j,j < G.nx → j ≠ Bw → hb.bl.get j = G.bl.get j:=fun j hj hn=>(ib.kp j hj hn).1
  have hb1:=(gb B1 hB1G hB11).trans b1
  have hb3:=(gb B3 hB3G hB13).trans b30
  have htr:lV O x = true:=(kY hv).1 x (List.mem_of_getElem? hxk)
  have htru:=tru_of hv htr
  have hpb:PoAt hb v O:=xO hp (Nat.le_refl _) (by have:=k1.1; omega) fun j hj=>(gb j (by have:=k1.1; omega) (by omega)).trans (k1.get hj)
  have htb:IAt hb (.slice (some ⟨tb,0,none⟩) x.length x.length) x:=.inr ⟨tb,_,tf,false,rfl,by omega,(hbut.get (by omega)).trans tb4⟩
  have hcvv:=e3.veq
  repeat refine S.seq ?_
  refine S.block ?_
  repeat refine S.seq ?_
  refine S.drawnL [(false,0),(false,0),(false,2),(false,6),(false,14),(false,0),(false,0),(true,96),(true,224),(true,510),(false,1023),(false,2047),(true,4095)] (by kernel_rfl) (by kernel_rfl) (by kernel_rfl) ?_
  simp (disch:=first|omega|simp only [aA,aB]<;>omega|decide) only [rUz,↓reduceIte,reduceEqDiff,reduceAdd,rDz,infoL,reduceSub,hb3,p88,e1,aC fWk1 lPc,qPc,wk1,hb1,bT pB (dR v)]
  refine dC (fid:=54) (first:=#[]) (captured:=#[]) (Post:=fun u h=>RunAt2 hb.nx O x v u h) rfl (hoff _ _ _ rfl) (by simp (disch:=first|omega|simp only [aA,aB]<;>omega|decide) only [rUz,↓reduceIte,reduceEqDiff,reduceAdd]; exact run_y2 S hoff hb v (.slice (some ⟨tb,0,none⟩) x.length x.length) O x hpb htb hv htru) (Nat.le_of_ble_eq_true rfl) ?_
  rintro u g hkg ⟨Bc,cv2,lf,sv,rfl,c1,c2,c3,c4,c5,c6,c7⟩
  have hng:=hkg.1
  have hb3g:=(hkg.get (by omega:B3 < hb.nx)).trans hb3
  have e1g:=(hkg.get (by omega:Bw < hb.nx)).trans e1
  refine ⟨?_,?_⟩
  ·try simp (disch:=first|decide|rfl) only [aK,aG,aH]
   rw [bF (v:=cv) (by simp (disch:=first|omega|simp only [aA,aB]<;>omega|decide) only [rUz,↓reduceIte,reduceEqDiff,reduceAdd,rDz,infoL,reduceSub,e1g,aC fWk1 lPc,qPc,wk1]) hcvv]
   try simp (disch:=first|decide|rfl) only [aK,aG,aH]
   rw [bF (v:=bG Bw) (by simp (disch:=first|omega|simp only [aA,aB]<;>omega|decide) only [rUz,↓reduceIte,reduceEqDiff,reduceAdd,rDz,infoL,reduceSub,hb3g,p88]) (vC Bw)]
   try simp (disch:=first|decide|rfl) only [aK,aG,aH]
   rw [bF (v:=bG Bw) (by simp (disch:=first|omega|simp only [aA,aB]<;>omega|decide) only [rUz,↓reduceIte,reduceEqDiff,reduceAdd,rDz,infoL,reduceSub,hb3g,p88]) (vC Bw)]
   try simp (disch:=first|decide|rfl) only [aK,aG,aH]
  simp (disch:=first|omega|simp only [aA,aB]<;>omega|decide) only [rUz,↓reduceIte,reduceEqDiff,reduceAdd,rDz,infoL,reduceSub]
  refine jS (qZ slPc sPc zPc rfl (by omega) (u:=bG Bc) (l:=[bG Bc]) (by simp (disch:=first|omega|simp only [aA,aB]<;>omega|decide) only [rUz,↓reduceIte,reduceEqDiff,reduceAdd,rDz,infoL,reduceSub]) rfl rfl) (Nat.le_of_ble_eq_true rfl) ?_ ?_
  ·have hb3x:(g.add [bG Bc]).bl.get B3 = some (.cells [bG Bw] B3 false):=by rw [aW (by omega)]; exact hb3g
   have e1x:(g.add [bG Bc]).bl.get Bw = some (.cells (wkV v cv) Bw false):=by rw [aW (by omega)]; exact e1g
   try simp (disch:=first|decide|rfl) only [aK,aG,aH]
   rw [bF (v:=cv) (by simp (disch:=first|omega|simp only [aA,aB]<;>omega|decide) only [rUz,↓reduceIte,reduceEqDiff,reduceAdd,rDz,infoL,reduceSub,e1x,aC fWk1 lPc,qPc,wk1]) hcvv]
   try simp (disch:=first|decide|rfl) only [aK,aG,aH]
   rw [bF (v:=bG Bw) (by simp (disch:=first|omega|simp only [aA,aB]<;>omega|decide) only [rUz,↓reduceIte,reduceEqDiff,reduceAdd,rDz,infoL,reduceSub,hb3x,p88]) (vC Bw)]
   try simp (disch:=first|decide|rfl) only [aK,aG,aH]
   rw [bF (v:=bG Bw) (by simp (disch:=first|omega|simp only [aA,aB]<;>omega|decide) only [rUz,↓reduceIte,reduceEqDiff,reduceAdd,rDz,infoL,reduceSub,hb3x,p88]) (vC Bw)]
   try simp (disch:=first|decide|rfl) only [aK,aG,aH]
  simp (disch:=first|omega|simp only [aA,aB]<;>omega|decide) only [rUz,↓reduceIte,reduceEqDiff,reduceAdd,rDz,infoL,reduceSub]
  have hkx:Kp hb (g.add [bG Bc]):=hkg.add
  have hkx2:Kp g (g.add [bG Bc]):=Kp.refl.add
  have hb3x:(g.add [bG Bc]).bl.get B3 = some (.cells [bG Bw] B3 false):=by rw [aW (by omega)]; exact hb3g
  have hgx:(g.add [bG Bc]).bl.get g.nx = some (.cells [bG Bc] g.nx false):=aP rfl
  have hnx:(g.add [bG Bc]).nx = g.nx + 1:=rfl
  have e3x:AppO Ow (g.add [bG Bc]) 1 cv (ptrs.map cP):=e3.keep (by omega) fun j hj _=>hkx.2 j hj
  generalize g.add [bG Bc] = gx at hkx hkx2 hb3x hgx hnx e3x ⊢
  have hkl:=(List.getElem?_eq_some_iff.1 hxk).1
  refine drW_appO slPc uPc (v:=cv) (bx:=g.nx) (cx:=1) (c:=[bG Bc]) (by simp (disch:=first|omega|simp only [aA,aB]<;>omega|decide) only [rUz,↓reduceIte,reduceEqDiff,reduceAdd,rDz,infoL,reduceSub]) (by simp (disch:=first|omega|simp only [aA,aB]<;>omega|decide) only [rUz,↓reduceIte,reduceEqDiff,reduceAdd,rDz,infoL,reduceSub]) e3x sPc rfl hgx nPc (by rw [List.length_map]; show _ < 1000000; omega) (Nat.le_of_ble_eq_true rfl) ?_
  intro v7 h7 gr
  have ho7:=gr.le
  have nOw:∀ j,j < G.nx → ¬ Ow j:=fun j hj hq=>by have:=(e5 j hq).2.1; omega
  have hb37:=(gr.kp B3 (by omega) (nOw _ hB3G)).1.trans hb3x
  have e17:=(gr.kp Bw (by omega) (nOw _ hBwG)).1.trans ((hkx.get (by omega)).trans e1)
  have f17:=(gr.kp Bw (by omega) (nOw _ hBwG)).2.trans ((hkx.fget (by omega)).trans e2)
  have hv7:=gr.app.veq
  refine ⟨?_,?_⟩
  ·try simp (disch:=first|decide|rfl) only [aK,aG,aH]
   rw [bF (v:=bG Bw) (by simp (disch:=first|omega|simp only [aA,aB]<;>omega|decide) only [rUz,↓reduceIte,reduceEqDiff,reduceAdd,rDz,infoL,reduceSub,hb37,p88]) (vC Bw)]
   try simp (disch:=first|decide|rfl) only [aK,aG,aH]
  simp (disch:=first|omega|simp only [aA,aB]<;>omega|decide) only [rUz,↓reduceIte,reduceEqDiff,reduceAdd,rDz,infoL,reduceSub,aC fWk1 lPc]
  obtain ⟨n7,m7,k7,rfl,b7l⟩:=gr.blk
  refine fP (jK (B:=Bw) (off:=1) (v:=.slice (some ⟨n7,0,none⟩) m7 k7) (by simp (disch:=first|omega|simp only [aA,aB]<;>omega|decide) only [rUz,↓reduceIte,reduceEqDiff,reduceAdd,rDz,infoL,reduceSub]) (by simp (disch:=first|omega|simp only [aA,aB]<;>omega|decide) only [rUz,↓reduceIte,reduceEqDiff,reduceAdd,rDz,infoL,reduceSub]) lPc' rfl rfl e17 f17 (by show 1 < 2; omega)) ?_ ?_
  ·try simp (disch:=first|decide|rfl) only [aK,aG,aH]
  simp (disch:=first|omega|simp only [aA,aB]<;>omega|decide) only [rUz,↓reduceIte,reduceEqDiff,reduceAdd,rDz,infoL,reduceSub]
  have hset:(wkV v cv).set 1 (.slice (some ⟨n7,0,none⟩) m7 k7) = wkV v (.slice (some ⟨n7,0,none⟩) m7 k7):=rfl
  rw [hset]
  have kpj:∀ j,j < hb.nx → j ≠ Bw → ¬ Ow j → (h7.upd Bw (wkV v (.slice (some ⟨n7,0,none⟩) m7 k7)) Bw).bl.get j = hb.bl.get j ∧ (h7.upd Bw (wkV v (.slice (some ⟨n7,0,none⟩) m7 k7)) Bw).fams.get j = hb.fams.get j:=fun j hj hn ho=>by
   rw [upd_ne _ _ _ hn,bM]
   exact ⟨((gr.kp j (by omega) ho).1).trans (hkx.get hj),((gr.kp j (by omega) ho).2).trans (hkx.fget hj)⟩
  have e5':∀ j,Ow j → ¬ U j ∧ G.nx + 2 ≤ j:=fun j ho=>⟨fun q=>(e5 j ho).1 (.inl q),by
   have h1:=(e5 j ho).1
   have h2:=(e5 j ho).2.1
   have h3:¬ j = G.nx:=fun q=>h1 (.inr (.inl q))
   have h4:¬ j = G.nx + 1:=fun q=>h1 (.inr (.inr q))
   omega⟩
  refine kn _ _ ⟨by show hb.nx ≤ h7.nx; omega,fun j hj hn=>kpj j hj ?_ ?_⟩ ⟨by show G.nx ≤ h7.nx; omega,fun j hj=>(hVu j hj).1,fun j hj hn=>?_,.slice (some ⟨n7,0,none⟩) m7 k7,ptrs ++ [Bc],fun j=>(Ow j ∨ g.nx ≤ j) ∧ j < h7.nx,aO _ _ _,by rw [bM]; exact f17,?_,by rw [List.length_append,e4]; rfl,?_,?_⟩
  ·rcases hn with hn|hn
   ·have:=hVu j hn; omega
   ·exact hn.2
  ·intro ho
   rcases hn with hn|hn
   ·exact (e5 j ho).1 hn
   ·exact nOw j hn.1 ho
  ·have q1:=kpj j (by omega) hn (nOw j hj)
   have q2:=ib.kp j hj hn
   exact ⟨q1.1.trans q2.1,q1.2.trans q2.2⟩
  ·rw [List.map_append]
   have a1:=gr.app.weak (Ow':=fun j=>(Ow j ∨ g.nx ≤ j) ∧ j < h7.nx) fun j hj ho=>⟨by rcases ho with ho|ho; exact .inl ho; exact .inr (by omega),hj⟩
   refine a1.keep (Nat.le_refl _) fun j hj ho=>?_
   have hjw:j ≠ Bw:=by
    rcases ho.1 with ho|ho
    ·have:=e5' j ho; omega
    ·omega
   rw [upd_ne _ _ _ hjw,bM]
   exact ⟨rfl,rfl⟩
  ·intro j ⟨ho,hj⟩
   rcases ho with ho|ho
   ·exact ⟨(e5 j ho).1,(e5 j ho).2.1,hj⟩
   ·exact ⟨fun q=>by have:=hVu j q; omega,by omega,hj⟩
  ·intro i t B hi hB
   by_cases hik:i < ptrs.length
   ·rw [List.getElem?_append_left hik] at hB
    refine (e6 i t B hi hB).keep (by show hb.nx ≤ h7.nx; omega) (fun j hj hn=>?_) fun j hj hq=>?_
    ·by_cases hjw:j = Bw
     ·exact absurd (.inr (.inr (by omega))) hn
     ·exact (kpj j hj hjw fun q=>hn (.inr (.inl q))).1
    ·rcases hq with hq|hq|hq
     ·exact .inl hq
     ·rcases hq.1 with ho|ho
      ·exact .inr (.inl ho)
      ·omega
     ·exact .inr (.inr hq)
   ·have hlt:=(List.getElem?_eq_some_iff.1 hB).1
    rw [List.length_append] at hlt
    have hik2:i = ptrs.length:=by have:i < ptrs.length + 1:=hlt; omega
    subst hik2
    rw [List.getElem?_append_right (Nat.le_refl _),Nat.sub_self] at hB
    obtain rfl:Bc = B:=by simpa using hB
    rw [e4,hxk] at hi
    obtain rfl:x = t:=by simpa using hi
    have kpx:∀ j,hb.nx ≤ j → j < g.nx → (h7.upd Bw (wkV v (.slice (some ⟨n7,0,none⟩) m7 k7)) Bw).bl.get j = g.bl.get j:=fun j p1 p2=>by
     rw [upd_ne _ _ _ (by omega)]
     exact ((gr.kp j (by omega) fun q=>by have:=(e5 j q).2.2; omega).1).trans (hkx2.get p2)
    have hnq:∀ j,hb.nx ≤ j → j < g.nx → ¬ ((U j ∨ j = G.nx ∨ j = G.nx + 1) ∨ ((Ow j ∨ g.nx ≤ j) ∧ j < h7.nx) ∨ j < G.nx):=fun j p1 p2 q=>by
     rcases q with q|⟨q|q,_⟩|q
     ·have:=hVu j q; omega
     ·have:=(e5 j q).2.2; omega
     ·omega
     ·omega
    have hbl:=fun b (hb':blk sv = some b)=>(⟨c7 b hb',blk_lt c3 hb'⟩:hb.nx ≤ b ∧ b < g.nx)
    exact ⟨cv2,lf,sv,(kpx Bc c6 c4).trans c1,c2,slAt_ne c3 (by show g.nx ≤ h7.nx; omega) (fun j hj hjn=>kpx j (hbl j hj).1 hjn),c5,by show Bc < h7.nx; omega,hnq Bc c6 c4,fun b hb'=>⟨hnq b (hbl b hb').1 (hbl b hb').2,by have:=(hbl b hb').2; show b < h7.nx; omega⟩⟩
 ·intro U h1 i1 ho hd1 hd
  simp only [jR,fM]
  obtain ⟨cv,ptrs,Ow,e1,e2,e3,e4,e5,e6⟩:=i1.ex
  have hb3:=(i1.kp B3 hB3G hB13).1.trans b30
  repeat refine S.seq ?_
  refine S.region ?_
  simp (disch:=first|omega|simp only [aA,aB]<;>omega|decide) only [rUz,↓reduceIte,reduceEqDiff,reduceAdd,hb3,p88]
  refine S.ret ?_
  try simp only [aJ,aF]
  subst hF
  simp only [finish]
  rw [rE (hd)]
  rw [show Tryz.f46.results.toList = [.tmp 2] from rfl]
  simp (disch:=first|omega|simp only [aA,aB]<;>omega|decide) only [bK,aY,aS,aT,aQ,aU,aO,upd_ne,aP,aW,result1]
  have hle:=i1.le
  have oF:Out (fun j=>j = G.nx) h1 (h1.setm G.nx (.deferred false)):=xR rfl
  refine hK _ _ ⟨by have:=k1.1; show h0.nx ≤ h1.nx; omega,fun j hj=>?_⟩ ⟨Bw,rfl,hBw0,cv,ptrs,(oF.get (by omega) (by omega)).trans e1,by show Bw < h1.nx; omega,?_,e4,fun i t B a b=>?_⟩
  ·have hjG:j < G.nx:=by have:=k1.1; omega
   have q1:=i1.kp j hjG (by omega)
   exact ⟨(oF.get (by omega) (by omega)).trans (q1.1.trans (k1.get hj)),(oF.fget (by omega) (by omega)).trans (q1.2.trans (k1.fget hj))⟩
  ·exact slAt_ne e3.at (Nat.le_refl _) fun j hj hjn=>oF.get hjn fun q=>(e5 j (e3.ow hj)).1 (.inr (.inl q))
  ·refine (e6 i t B a b).keep (Nat.le_refl _) (fun j hj hn=>oF.get hj fun q=>hn (.inl (.inr (.inl q)))) fun j _ q=>q.elim
 ·intro e U h1 q
  exact q.elim
end Go.Proofs.Po

/- What is asked of all sales of a course, for each order. -/
namespace Go.Proofs.Po
open Nat (reduceEqDiff reduceAdd reduceSub)
open Go Go.Ev Go.RowKit
set_option linter.unusedSimpArgs false
variable {pr:Prim} {R:ExT}
def fqZ (q:Sa → Int) (w:Int):List Sa → Int
 | []=>0
 | s :: l=>(bif hitB s w then q s else 0) + fqZ q w l
theorem fqZ_snoc (q:Sa → Int) (w:Int) (s:Sa):∀ l,fqZ q w (l ++ [s]) = fqZ q w l + bif hitB s w then q s else 0
 | []=>by simp [fqZ]
 | x :: l=>by simp only [List.cons_append,fqZ,fqZ_snoc q w s l]; omega
theorem fqZ_n (w:Int):∀ l,fqZ (fun s=>s.nu) w l = fnZ w l
 | []=>rfl
 | s :: l=>by simp only [fqZ,fnZ,fqZ_n w l]
theorem fqZ_bnd {q:Sa → Int} (w:Int):∀ l:List Sa,(∀ s,s ∈ l → 0 ≤ q s ∧ q s ≤ 2000) → 0 ≤ fqZ q w l ∧ fqZ q w l ≤ 2000 * (l.length:Int)
 | [],_=>by simp [fqZ]
 | s :: l,h=>by
  have ih:=fqZ_bnd w l fun x hx=>h x (by simp [hx])
  have hs:=h s (by simp)
  rw [List.length_cons]
  unfold fqZ
  cases hitB s w with
  | true=>rw [cond_true]; omega
  | false=>rw [cond_false]; omega
/-- The sums for all orders. -/
def arrQ (q:Sa → Int) (l:List Sa):List Int:=(List.range 6).map fun (j:Nat)=>fqZ q (j:Int) l
def tZ (q:Sa → Int) (l:List Sa) (b e:Nat) (s:Sa) (k:Nat):List Int:=(List.range 6).map fun (j:Nat)=>fqZ q (j:Int) l + ((bif decide (1 ≤ k) && decide (b = j) then q s else 0) + bif decide (2 ≤ k) && decide (e = j) then q s else 0)
theorem xU (q:Sa → Int) (l:List Sa):(arrQ q l).length = 6:=by unfold arrQ; rw [List.length_map,List.length_range]
theorem qA (q:Sa → Int) (l:List Sa) (b e:Nat) (s:Sa) (k:Nat):(tZ q l b e s k).length = 6:=by unfold tZ; rw [List.length_map,List.length_range]
theorem xW (q:Sa → Int) (l:List Sa) {j:Nat} (hj:j < 6):lg (arrQ q l) j = fqZ q (j:Int) l:=by
 unfold lg arrQ
 rw [List.getD_eq_getElem?_getD,List.getElem?_map,List.getElem?_range hj]; rfl
theorem qB (q:Sa → Int) (l:List Sa) (b e:Nat) (s:Sa) (k:Nat) {j:Nat} (hj:j < 6):lg (tZ q l b e s k) j = fqZ q (j:Int) l + ((bif decide (1 ≤ k) && decide (b = j) then q s else 0) + bif decide (2 ≤ k) && decide (e = j) then q s else 0):=by
 unfold lg tZ
 rw [List.getD_eq_getElem?_getD,List.getElem?_map,List.getElem?_range hj]; rfl
theorem arrP_0 (q:Sa → Int) (l:List Sa) (b e:Nat) (s:Sa):tZ q l b e s 0 = arrQ q l:=by
 refine ext_lg (qA _ _ _ _ _ _) (xU _ _) fun j hj=>?_
 rw [qB _ _ _ _ _ _ hj,xW _ _ hj]
 simp
theorem arrP_2 {q:Sa → Int} {l:List Sa} {b e:Nat} {s:Sa} (hb:s.bu = (b:Int)) (he:s.se = (e:Int)) (hne:b ≠ e):tZ q l b e s 2 = arrQ q (l ++ [s]):=by
 refine ext_lg (qA _ _ _ _ _ _) (xU _ _) fun j hj=>?_
 rw [qB _ _ _ _ _ _ hj,xW _ _ hj,fqZ_snoc,decide_eq_true (by omega:1 ≤ 2),decide_eq_true (by omega:2 ≤ 2),Bool.true_and,Bool.true_and]
 congr 1
 unfold hitB
 rw [hb,he]
 by_cases h1:b = j
 ·rw [decide_eq_true h1,decide_eq_true (by omega:(b:Int) = (j:Int)),decide_eq_false (by omega:¬ e = j),Bool.true_or]; simp
 ·by_cases h2:e = j
  ·rw [decide_eq_false h1,decide_eq_true h2,decide_eq_true (by omega:(e:Int) = (j:Int)),Bool.or_true]; simp
  ·rw [decide_eq_false h1,decide_eq_false h2,decide_eq_false (by omega:¬ (b:Int) = (j:Int)),decide_eq_false (by omega:¬ (e:Int) = (j:Int))]; rfl
theorem arrP_step {q:Sa → Int} {l:List Sa} {b e:Nat} {s:Sa} {k:Nat} (hk:k < 2) (hb:b < 6) (he:e < 6) (hne:b ≠ e) :
  (tZ q l b e s k).set (jSd b e k) (lg (tZ q l b e s k) (jSd b e k) + q s) = tZ q l b e s (k + 1):=by
 have hj:=jSd_lt hb he k
 refine ext_lg (by rw [List.length_set,qA]) (qA _ _ _ _ _ _) fun j hj6=>?_
 rw [lg_set (by rw [qA]; exact hj),qB _ _ _ _ _ _ hj6,qB _ _ _ _ _ _ hj6,qB _ _ _ _ _ _ hj]
 have hk':k = 0 ∨ k = 1:=by omega
 rcases hk' with rfl|rfl
 ·show (if b = j then _ else _) = _
  by_cases h1:b = j
  ·subst h1
   rw [if_pos rfl]
   simp [jSd,hne]
  ·rw [if_neg h1]
   simp [h1]
 ·show (if e = j then _ else _) = _
  by_cases h1:e = j
  ·subst h1
   rw [if_pos rfl]
   simp [jSd,hne]
  ·rw [if_neg h1]
   simp [h1]
theorem ixN0 {B j:Nat} (hj:j < 6):bY Tryz.prog 112 (bG B) (iv (j:Int)) = some (.pointer (some ⟨B,j,none⟩)):=by
 rw [oZ aN s3' hj,Nat.mul_one,Nat.zero_add]
def z6v:List Value:=[iv 0,iv 0,iv 0,iv 0,iv 0,iv 0]
structure ISu (q:Sa → Int) (L:List Sa) (H:AHeap) (B4 B5:Nat) (sv fv:Value) (k:Nat) (t:T Value) (h:AHeap):Prop where
 fr:Fr H B5 h
 b5:h.bl.get B5 = some (.cells ((arrQ q (L.take k)).map iv) B5 false)
 t1:tget t 1 = fv
 t4:tget t 4 = bG B4
 t5:tget t 5 = bG B5
 t13:tget t 13 = sv
 t14:tget t 14 = iv (L.length:Int)
 t15:tget t 15 = iv (k:Int)
 hk:k ≤ L.length
structure ISv (q:Sa → Int) (L:List Sa) (b e:Nat) (s:Sa) (H H2:AHeap) (B4 B5 B7:Nat) (sv fv:Value) (kk:Nat) (k:Nat) (t:T Value) (h:AHeap):Prop where
 fr:Fr H B5 h
 fr2:Fr H2 B5 h
 b5:h.bl.get B5 = some (.cells ((tZ q (L.take kk) b e s k).map iv) B5 false)
 t1:tget t 1 = fv
 t4:tget t 4 = bG B4
 t5:tget t 5 = bG B5
 t7:tget t 7 = bG B7
 t13:tget t 13 = sv
 t14:tget t 14 = iv (L.length:Int)
 t15:tget t 15 = iv (kk:Int)
 t19:tget t 19 = .agg ⟨sdV⟩
 t20:tget t 20 = iv (k:Int)
 hk:k ≤ 2
theorem veq_sa (s:Sa):veq (.agg ⟨cSa s⟩) (.agg ⟨cSa s⟩) = true:=by
 simp only [cSa,veq,veqA,veqL,beqKind,uS,decide_true,Bool.and_self]
theorem sums_y (S:Ev.Steps Tryz.prog pr R) (hoff:Off pr) (h0:AHeap) (Bc:Nat) (v cv:Value) (lf:List Int) (sv:Value) (O:List Od) (h6:O.length ≤ 6) (L:List Sa) (hcl:Bc < h0.nx) (hc:h0.bl.get Bc = some (.cells (crV v cv lf sv) Bc false)) (hlf:lf.length = 6) (hs:SlAt h0 4 sv (L.map cSa)) (hL:L.length ≤ 6) (hso:∀ s,s ∈ L → SaleOk O s)
  (q:Sa → Int) (hq2:∀ s,s ∈ L → 0 ≤ q s ∧ q s ≤ 2000) (G:FuncId) (hG:offB G = true) (hq:∀ h' s,s ∈ L → bD Tryz.prog R G [.agg ⟨cSa s⟩] h' fun u _=>u = iv (q s)) :
  bD Tryz.prog R 68 [bG Bc,.func (.func G) #[] #[]] h0 fun u _=>u = .agg ⟨(arrQ q L).map iv⟩:=by
 have hlen:=fun t h1 o=>dQ hs iscS t h1 o
 refine aV (fn:=Tryz.f68) (c:=(Tryz.f68.body).getD .skip) (by kernel_rfl) rfl (by kernel_rfl) rfl (fun K hK=>?_)
 generalize hF:finish Tryz.prog Tryz.f68 K = KF
 simp only [Tryz.f68,Option.getD_some,bJ,aX,aZ,T.setK_eq,id]
 repeat refine S.seq ?_
 refine S.region ?_
 simp (disch:=first|omega|simp only [aA,aB]<;>omega|decide) only [rUz,↓reduceIte,reduceEqDiff,reduceAdd,cO zN]
 repeat refine S.seq ?_
 refine S.region ?_
 simp (disch:=first|omega|simp only [aA,aB]<;>omega|decide) only [rUz,↓reduceIte,reduceEqDiff,reduceAdd,cO zN]
 obtain ⟨B4,hB4⟩:∃ x,x = h0.nx:=⟨_,rfl⟩
 obtain ⟨B5,hB5⟩:∃ x,x = h0.nx + 1:=⟨_,rfl⟩
 have b4:((h0.add z6v).add z6v).bl.get B4 = some (.cells z6v B4 false):=by rw [aW (by show B4 ≠ h0.nx + 1; omega)]; subst hB4; exact aP rfl
 have f4:((h0.add z6v).add z6v).fams.get B4 = some [B4]:=by rw [nD (by show B4 ≠ h0.nx + 1; omega)]; subst hB4; exact dL rfl
 have b5:((h0.add z6v).add z6v).bl.get B5 = some (.cells z6v B5 false):=by subst hB5; exact aP rfl
 have f5:((h0.add z6v).add z6v).fams.get B5 = some [B5]:=by subst hB5; exact dL rfl
 have k0:Kp h0 ((h0.add z6v).add z6v):=Kp.refl.add.add
 have n0:((h0.add z6v).add z6v).nx = h0.nx + 2:=rfl
 change R _ _ _ _ ((h0.add z6v).add z6v) _ _ = true
 rw [← hB5,← hB4]
 generalize (h0.add z6v).add z6v = H at b4 f4 b5 f5 k0 n0 ⊢
 have hcH:=(k0.get hcl).trans hc
 have hsH:=SlAt.mono hs k0
 repeat refine S.seq ?_
 refine S.region ?_
 simp (disch:=first|omega|simp only [aA,aB]<;>omega|decide) only [rUz,↓reduceIte,reduceEqDiff,reduceAdd,hcH,aC fC3 lcS,qcS,cr8 hlf,hlen]
 repeat refine S.seq ?_
 refine S.block ?_
 refine S.loop (ι:=Nat) (ISu q L H B4 B5 sv (.func (.func G) #[] #[])) (fun k=>L.length - k) ?_ 0 _ _ ?_
 rotate_left
 ·refine ⟨Fr.refl,b5,?_,?_,?_,?_,?_,?_,Nat.zero_le _⟩
  all_goals (first|rfl|(simp (disch:=first|omega|simp only [aA,aB]<;>omega|decide) only [rUz,↓reduceIte,reduceEqDiff,reduceAdd]<;>rfl))
 clear b5
 intro k t h ⟨fr,b5,t1,t4,t5,t13,t14,t15,hk⟩ K' hn he
 have hle:=fr.le
 repeat refine S.seq ?_
 refine S.region ?_
 simp (disch:=first|omega|simp only [aA,aB]<;>omega|decide) only [rUz,↓reduceIte,reduceEqDiff,reduceAdd,t14,t15]
 repeat refine S.seq ?_
 refine S.cond (v:=decide ((k:Int) < (L.length:Int))) (by first|rfl|(simp (disch:=first|omega|simp only [aA,aB]<;>omega|decide) only [rUz,↓reduceIte,reduceEqDiff,reduceAdd]<;>rfl)) (fun e=>?_) (fun e=>?_)
 ·have hkn:k < L.length:=by have:=of_decide_eq_true e; omega
  clear e
  have hps:L[k]? = some L[k]:=List.getElem?_eq_getElem hkn
  have hmem:L[k] ∈ L:=List.getElem_mem hkn
  have htk:L.take (k + 1) = L.take k ++ [L[k]]:=by rw [List.take_add_one,hps]; rfl
  generalize L[k] = s at hps hmem htk
  obtain ⟨b,e,hb,he',hb1,he1,sb,se,_⟩:=hso s hmem
  have hne:b ≠ e:=by rintro rfl; rw [sb] at se; cases se
  have hsh:SlAt h 4 sv (L.map cSa):=slAt_ne hsH hle fun j hj hjn=>fr.bl j hjn (by have:=blk_lt hs hj; omega)
  obtain ⟨rb,rf,ro,cells,r1,r2,r3,r4,r5,_⟩:=dM hsh slcS scS hps
  have rp:=gQ pcS r4 r5
  repeat refine S.seq ?_
  refine S.skip ?_
  simp (disch:=first|omega|simp only [aA,aB]<;>omega|decide) only [rUz,↓reduceIte,reduceEqDiff,reduceAdd]
  repeat refine S.seq ?_
  refine S.block ?_
  repeat refine S.seq ?_
  refine S.region ?_
  simp (disch:=first|omega|simp only [aA,aB]<;>omega|decide) only [rUz,↓reduceIte,reduceEqDiff,reduceAdd,t13,t15,r1,r3,rp,cO zcS]
  refine dF (B:=h.nx) (c:=[iv 0,iv 0,iv 0,iv 0]) (fam:=h.nx) (k:=h.nx) (l:=cSa s) (by simp (disch:=first|omega|simp only [aA,aB]<;>omega|decide) only [rUz,↓reduceIte,reduceEqDiff,reduceAdd]) (by simp (disch:=first|omega|simp only [aA,aB]<;>omega|decide) only [rUz,↓reduceIte,reduceEqDiff,reduceAdd]) scS (by omega) rfl (aP rfl) (dL rfl) rfl ?_
  have hk4:Kp h ((h.add [iv 0,iv 0,iv 0,iv 0]).upd h.nx (cSa s) h.nx):=Kp.refl.add.upd (Nat.le_refl _)
  have hg4:((h.add [iv 0,iv 0,iv 0,iv 0]).upd h.nx (cSa s) h.nx).bl.get h.nx = some (.cells (cSa s) h.nx false):=aO _ _ _
  have hn4:h.nx < ((h.add [iv 0,iv 0,iv 0,iv 0]).upd h.nx (cSa s) h.nx).nx:=Nat.lt_succ_self _
  simp (disch:=first|omega|simp only [aA,aB]<;>omega|decide) only [rUz,↓reduceIte,reduceEqDiff,reduceAdd]
  obtain ⟨B7,hB7⟩:∃ x,x = h.nx:=⟨_,rfl⟩
  rw [← hB7] at hk4 hg4 hn4 ⊢
  generalize (h.add [iv 0,iv 0,iv 0,iv 0]).upd B7 (cSa s) B7 = H2 at hk4 hg4 hn4 ⊢
  have b5H:H2.bl.get B5 = some (.cells ((tZ q (L.take k) b e s 0).map iv) B5 false):=by rw [arrP_0]; exact (hk4.get (by omega)).trans b5
  repeat refine S.seq ?_
  refine S.region ?_
  simp (disch:=first|omega|simp only [aA,aB]<;>omega|decide) only [rUz,↓reduceIte,reduceEqDiff,reduceAdd]
  refine bC (fid:=91) (first:=#[]) (captured:=#[]) (Post:=fun u _=>u = .agg ⟨sdV⟩) rfl (hoff _ _ _ rfl) (by simp (disch:=first|omega|simp only [aA,aB]<;>omega|decide) only [rUz,↓reduceIte,reduceEqDiff,reduceAdd]; exact sides_y S H2) ?_
  rintro u g hkg rfl
  simp (disch:=first|omega|simp only [aA,aB]<;>omega|decide) only [rUz,↓reduceIte,reduceEqDiff,reduceAdd]
  repeat refine S.seq ?_
  refine S.block ?_
  refine S.loop (ι:=Nat) (ISv q L b e s H H2 B4 B5 B7 sv (.func (.func G) #[] #[]) k) (fun k=>2 - k) ?_ 0 _ _ ?_
  rotate_left
  ·refine ⟨(fr.kp hk4).kp hkg,Fr.refl.kp hkg,(hkg.get (by have:=hk4.1; omega)).trans b5H,?_,?_,?_,?_,?_,?_,?_,?_,?_,Nat.zero_le _⟩
   all_goals (first|rfl|(simp (disch:=first|omega|simp only [aA,aB]<;>omega|decide) only [rUz,↓reduceIte,reduceEqDiff,reduceAdd,t1,t4,t5,t13,t14,t15]<;>rfl))
  clear b5H hkg
  intro i t h ⟨fri,fr2,b5,t1,t4,t5,t7,t13,t14,t15,t19,t20,hi⟩ K'' hn2 he2
  have hlei:=fri.le
  have hle2:=fr2.le
  have hle4:=hk4.1
  repeat refine S.seq ?_
  refine S.region ?_
  simp (disch:=first|omega|simp only [aA,aB]<;>omega|decide) only [rUz,↓reduceIte,reduceEqDiff,reduceAdd,t20]
  repeat refine S.seq ?_
  refine S.cond (v:=decide ((i:Int) < 2)) (by first|rfl|(simp (disch:=first|omega|simp only [aA,aB]<;>omega|decide) only [rUz,↓reduceIte,reduceEqDiff,reduceAdd]<;>rfl)) (fun e=>?_) (fun e=>?_)
  ·have hi2:i < 2:=by have:=of_decide_eq_true e; omega
   clear e
   have hj:=jSd_lt (by omega:b < 6) (by omega:e < 6) i
   have gix:=ixSd hi2
   have hst:=arrP_step (q:=q) (l:=L.take k) (s:=s) hi2 (by omega:b < 6) (by omega:e < 6) hne
   have hal:=qA q (L.take k) b e s i
   have hag:((tZ q (L.take k) b e s i).map iv)[jSd b e i]? = some (iv (lg (tZ q (L.take k) b e s i) (jSd b e i))):=by rw [List.getElem?_map,lg_get (by rw [hal]; exact hj)]; rfl
   have hbnd:0 ≤ lg (tZ q (L.take k) b e s i) (jSd b e i) ∧ lg (tZ q (L.take k) b e s i) (jSd b e i) ≤ 20000:=by
    rw [qB _ _ _ _ _ _ hj]
    have h1:=fqZ_bnd (q:=q) ((jSd b e i:Nat):Int) (L.take k) fun x hx=>hq2 x (List.mem_of_mem_take hx)
    have h2:=hq2 s hmem
    have h3:(L.take k).length ≤ 6:=by rw [List.length_take]; omega
    cases decide (1 ≤ i) && decide (b = jSd b e i)<;>cases decide (2 ≤ i) && decide (e = jSd b e i)<;>simp only [cond_true,cond_false]<;>omega
   have hqs:=hq2 s hmem
   repeat refine S.seq ?_
   refine S.skip ?_
   simp (disch:=first|omega|simp only [aA,aB]<;>omega|decide) only [rUz,↓reduceIte,reduceEqDiff,reduceAdd]
   repeat refine S.seq ?_
   refine S.block ?_
   repeat refine S.seq ?_
   refine S.region ?_
   simp (disch:=first|omega|simp only [aA,aB]<;>omega|decide) only [rUz,↓reduceIte,reduceEqDiff,reduceAdd,t19,t20,rd_index,gix,cO zSd]
   refine dF (B:=h.nx) (c:=[.nilFunc]) (fam:=h.nx) (k:=h.nx) (l:=[.func (.func (gSd i)) #[] #[]]) (by simp (disch:=first|omega|simp only [aA,aB]<;>omega|decide) only [rUz,↓reduceIte,reduceEqDiff,reduceAdd]) (by simp (disch:=first|omega|simp only [aA,aB]<;>omega|decide) only [rUz,↓reduceIte,reduceEqDiff,reduceAdd]) sSd (by omega) rfl (aP rfl) (dL rfl) rfl ?_
   have hk5:Kp h ((h.add [.nilFunc]).upd h.nx [.func (.func (gSd i)) #[] #[]] h.nx):=Kp.refl.add.upd (Nat.le_refl _)
   have hg5:((h.add [.nilFunc]).upd h.nx [.func (.func (gSd i)) #[] #[]] h.nx).bl.get h.nx = some (.cells [.func (.func (gSd i)) #[] #[]] h.nx false):=aO _ _ _
   simp (disch:=first|omega|simp only [aA,aB]<;>omega|decide) only [rUz,↓reduceIte,reduceEqDiff,reduceAdd]
   generalize (h.add [.nilFunc]).upd h.nx [.func (.func (gSd i)) #[] #[]] h.nx = g4 at hk5 hg5 ⊢
   have hb5:=(hk5.get (by omega:B5 < h.nx)).trans b5
   have hg7:=(hk5.get (by omega:B7 < h.nx)).trans ((fr2.bl B7 hn4 (by omega)).trans hg4)
   have hf5':=(hk5.fget (by omega:B5 < h.nx)).trans ((fri.fam B5 (by omega)).trans f5)
   have hn5:=hk5.1
   generalize h.nx = B9 at hg5 ⊢
   repeat refine S.seq ?_
   refine S.drawnL [(false,0),(false,1),(false,0),(true,7),(false,15),(false,31),(false,0),(false,0),(true,207),(false,511),(false,1023),(true,2047)] (by kernel_rfl) (by kernel_rfl) (by kernel_rfl) ?_
   simp (disch:=first|omega|simp only [aA,aB]<;>omega|decide) only [rUz,↓reduceIte,reduceEqDiff,reduceAdd,rDz,infoL,reduceSub,t1,t5,t7,hg5,aC fSd0 lFn,qFn,List.getElem?_cons_zero,hg7,bT pcS (jL s)]
   refine dH rfl ?_
   simp (disch:=first|omega|simp only [aA,aB]<;>omega|decide) only [rUz,↓reduceIte,reduceEqDiff,reduceAdd,rDz,infoL,reduceSub,t1,t7,hg7,bT pcS (jL s)]
   refine dH rfl ?_
   simp (disch:=first|omega|simp only [aA,aB]<;>omega|decide) only [rUz,↓reduceIte,reduceEqDiff,reduceAdd,rDz,infoL,reduceSub,t1,t7,hg7,bT pcS (jL s)]
   refine dC (fid:=gSd i) (first:=#[]) (captured:=#[]) (Post:=fun u h=>u = iv ((jSd b e i:Nat):Int) ∧ h = g4.add (cSa s)) (by simp (disch:=first|omega|simp only [aA,aB]<;>omega|decide) only [rUz,↓reduceIte,reduceEqDiff,reduceAdd,rDz,infoL,reduceSub]) (hoff _ _ _ (offSd i)) (by simp (disch:=first|omega|simp only [aA,aB]<;>omega|decide) only [rUz,↓reduceIte,reduceEqDiff,reduceAdd,rDz,infoL,reduceSub]; exact sd_y S g4 s b e hb he' hi2) (Nat.le_of_ble_eq_true rfl) ?_
   rintro u g5 hk6 ⟨rfl,-⟩
   have hg75:=(hk6.get (by omega:B7 < g4.nx)).trans hg7
   have hb55:=(hk6.get (by omega:B5 < g4.nx)).trans hb5
   have hf55:=(hk6.fget (by omega:B5 < g4.nx)).trans hf5'
   have hn6:=hk6.1
   refine ⟨?_,?_⟩
   ·try simp (disch:=first|decide|rfl) only [aK,aG,aH]
    rw [bF (v:=.agg ⟨cSa s⟩) (by simp (disch:=first|omega|simp only [aA,aB]<;>omega|decide) only [rUz,↓reduceIte,reduceEqDiff,reduceAdd,rDz,infoL,reduceSub,t7,hg75,bT pcS (jL s)]) (veq_sa s)]
    try simp (disch:=first|decide|rfl) only [aK,aG,aH]
   simp (disch:=first|omega|simp only [aA,aB]<;>omega|decide) only [rUz,↓reduceIte,reduceEqDiff,reduceAdd,rDz,infoL,reduceSub,t5,ixN0 hj,hb55,p3,hag]
   refine dC (fid:=G) (first:=#[]) (captured:=#[]) (Post:=fun u _=>u = iv (q s)) (by simp (disch:=first|omega|simp only [aA,aB]<;>omega|decide) only [rUz,↓reduceIte,reduceEqDiff,reduceAdd,rDz,infoL,reduceSub]) (hoff _ _ _ hG) (by simp (disch:=first|omega|simp only [aA,aB]<;>omega|decide) only [rUz,↓reduceIte,reduceEqDiff,reduceAdd,rDz,infoL,reduceSub]; exact hq g5 s hmem) (Nat.le_of_ble_eq_true rfl) ?_
   rintro u g6 hk7 rfl
   have hb56:=(hk7.get (by omega:B5 < g5.nx)).trans hb55
   have hf56:=(hk7.fget (by omega:B5 < g5.nx)).trans hf55
   refine ⟨?_,?_⟩
   ·try simp (disch:=first|decide|rfl) only [aK,aG,aH]
    rw [bF (v:=iv (lg (tZ q (L.take k) b e s i) (jSd b e i))) (by simp (disch:=first|omega|simp only [aA,aB]<;>omega|decide) only [rUz,↓reduceIte,reduceEqDiff,reduceAdd,rDz,infoL,reduceSub,hb56,p3,hag]) fU]
    try simp (disch:=first|decide|rfl) only [aK,aG,aH]
   simp (disch:=first|omega|simp only [aA,aB]<;>omega|decide) only [rUz,↓reduceIte,reduceEqDiff,reduceAdd,rDz,infoL,reduceSub,t5,ixN0 hj]
   refine fP (jK (B:=B5) (off:=jSd b e i) (v:=iv (lg (tZ q (L.take k) b e s i) (jSd b e i) + q s)) (by simp (disch:=first|omega|simp only [aA,aB]<;>omega|decide) only [rUz,↓reduceIte,reduceEqDiff,reduceAdd,rDz,infoL,reduceSub]) (by simp (disch:=first|omega|simp only [aA,aB]<;>omega|decide) only [rUz,↓reduceIte,reduceEqDiff,reduceAdd,rDz,infoL,reduceSub]) s3' rfl rfl hb56 hf56 (by rw [List.length_map,hal]; exact hj)) ?_ ?_
   ·try simp (disch:=first|decide|rfl) only [aK,aG,aH]
   rw [← List.map_set,hst]
   simp (disch:=first|omega|simp only [aA,aB]<;>omega|decide) only [rUz,↓reduceIte,reduceEqDiff,reduceAdd,rDz,infoL,reduceSub]
   repeat refine S.seq ?_
   refine S.region ?_
   simp (disch:=first|omega|simp only [aA,aB]<;>omega|decide) only [rUz,↓reduceIte,reduceEqDiff,reduceAdd,t20]
   have hkk:=(hk5.trans hk6).trans hk7
   refine hn2 (i + 1) _ _ (by omega) ⟨(fri.kp hkk).upd,(fr2.kp hkk).upd,aO _ _ _,?_,?_,?_,?_,?_,?_,?_,?_,?_,by omega⟩
   all_goals (first|rfl|(simp (disch:=first|omega|simp only [aA,aB]<;>omega|decide) only [rUz,↓reduceIte,reduceEqDiff,reduceAdd,t1,t4,t5,t7,t13,t14,t15,t19]<;>rfl))
  have hin:i = 2:=by have:=of_decide_eq_false e; omega
  subst hin
  rw [arrP_2 hb he' hne,← htk] at b5
  refine S.exit (he2 _ _ _ _ (fun e=>by cases e) ?_)
  simp (disch:=first|omega|simp only [aA,aB]<;>omega|decide) only [rUz,↓reduceIte,reduceEqDiff,reduceAdd]
  repeat refine S.seq ?_
  refine S.region ?_
  simp (disch:=first|omega|simp only [aA,aB]<;>omega|decide) only [rUz,↓reduceIte,reduceEqDiff,reduceAdd,t15]
  refine hn (k + 1) _ _ (by omega) ⟨fri,b5,?_,?_,?_,?_,?_,?_,by omega⟩
  all_goals (first|rfl|(simp (disch:=first|omega|simp only [aA,aB]<;>omega|decide) only [rUz,↓reduceIte,reduceEqDiff,reduceAdd,t1,t4,t5,t13,t14]<;>rfl))
 have hkn:k = L.length:=by have:=of_decide_eq_false e; omega
 subst hkn
 rw [List.take_of_length_le (Nat.le_refl _)] at b5
 refine S.exit (he _ _ _ _ (fun e=>by cases e) ?_)
 simp (disch:=first|omega|simp only [aA,aB]<;>omega|decide) only [rUz,↓reduceIte,reduceEqDiff,reduceAdd]
 have hal:((arrQ q L).map iv).length = 6:=by rw [List.length_map,xU]
 have b4h:=(fr.bl B4 (by omega) (by omega)).trans b4
 have f4h:=(fr.fam B4 (by omega)).trans f4
 repeat refine S.seq ?_
 refine S.region ?_
 simp (disch:=first|omega|simp only [aA,aB]<;>omega|decide) only [rUz,↓reduceIte,reduceEqDiff,reduceAdd,t5,b5,bT pN hal]
 refine dF (B:=B4) (c:=z6v) (fam:=B4) (k:=B4) (l:=(arrQ q L).map iv) (by simp (disch:=first|omega|simp only [aA,aB]<;>omega|decide) only [rUz,↓reduceIte,reduceEqDiff,reduceAdd,t4]) (by simp (disch:=first|omega|simp only [aA,aB]<;>omega|decide) only [rUz,↓reduceIte,reduceEqDiff,reduceAdd]) sN (by omega) hal b4h f4h rfl ?_
 simp (disch:=first|omega|simp only [aA,aB]<;>omega|decide) only [rUz,↓reduceIte,reduceEqDiff,reduceAdd]
 refine S.ret ?_
 try simp only [aJ,aF]
 subst hF
 simp only [finish,aI]
 rw [show Tryz.f68.results.toList = [.cell 4 112] from rfl]
 simp (disch:=first|omega|simp only [aA,aB]<;>omega|decide) only [bK,aY,aS,aT,aQ,aU,aO,upd_ne,aP,aW,result1,t4,bT pN hal]
 refine hK _ _ ?_ rfl
 exact (fr.toKp k0 (by omega)).upd (by omega)
theorem nu_y (S:Ev.Steps Tryz.prog pr R) (h0:AHeap) (s:Sa):bD Tryz.prog R 48 [.agg ⟨cSa s⟩] h0 fun u _=>u = iv s.nu:=by
 refine aV (fn:=Tryz.f48) (c:=(Tryz.f48.body).getD .skip) (by kernel_rfl) rfl (by kernel_rfl) rfl (fun K hK=>?_)
 generalize hF:finish Tryz.prog Tryz.f48 K = KF
 simp only [Tryz.f48,Option.getD_some,bJ,aX,aZ,T.setK_eq,id]
 repeat refine S.seq ?_
 refine S.region ?_
 simp (disch:=first|omega|simp only [aA,aB]<;>omega|decide) only [rUz,↓reduceIte,reduceEqDiff,reduceAdd]
 repeat refine S.seq ?_
 refine S.region ?_
 simp (disch:=first|omega|simp only [aA,aB]<;>omega|decide) only [rUz,↓reduceIte,reduceEqDiff,reduceAdd,aC fcS2 s3,p3,cSa2]
 refine S.ret ?_
 try simp only [aJ,aF]
 subst hF
 simp only [finish,aI]
 rw [show Tryz.f48.results.toList = [.tmp 2] from rfl]
 simp (disch:=first|omega|simp only [aA,aB]<;>omega|decide) only [bK,aY,aS,aT,aQ,aU,aO,upd_ne,aP,aW,result1]
 exact hK _ _ Kp.refl.add rfl
theorem mo_y (S:Ev.Steps Tryz.prog pr R) (h0:AHeap) (s:Sa) (hs:SaOk s):bD Tryz.prog R 49 [.agg ⟨cSa s⟩] h0 fun u _=>u = iv (s.nu * s.pr):=by
 have hm:=sa_mul hs
 refine aV (fn:=Tryz.f49) (c:=(Tryz.f49.body).getD .skip) (by kernel_rfl) rfl (by kernel_rfl) rfl (fun K hK=>?_)
 generalize hF:finish Tryz.prog Tryz.f49 K = KF
 simp only [Tryz.f49,Option.getD_some,bJ,aX,aZ,T.setK_eq,id]
 repeat refine S.seq ?_
 refine S.region ?_
 simp (disch:=first|omega|simp only [aA,aB]<;>omega|decide) only [rUz,↓reduceIte,reduceEqDiff,reduceAdd]
 repeat refine S.seq ?_
 refine S.region ?_
 simp (disch:=first|omega|simp only [aA,aB]<;>omega|decide) only [rUz,↓reduceIte,reduceEqDiff,reduceAdd,aC fcS2 s3,aC fcS3 s3,p3,cSa2,cSa3]
 refine S.ret ?_
 try simp only [aJ,aF]
 subst hF
 simp only [finish,aI]
 rw [show Tryz.f49.results.toList = [.tmp 2] from rfl]
 simp (disch:=first|omega|simp only [aA,aB]<;>omega|decide) only [bK,aY,aS,aT,aQ,aU,aO,upd_ne,aP,aW,result1]
 exact hK _ _ Kp.refl.add rfl
end Go.Proofs.Po

/- The bounds of what is asked, over all truths. -/
namespace Go.Proofs.Po
open Nat (reduceEqDiff reduceAdd reduceSub)
open Go Go.Ev Go.RowKit
set_option linter.unusedSimpArgs false
variable {pr:Prim} {R:ExT}
/-- A slice without its first number. -/
def ITl (h:AHeap) (v:Value) (a:Int) (l:List Int):Prop:=(l = [] ∧ v = emptyS) ∨ ∃ b c f ro,v = .slice (some ⟨b,1,none⟩) l.length c ∧ b < h.nx ∧ h.bl.get b = some (.cells ((a :: l).map iv) f ro)
theorem ITl.len {h:AHeap} {v:Value} {a:Int} {l:List Int} (k:ITl h v a l) (t:T Value) (h1:AHeap) (o:Oper):qJ Tryz.prog t h1 o 35 v = some (iv (l.length:Int)):=by
 rcases k with ⟨rfl,rfl⟩|⟨b,c,f,ro,rfl,_⟩<;>exact lT isI
theorem ITl.idx {h:AHeap} {v:Value} {a:Int} {l:List Int} (k:ITl h v a l) {i:Nat} (hi:i < l.length):∃ b o cc f ro,bY Tryz.prog 35 v (iv (i:Int)) = some (.pointer (some ⟨b,o,none⟩)) ∧ h.bl.get b = some (.cells cc f ro) ∧ cc[o]? = some (iv l[i]):=by
 rcases k with ⟨rfl,_⟩|⟨b,c,f,ro,rfl,_,k3⟩
 ·simp at hi
 ·refine ⟨b,1 + i,_,f,ro,?_,k3,?_⟩
  ·rw [eQ slI s3' hi,Nat.mul_one]
  ·rw [List.getElem?_map,Nat.add_comm,List.getElem?_cons_succ,List.getElem?_eq_getElem hi]; rfl
theorem ITl.mono {h h':AHeap} {v:Value} {a:Int} {l:List Int} (k:ITl h v a l) (hk:Kp h h'):ITl h' v a l:=by
 rcases k with k|⟨b,c,f,ro,k1,k2,k3⟩
 ·exact .inl k
 ·exact .inr ⟨b,c,f,ro,k1,Nat.lt_of_lt_of_le k2 hk.1,(hk.get k2).trans k3⟩
def IGT (l:List Int) (a:Int) (h0:AHeap) (v:Value) (k:Nat) (t:T Value) (h:AHeap):Prop:=
 k ≤ l.length ∧ h = h0 ∧ tget t 7 = v ∧ tget t 8 = iv (l.length:Int) ∧ tget t 9 = iv (k:Int) ∧ ∃ x,tget t 0 = iv x ∧ (l.drop k).foldl max2 x = l.foldl max2 a
theorem greatestT_y (S:Ev.Steps Tryz.prog pr R) (h0:AHeap) (a:Int) (v:Value) (l:List Int) (a0:Int) (hl:ITl h0 v a0 l) (hsz:(l.length:Int) ≤ 1000000) :
  bD Tryz.prog R 92 [iv a,v] h0 fun u h=>u = iv (l.foldl max2 a) ∧ h = h0:=by
 refine aV (fn:=Tryz.f92) (c:=(Tryz.f92.body).getD .skip) (by kernel_rfl) rfl (by kernel_rfl) rfl (fun K hK=>?_)
 generalize hF:finish Tryz.prog Tryz.f92 K = KF
 simp only [Tryz.f92,Option.getD_some,bJ,aX,aZ,T.setK_eq,id]
 have hlen:=fun t h1 o=>hl.len t h1 o
 repeat refine S.seq ?_
 refine S.region ?_
 simp (disch:=first|omega|simp only [aA,aB]<;>omega|decide) only [rUz,↓reduceIte,reduceEqDiff,reduceAdd]
 repeat refine S.seq ?_
 refine S.region ?_
 simp (disch:=first|omega|simp only [aA,aB]<;>omega|decide) only [rUz,↓reduceIte,reduceEqDiff,reduceAdd,hlen]
 repeat refine S.seq ?_
 refine S.block ?_
 refine S.loop (ι:=Nat) (IGT l a h0 v) (fun k=>l.length - k) ?_ 0 _ _ ?_
 ·intro k t h ⟨hk,hh,t7,t8,t9,x,t0,hx⟩ K' hn he
  subst hh
  repeat refine S.seq ?_
  refine S.region ?_
  simp (disch:=first|omega|simp only [aA,aB]<;>omega|decide) only [rUz,↓reduceIte,reduceEqDiff,reduceAdd,t8,t9]
  repeat refine S.seq ?_
  refine S.cond (v:=decide ((k:Int) < (l.length:Int))) (by first|rfl|(simp (disch:=first|omega|simp only [aA,aB]<;>omega|decide) only [rUz,↓reduceIte,reduceEqDiff,reduceAdd]<;>rfl)) (fun e=>?_) (fun e=>?_)
  ·have hkn:k < l.length:=by have:=of_decide_eq_true e; omega
   clear e
   obtain ⟨b,b0,cc,f,ro,q1,q3,q4⟩:=hl.idx hkn
   rw [List.drop_eq_getElem_cons hkn,List.foldl_cons] at hx
   generalize l[k] = y at q4 hx
   repeat refine S.seq ?_
   refine S.skip ?_
   simp (disch:=first|omega|simp only [aA,aB]<;>omega|decide) only [rUz,↓reduceIte,reduceEqDiff,reduceAdd]
   repeat refine S.seq ?_
   refine S.block ?_
   repeat refine S.seq ?_
   refine S.region ?_
   simp (disch:=first|omega|simp only [aA,aB]<;>omega|decide) only [rUz,↓reduceIte,reduceEqDiff,reduceAdd,t7,t9,q1,q3,p3,q4]
   repeat refine S.seq ?_
   refine S.region ?_
   simp (disch:=first|omega|simp only [aA,aB]<;>omega|decide) only [rUz,↓reduceIte,reduceEqDiff,reduceAdd,t0,sW,w_max]
   refine dG (v:=iv (max2 x y)) (oU (t':=T.set 15 (T.set 14 .leaf 13 (iv x)) 14 (iv y)) (u:=iv x) (v:=iv y) ?_ ?_ (by kernel_rfl) (by kernel_rfl) (by kernel_rfl)) ?_
   ·simp (disch:=first|omega|simp only [aA,aB]<;>omega|decide) only [rUz,↓reduceIte,reduceEqDiff,reduceAdd,t0]
   ·simp (disch:=first|omega|simp only [aA,aB]<;>omega|decide) only [rUz,↓reduceIte,reduceEqDiff,reduceAdd]
   simp (disch:=first|omega|simp only [aA,aB]<;>omega|decide) only [rUz,↓reduceIte,reduceEqDiff,reduceAdd]
   repeat refine S.seq ?_
   refine S.region ?_
   simp (disch:=first|omega|simp only [aA,aB]<;>omega|decide) only [rUz,↓reduceIte,reduceEqDiff,reduceAdd,t9]
   refine hn (k + 1) _ _ (by omega) ⟨by omega,rfl,?_,?_,?_,max2 x y,?_,hx⟩
   all_goals (first|rfl|(simp (disch:=first|omega|simp only [aA,aB]<;>omega|decide) only [rUz,↓reduceIte,reduceEqDiff,reduceAdd,t7,t8,t9]<;>rfl))
  ·have hkn:k = l.length:=by have:=of_decide_eq_false e; omega
   subst hkn
   rw [List.drop_of_length_le (Nat.le_refl _),List.foldl_nil] at hx
   subst hx
   refine S.exit (he _ _ _ _ (fun e=>by cases e) ?_)
   simp (disch:=first|omega|simp only [aA,aB]<;>omega|decide) only [rUz,↓reduceIte,reduceEqDiff,reduceAdd]
   repeat refine S.seq ?_
   refine S.region ?_
   simp (disch:=first|omega|simp only [aA,aB]<;>omega|decide) only [rUz,↓reduceIte,reduceEqDiff,reduceAdd,t0]
   refine S.ret ?_
   try simp only [aJ,aF]
   subst hF
   simp only [finish,aI]
   rw [show Tryz.f92.results.toList = [.tmp 4] from rfl]
   simp (disch:=first|omega|simp only [aA,aB]<;>omega|decide) only [bK,aY,aS,aT,aQ,aU,aO,upd_ne,aP,aW,result1]
   exact hK _ _ Kp.refl ⟨rfl,rfl⟩
 ·refine ⟨Nat.zero_le _,rfl,?_,?_,?_,a,?_,rfl⟩
  all_goals (first|rfl|(simp (disch:=first|omega|simp only [aA,aB]<;>omega|decide) only [rUz,↓reduceIte,reduceEqDiff,reduceAdd]<;>rfl))

def ILT (l:List Int) (a:Int) (h0:AHeap) (v:Value) (k:Nat) (t:T Value) (h:AHeap):Prop:=
 k ≤ l.length ∧ h = h0 ∧ tget t 7 = v ∧ tget t 8 = iv (l.length:Int) ∧ tget t 9 = iv (k:Int) ∧ ∃ x,tget t 0 = iv x ∧ (l.drop k).foldl min2 x = l.foldl min2 a
theorem leastT_y (S:Ev.Steps Tryz.prog pr R) (h0:AHeap) (a:Int) (v:Value) (l:List Int) (a0:Int) (hl:ITl h0 v a0 l) (hsz:(l.length:Int) ≤ 1000000) :
  bD Tryz.prog R 88 [iv a,v] h0 fun u h=>u = iv (l.foldl min2 a) ∧ h = h0:=by
 refine aV (fn:=Tryz.f88) (c:=(Tryz.f88.body).getD .skip) (by kernel_rfl) rfl (by kernel_rfl) rfl (fun K hK=>?_)
 generalize hF:finish Tryz.prog Tryz.f88 K = KF
 simp only [Tryz.f88,Option.getD_some,bJ,aX,aZ,T.setK_eq,id]
 have hlen:=fun t h1 o=>hl.len t h1 o
 repeat refine S.seq ?_
 refine S.region ?_
 simp (disch:=first|omega|simp only [aA,aB]<;>omega|decide) only [rUz,↓reduceIte,reduceEqDiff,reduceAdd]
 repeat refine S.seq ?_
 refine S.region ?_
 simp (disch:=first|omega|simp only [aA,aB]<;>omega|decide) only [rUz,↓reduceIte,reduceEqDiff,reduceAdd,hlen]
 repeat refine S.seq ?_
 refine S.block ?_
 refine S.loop (ι:=Nat) (ILT l a h0 v) (fun k=>l.length - k) ?_ 0 _ _ ?_
 ·intro k t h ⟨hk,hh,t7,t8,t9,x,t0,hx⟩ K' hn he
  subst hh
  repeat refine S.seq ?_
  refine S.region ?_
  simp (disch:=first|omega|simp only [aA,aB]<;>omega|decide) only [rUz,↓reduceIte,reduceEqDiff,reduceAdd,t8,t9]
  repeat refine S.seq ?_
  refine S.cond (v:=decide ((k:Int) < (l.length:Int))) (by first|rfl|(simp (disch:=first|omega|simp only [aA,aB]<;>omega|decide) only [rUz,↓reduceIte,reduceEqDiff,reduceAdd]<;>rfl)) (fun e=>?_) (fun e=>?_)
  ·have hkn:k < l.length:=by have:=of_decide_eq_true e; omega
   clear e
   obtain ⟨b,b0,cc,f,ro,q1,q3,q4⟩:=hl.idx hkn
   rw [List.drop_eq_getElem_cons hkn,List.foldl_cons] at hx
   generalize l[k] = y at q4 hx
   repeat refine S.seq ?_
   refine S.skip ?_
   simp (disch:=first|omega|simp only [aA,aB]<;>omega|decide) only [rUz,↓reduceIte,reduceEqDiff,reduceAdd]
   repeat refine S.seq ?_
   refine S.block ?_
   repeat refine S.seq ?_
   refine S.region ?_
   simp (disch:=first|omega|simp only [aA,aB]<;>omega|decide) only [rUz,↓reduceIte,reduceEqDiff,reduceAdd,t7,t9,q1,q3,p3,q4]
   repeat refine S.seq ?_
   refine S.region ?_
   simp (disch:=first|omega|simp only [aA,aB]<;>omega|decide) only [rUz,↓reduceIte,reduceEqDiff,reduceAdd,t0,sZ,w_min]
   refine dG (v:=iv (min2 x y)) (oU (t':=T.set 15 (T.set 14 .leaf 13 (iv x)) 14 (iv y)) (u:=iv x) (v:=iv y) ?_ ?_ (by kernel_rfl) (by kernel_rfl) (by kernel_rfl)) ?_
   ·simp (disch:=first|omega|simp only [aA,aB]<;>omega|decide) only [rUz,↓reduceIte,reduceEqDiff,reduceAdd,t0]
   ·simp (disch:=first|omega|simp only [aA,aB]<;>omega|decide) only [rUz,↓reduceIte,reduceEqDiff,reduceAdd]
   simp (disch:=first|omega|simp only [aA,aB]<;>omega|decide) only [rUz,↓reduceIte,reduceEqDiff,reduceAdd]
   repeat refine S.seq ?_
   refine S.region ?_
   simp (disch:=first|omega|simp only [aA,aB]<;>omega|decide) only [rUz,↓reduceIte,reduceEqDiff,reduceAdd,t9]
   refine hn (k + 1) _ _ (by omega) ⟨by omega,rfl,?_,?_,?_,min2 x y,?_,hx⟩
   all_goals (first|rfl|(simp (disch:=first|omega|simp only [aA,aB]<;>omega|decide) only [rUz,↓reduceIte,reduceEqDiff,reduceAdd,t7,t8,t9]<;>rfl))
  ·have hkn:k = l.length:=by have:=of_decide_eq_false e; omega
   subst hkn
   rw [List.drop_of_length_le (Nat.le_refl _),List.foldl_nil] at hx
   subst hx
   refine S.exit (he _ _ _ _ (fun e=>by cases e) ?_)
   simp (disch:=first|omega|simp only [aA,aB]<;>omega|decide) only [rUz,↓reduceIte,reduceEqDiff,reduceAdd]
   repeat refine S.seq ?_
   refine S.region ?_
   simp (disch:=first|omega|simp only [aA,aB]<;>omega|decide) only [rUz,↓reduceIte,reduceEqDiff,reduceAdd,t0]
   refine S.ret ?_
   try simp only [aJ,aF]
   subst hF
   simp only [finish,aI]
   rw [show Tryz.f88.results.toList = [.tmp 4] from rfl]
   simp (disch:=first|omega|simp only [aA,aB]<;>omega|decide) only [bK,aY,aS,aT,aQ,aU,aO,upd_ne,aP,aW,result1]
   exact hK _ _ Kp.refl ⟨rfl,rfl⟩
 ·refine ⟨Nat.zero_le _,rfl,?_,?_,?_,a,?_,rfl⟩
  all_goals (first|rfl|(simp (disch:=first|omega|simp only [aA,aB]<;>omega|decide) only [rUz,↓reduceIte,reduceEqDiff,reduceAdd]<;>rfl))

/-- A slice that has grown, without its first number. -/
theorem tail_of {Ow:Nat → Prop} {h:AHeap} {v:Value} {a:Int} {l:List Int} (k:AppO Ow h 1 v (i1 (a :: l))):∃ w,(∀ (t:T Value) (o:Oper),vW Tryz.prog t h o 35 (some (.const (iv 1))) none v = some w) ∧ ITl h w a l:=by
 rcases k with ⟨k,_⟩|⟨b,L,F,k1,rfl,k3,k4,k5,k7,k8,k9,k10,k11,o1,o2,o3⟩
 ·simp at k
 ·have hz:zOk h b 1 = true:=by
   unfold zOk
   rw [k4]
   have:Nat.beq F b = false:=by cases e:Nat.beq F b with|true=>exact absurd (Nat.eq_of_beq_eq_true e) k11|false=>rfl
   simp only [this,cond_false,k10]
   rfl
  have hlen:(i1 (a :: l)).length = l.length + 1:=by rw [List.length_map,List.length_cons]
  have hfl:(i1 (a :: l)).flatten = (a :: l).map iv:=flat1 _
  rw [hfl] at k4
  have hc:=fun (t:T Value) (o:Oper)=>cut_one (P:=Tryz.prog) (t:=t) (o:=o) (x:=.const (iv 1)) slI s3' hz (by simp only [rUz]) (by rw [hlen]; omega:1 ≤ (i1 (a :: l)).length)
  cases l with
  | nil=>exact ⟨emptyS,fun t o=>by rw [hc t o]; rfl,.inl ⟨rfl,rfl⟩⟩
  | cons x l =>
   refine ⟨.slice (some ⟨b,1,none⟩) (l.length + 1) (l.length + 1),fun t o=>?_,.inr ⟨b,_,F,false,by rw [List.length_cons],k3,k4⟩⟩
   rw [hc t o,hlen]
   have h2:Nat.beq ((x :: l).length + 1) 1 = false:=by
    cases e:Nat.beq ((x :: l).length + 1) 1 with
    | true=>have:=Nat.eq_of_beq_eq_true e; rw [List.length_cons] at this; omega
    | false=>rfl
   rw [h2,cond_false,List.length_cons]
   rfl
theorem boundsOf_y (S:Ev.Steps Tryz.prog pr R) (hoff:Off pr) (h0:AHeap) (a:Int) (v:Value) (l:List Int) (a0:Int) (hl:ITl h0 v a0 l) (hsz:(l.length:Int) ≤ 1000000) :
  bD Tryz.prog R 69 [iv a,v] h0 fun u _=>u = .agg ⟨c2 (l.foldl min2 a,l.foldl max2 a)⟩:=by
 refine aV (fn:=Tryz.f69) (c:=(Tryz.f69.body).getD .skip) (by kernel_rfl) rfl (by kernel_rfl) rfl (fun K hK=>?_)
 generalize hF:finish Tryz.prog Tryz.f69 K = KF
 simp only [Tryz.f69,Option.getD_some,bJ,aX,aZ,T.setK_eq,id]
 repeat refine S.seq ?_
 refine S.region ?_
 simp (disch:=first|omega|simp only [aA,aB]<;>omega|decide) only [rUz,↓reduceIte,reduceEqDiff,reduceAdd,cO zcR]
 have hl1:=hl.mono (Kp.refl.add (c:=[iv 0,iv 0]))
 obtain ⟨B4,hB4⟩:∃ x,x = h0.nx:=⟨_,rfl⟩
 have b4:(h0.add [iv 0,iv 0]).bl.get B4 = some (.cells [iv 0,iv 0] B4 false):=by subst hB4; exact aP rfl
 have f4:(h0.add [iv 0,iv 0]).fams.get B4 = some [B4]:=by subst hB4; exact dL rfl
 have k0:Kp h0 (h0.add [iv 0,iv 0]):=Kp.refl.add
 have bcr:fG Tryz.prog 43 [(0,iv (l.foldl min2 a)),(1,iv (l.foldl max2 a))] = some (.agg ⟨c2 (l.foldl min2 a,l.foldl max2 a)⟩):=bcR _ _
 rw [← hB4]
 generalize h0.add [iv 0,iv 0] = H at b4 f4 k0 hl1 ⊢
 repeat refine S.seq ?_
 refine S.region ?_
 simp (disch:=first|omega|simp only [aA,aB]<;>omega|decide) only [rUz,↓reduceIte,reduceEqDiff,reduceAdd]
 refine bC (fid:=88) (first:=#[]) (captured:=#[]) (Post:=fun u h=>u = iv (l.foldl min2 a) ∧ h = H) rfl (hoff _ _ _ rfl) (by simp (disch:=first|omega|simp only [aA,aB]<;>omega|decide) only [rUz,↓reduceIte,reduceEqDiff,reduceAdd]; exact leastT_y S H a v l a0 hl1 hsz) ?_
 rintro u g - ⟨rfl,rfl⟩
 simp (disch:=first|omega|simp only [aA,aB]<;>omega|decide) only [rUz,↓reduceIte,reduceEqDiff,reduceAdd]
 refine bC (fid:=92) (first:=#[]) (captured:=#[]) (Post:=fun u h=>u = iv (l.foldl max2 a) ∧ h = g) rfl (hoff _ _ _ rfl) (by simp (disch:=first|omega|simp only [aA,aB]<;>omega|decide) only [rUz,↓reduceIte,reduceEqDiff,reduceAdd]; exact greatestT_y S g a v l a0 hl1 hsz) ?_
 rintro u g2 - ⟨rfl,rfl⟩
 simp (disch:=first|omega|simp only [aA,aB]<;>omega|decide) only [rUz,↓reduceIte,reduceEqDiff,reduceAdd,fF,List.map_cons,List.map_nil,bcr]
 refine dF (B:=B4) (c:=[iv 0,iv 0]) (fam:=B4) (k:=B4) (l:=c2 (l.foldl min2 a,l.foldl max2 a)) (by simp (disch:=first|omega|simp only [aA,aB]<;>omega|decide) only [rUz,↓reduceIte,reduceEqDiff,reduceAdd]) (by simp (disch:=first|omega|simp only [aA,aB]<;>omega|decide) only [rUz,↓reduceIte,reduceEqDiff,reduceAdd]) scR (by omega) rfl b4 f4 rfl ?_
 simp (disch:=first|omega|simp only [aA,aB]<;>omega|decide) only [rUz,↓reduceIte,reduceEqDiff,reduceAdd]
 refine S.ret ?_
 try simp only [aJ,aF]
 subst hF
 simp only [finish,aI]
 rw [show Tryz.f69.results.toList = [.cell 4 43] from rfl]
 simp (disch:=first|omega|simp only [aA,aB]<;>omega|decide) only [bK,aY,aS,aT,aQ,aU,aO,upd_ne,aP,aW,result1,bT pcR (kX (l.foldl min2 a,l.foldl max2 a))]
 exact hK _ _ (k0.upd (by omega)) rfl
end Go.Proofs.Po

/- The bounds of what is asked, over all truths: the walk. -/
namespace Go.Proofs.Po
open Nat (reduceEqDiff reduceAdd reduceSub)
open Go Go.Ev Go.RowKit
set_option linter.unusedSimpArgs false
variable {pr:Prim} {R:ExT}
theorem aL6:arrOf Tryz.prog 121 = some (6,35):=by kernel_rfl
theorem zL6:zeroOf Tryz.prog 121 = some (.agg ⟨[nl,nl,nl,nl,nl,nl]⟩):=by kernel_rfl
theorem ixL6 {B j:Nat} (hj:j < 6):bY Tryz.prog 121 (bG B) (iv (j:Int)) = some (.pointer (some ⟨B,j,none⟩)):=by
 rw [oZ aL6 lI' hj,Nat.mul_one,Nat.zero_add]
theorem ixA6 {l:List Int} (hl:l.length = 6) {j:Nat} (hj:j < 6) (t:T Value) (o:Oper):vV Tryz.prog t o 112 (iv (j:Int)) (.agg ⟨l.map iv⟩) = some (iv (lg l j)):=by
 have h1:Nat.blt j 6 = true:=by rw [Nat.blt_eq]; exact hj
 show uC Tryz.prog 112 ⟨l.map iv⟩ (.int .i64 (.ofNat j)) = _
 simp only [uC,aN,h1,cond_true,s3',p3]
 rw [show Nat.mul j 1 = j from Nat.mul_one j,List.getElem?_map,lg_get (by omega:j < l.length)]
 rfl
/-- Six slices that grow beside each other. -/
structure SixAt (G:Nat) (h:AHeap) (B5:Nat) (vf:Nat → Value) (ls:Nat → List Int) (Ow:Nat → Nat → Prop):Prop where
 bl:h.bl.get B5 = some (.cells ((List.range 6).map vf) B5 false)
 fm:h.fams.get B5 = some [B5]
 app:∀ j,j < 6 → AppO (Ow j) h 1 (vf j) (i1 (ls j))
 lo:∀ j x,Ow j x → G ≤ x ∧ x < h.nx
 dj:∀ i j x,i ≠ j → Ow i x → ¬ Ow j x
 hB:B5 < G
 le:G ≤ h.nx
theorem SixAt.kp {G B5:Nat} {h h':AHeap} {vf:Nat → Value} {ls:Nat → List Int} {Ow:Nat → Nat → Prop} (k:SixAt G h B5 vf ls Ow) (a:Kp h h'):SixAt G h' B5 vf ls Ow:=by
 have hb:=k.hB; have hl:=k.le; have ha:=a.1
 exact ⟨(a.get (by omega)).trans k.bl,(a.fget (by omega)).trans k.fm,fun j hj=>(k.app j hj).keep a.1 fun x hx _=>a.2 x hx,fun j x hx=>⟨(k.lo j x hx).1,by have:=(k.lo j x hx).2; omega⟩,k.dj,hb,by omega⟩
theorem SixAt.grow {G B5 j:Nat} {h h':AHeap} {vf:Nat → Value} {ls:Nat → List Int} {Ow:Nat → Nat → Prop} (k:SixAt G h B5 vf ls Ow) (hj:j < 6) {v':Value} {x:Int} (g:GrownO (Ow j) h h' 1 v' (i1 (ls j)) [iv x]) :
  SixAt G (h'.upd B5 (((List.range 6).map vf).set j v') B5) B5 (fun i=>if i = j then v' else vf i) (fun i=>if i = j then ls i ++ [x] else ls i) (fun i y=>if i = j then (Ow j y ∨ h.nx ≤ y) ∧ y < h'.nx else Ow i y):=by
 have hb:=k.hB; have hl:=k.le; have ha:=g.le
 have nO:∀ i y,Ow i y → y ≠ B5:=fun i y hy=>by have:=(k.lo i y hy).1; omega
 refine ⟨?_,?_,fun i hi=>?_,fun i y hy=>?_,fun i i' y hne hy hy'=>?_,hb,by show G ≤ h'.nx; omega⟩
 ·rw [aO]
  congr 2
  apply List.ext_getElem?
  intro i
  rw [List.getElem?_set,List.length_map,List.length_range,List.getElem?_map,List.getElem?_map]
  by_cases hij:j = i
  ·subst hij
   rw [if_pos rfl,if_pos hj,List.getElem?_range hj,Option.map_some,if_pos rfl]
  ·rw [if_neg hij]
   by_cases hi:i < 6
   ·rw [List.getElem?_range hi,Option.map_some,Option.map_some,if_neg fun e=>hij e.symm]
   ·rw [List.getElem?_eq_none (by rw [List.length_range]; omega)]; rfl
 ·rw [bM]
  exact ((g.kp B5 (by omega) fun q=>nO j B5 q rfl).2).trans k.fm
 ·by_cases hij:i = j
  ·subst hij
   simp only [if_true]
   rw [show i1 (ls i ++ [x]) = i1 (ls i) ++ [[iv x]] from List.map_append]
   refine (g.app.weak (Ow':=fun y=>(Ow i y ∨ h.nx ≤ y) ∧ y < h'.nx) fun y hy h=>⟨h,hy⟩).keep (Nat.le_refl _) fun y hy ho=>?_
   have hyb:y ≠ B5:=by
    rcases ho.1 with ho|ho
    ·exact nO i y ho
    ·omega
   rw [upd_ne _ _ _ hyb,bM]
   exact ⟨rfl,rfl⟩
  ·simp only [if_neg hij]
   refine (k.app i hi).keep (by show h.nx ≤ h'.nx; omega) fun y hy ho=>?_
   rw [upd_ne _ _ _ (nO i y ho),bM]
   exact g.kp y hy (k.dj i j y hij ho)
 ·show G ≤ y ∧ y < h'.nx
  by_cases hij:i = j
  ·simp only [if_pos hij] at hy
   rcases hy.1 with hy1|hy1
   ·have:=k.lo j y hy1; omega
   ·omega
  ·simp only [if_neg hij] at hy
   have:=k.lo i y hy; omega
 ·by_cases hij:i = j
  ·have hij':i' ≠ j:=fun e=>hne (hij.trans e.symm)
   simp only [if_pos hij] at hy
   simp only [if_neg hij'] at hy'
   rcases hy.1 with hy1|hy1
   ·exact k.dj j i' y (fun e=>hij' e.symm) hy1 hy'
   ·have:=k.lo i' y hy'; omega
  ·simp only [if_neg hij] at hy
   by_cases hij':i' = j
   ·simp only [if_pos hij'] at hy'
    rcases hy'.1 with hy1|hy1
    ·exact k.dj i j y hij hy hy1
    ·have:=k.lo i y hy; omega
   ·simp only [if_neg hij'] at hy'
    exact k.dj i i' y hne hy hy'
/-- What is asked of an order, in the truths that are gone through. -/
def o6 (q:Sa → Int) (O:List Od) (j k:Nat):List Int:=((dW O).take k).map fun t=>fqZ q (j:Int) (dI O t).2
theorem lstQ_succ {q:Sa → Int} {O:List Od} {j k:Nat} {t:List Int} (h:(dW O)[k]? = some t):o6 q O j (k + 1) = o6 q O j k ++ [fqZ q (j:Int) (dI O t).2]:=by
 unfold o6
 rw [List.take_add_one,h,List.map_append]
 rfl
theorem lstQ_len (q:Sa → Int) (O:List Od) (j k:Nat):(o6 q O j k).length ≤ k:=by unfold o6; rw [List.length_map,List.length_take]; omega
/-- While an order's sum is added: the orders before it have one more. -/
def lsK (q:Sa → Int) (O:List Od) (k j:Nat) (i:Nat):List Int:=if i < j then o6 q O i (k + 1) else o6 q O i k
theorem lsK_step {q:Sa → Int} {O:List Od} {k j:Nat} {t:List Int} (h:(dW O)[k]? = some t):(fun i=>if i = j then lsK q O k j i ++ [fqZ q (j:Int) (dI O t).2] else lsK q O k j i) = lsK q O k (j + 1):=by
 funext i
 unfold lsK
 by_cases hij:i = j
 ·subst hij
  rw [if_pos rfl,if_neg (by omega),if_pos (by omega),lstQ_succ h]
 ·rw [if_neg hij]
  by_cases h1:i < j
  ·rw [if_pos h1,if_pos (by omega)]
  ·rw [if_neg h1,if_neg (by omega)]
def minL:List Int → Int
 | []=>0
 | a :: l=>l.foldl min2 a
def maxL:List Int → Int
 | []=>0
 | a :: l=>l.foldl max2 a
/-- The bounds of what is asked of an order. -/
def bdQ (q:Sa → Int) (O:List Od) (j:Nat):I2:=(minL (o6 q O j (dW O).length),maxL (o6 q O j (dW O).length))
theorem low_truth {O:List Od} (hv:Val O):lV O (O.map fun x=>x.lo) = true:=by
 rw [nU]
 refine ⟨by rw [List.length_map],fun i h1 h2=>?_⟩
 rw [List.getElem_map]
 have ok:=hv.ok O[i] (List.getElem_mem h1)
 exact ⟨Int.le_refl _,ok.m1⟩
theorem all_ne {O:List Od} (hv:Val O):dW O ≠ []:=by
 obtain ⟨t,ht,_⟩:=(kY hv).2 _ (low_truth hv)
 intro e; rw [e] at ht; cases ht
noncomputable def infR:TypeInfo:=(Tryz.prog.info? 43).getD default
theorem infoR:Tryz.prog.info? 43 = some infR:=by kernel_rfl
theorem infoRb:Nat.blt infR.bytes bigNat = true:=by kernel_rfl
theorem infoRs:infR.size = 2:=by kernel_rfl
theorem isRg:jW Tryz.prog 27 = true:=by kernel_rfl
theorem slRg:fE Tryz.prog 27 = some 43:=by kernel_rfl
theorem repl_rg (n:Nat):(List.replicate n (Value.cells (.agg ⟨[iv 0,iv 0]⟩)).toList).flatten = ((List.replicate n ((0,0):I2)).map c2).flatten:=by
 rw [List.map_replicate]; rfl
theorem flat_c2 (L:List I2):(L.map c2).flatten.length = L.length * 2:=by
 induction L with
 | nil=>rfl
 | cons a l ih=>rw [List.map_cons,List.flatten_cons,List.length_append,ih,kX,List.length_cons]; omega
structure IBo (q:Sa → Int) (O:List Od) (Hs:AHeap) (Bw B5:Nat) (cv fv:Value) (k:Nat) (t:T Value) (h:AHeap):Prop where
 kp:∀ j,j < Hs.nx → j ≠ B5 → h.bl.get j = Hs.bl.get j ∧ h.fams.get j = Hs.fams.get j
 six:∃ vf Ow,SixAt Hs.nx h B5 vf (fun j=>o6 q O j k) Ow
 t0:tget t 0 = bG Bw
 t1:tget t 1 = fv
 t5:tget t 5 = bG B5
 t15:tget t 15 = cv
 t16:tget t 16 = iv ((dW O).length:Int)
 t17:tget t 17 = iv (k:Int)
 hk:k ≤ (dW O).length
structure IBi (q:Sa → Int) (O:List Od) (Hs:AHeap) (Bw B5:Nat) (cv fv:Value) (l:List Int) (k:Nat) (j:Nat) (t:T Value) (h:AHeap):Prop where
 kp:∀ j,j < Hs.nx → j ≠ B5 → h.bl.get j = Hs.bl.get j ∧ h.fams.get j = Hs.fams.get j
 six:∃ vf Ow,SixAt Hs.nx h B5 vf (lsK q O k j) Ow
 t0:tget t 0 = bG Bw
 t1:tget t 1 = fv
 t5:tget t 5 = bG B5
 t15:tget t 15 = cv
 t16:tget t 16 = iv ((dW O).length:Int)
 t17:tget t 17 = iv (k:Int)
 t23:tget t 23 = .agg ⟨l.map iv⟩
 t24:tget t 24 = iv (j:Int)
 hj:j ≤ 6
structure IBl (q:Sa → Int) (O:List Od) (H:AHeap) (B5 Bl n:Nat) (k:Nat) (t:T Value) (h:AHeap):Prop where
 fr:Fr H Bl h
 bl:∃ L:List I2,h.bl.get Bl = some (.cells (L.map c2).flatten Bl false) ∧ L.length = n ∧ ∀ j,j < k → L[j]? = some (bdQ q O j)
 t5:tget t 5 = bG B5
 t10:tget t 10 = .slice (some ⟨Bl,0,none⟩) n n
 t46:tget t 46 = iv (n:Int)
 t47:tget t 47 = iv (k:Int)
 hk:k ≤ n
theorem bounds_y (S:Ev.Steps Tryz.prog pr R) (hoff:Off pr) (h0:AHeap) (Bw:Nat) (v:Value) (O:List Od) (hp:PoAt h0 v O) (hv:Val O) (hw:WkAt h0 Bw v O) (q:Sa → Int) (Gf:FuncId) (hGf:offB Gf = true)
  (hq2:∀ s,SaOk s → 0 ≤ q s ∧ q s ≤ 2000) (hq:∀ h' s,SaOk s → bD Tryz.prog R Gf [.agg ⟨cSa s⟩] h' fun u _=>u = iv (q s)) :
  bD Tryz.prog R 47 [bG Bw,.func (.func Gf) #[] #[]] h0 fun u h=>∃ B,u = .slice (some ⟨B,0,none⟩) O.length O.length ∧ h0.nx ≤ B ∧ B < h.nx ∧ h.bl.get B = some (.cells (((List.range O.length).map (bdQ q O)).map c2).flatten B false):=by
 obtain ⟨cv,ptrs,w1,w2,w3,w4,w5⟩:=hw
 have h6:=hv.l6
 have h1:=hv.l1
 have hal:=all_len hv
 have hlen:=fun t h1 o=>dQ w3 isPc t h1 o
 rw [w4] at hlen
 have lO:=fun t h1 o=>dQ hp iscO t h1 o
 refine aV (fn:=Tryz.f47) (c:=(Tryz.f47.body).getD .skip) (by kernel_rfl) rfl (by kernel_rfl) rfl (fun K hK=>?_)
 generalize hF:finish Tryz.prog Tryz.f47 K = KF
 simp only [Tryz.f47,Option.getD_some,bJ,aX,aZ,T.setK_eq,id]
 repeat refine S.seq ?_
 refine S.region ?_
 simp (disch:=first|omega|simp only [aA,aB]<;>omega|decide) only [rUz,↓reduceIte,reduceEqDiff,reduceAdd]
 repeat refine S.seq ?_
 refine S.region ?_
 simp (disch:=first|omega|simp only [aA,aB]<;>omega|decide) only [rUz,↓reduceIte,reduceEqDiff,reduceAdd,cO zL6]
 obtain ⟨B5,hB5⟩:∃ x,x = h0.nx:=⟨_,rfl⟩
 have b5:(h0.add [nl,nl,nl,nl,nl,nl]).bl.get B5 = some (.cells [nl,nl,nl,nl,nl,nl] B5 false):=by subst hB5; exact aP rfl
 have f5:(h0.add [nl,nl,nl,nl,nl,nl]).fams.get B5 = some [B5]:=by subst hB5; exact dL rfl
 have k0:Kp h0 (h0.add [nl,nl,nl,nl,nl,nl]):=Kp.refl.add
 have n0:(h0.add [nl,nl,nl,nl,nl,nl]).nx = h0.nx + 1:=rfl
 change R _ _ _ _ (h0.add [nl,nl,nl,nl,nl,nl]) _ _ = true
 rw [← hB5]
 generalize h0.add [nl,nl,nl,nl,nl,nl] = Hs at b5 f5 k0 n0 ⊢
 have w1s:=(k0.get w2).trans w1
 repeat refine S.seq ?_
 refine S.region ?_
 simp (disch:=first|omega|simp only [aA,aB]<;>omega|decide) only [rUz,↓reduceIte,reduceEqDiff,reduceAdd,w1s,aC fWk1 lPc,qPc,wk1,hlen]
 repeat refine S.seq ?_
 refine S.block ?_
 refine S.loop (ι:=Nat) (IBo q O Hs Bw B5 cv (.func (.func Gf) #[] #[])) (fun k=>(dW O).length - k) ?_ 0 _ _ ?_
 rotate_left
 ·refine ⟨fun j hj _=>⟨rfl,rfl⟩,⟨fun _=>nl,fun _ _=>False,⟨b5,f5,fun j _=>AppO.nil,(fun j x h=>h.elim),(fun i j x _ h=>h.elim),by omega,Nat.le_refl _⟩⟩,?_,?_,?_,?_,?_,?_,Nat.zero_le _⟩
  all_goals (first|rfl|(simp (disch:=first|omega|simp only [aA,aB]<;>omega|decide) only [rUz,↓reduceIte,reduceEqDiff,reduceAdd]<;>rfl))
 intro k t h ⟨kp,⟨vf,Ow,six⟩,t0,t1,t5,t15,t16,t17,hk⟩ K' hn he
 have hle:=six.le
 have kp0:Kp h0 h:=⟨by omega,fun j hj=>⟨(kp j (by omega) (by omega)).1.trans (k0.get hj),(kp j (by omega) (by omega)).2.trans (k0.fget hj)⟩⟩
 repeat refine S.seq ?_
 refine S.region ?_
 simp (disch:=first|omega|simp only [aA,aB]<;>omega|decide) only [rUz,↓reduceIte,reduceEqDiff,reduceAdd,t16,t17]
 repeat refine S.seq ?_
 refine S.cond (v:=decide ((k:Int) < ((dW O).length:Int))) (by first|rfl|(simp (disch:=first|omega|simp only [aA,aB]<;>omega|decide) only [rUz,↓reduceIte,reduceEqDiff,reduceAdd]<;>rfl)) (fun e=>?_) (fun e=>?_)
 ·have hkn:k < (dW O).length:=by have:=of_decide_eq_true e; omega
  clear e
  have hxk:(dW O)[k]? = some (dW O)[k]:=List.getElem?_eq_getElem hkn
  have hBk:ptrs[k]? = some (ptrs[k]'(by omega)):=List.getElem?_eq_getElem (by omega)
  have hmem:(dW O)[k] ∈ dW O:=List.getElem_mem hkn
  generalize (dW O)[k] = x at hxk hmem
  generalize ptrs[k]'(by omega) = Bk at hBk
  have htru:=tru_of hv ((kY hv).1 x hmem)
  obtain ⟨cv2,lf,sv,c1,c2',c3,c4',c5,c6'⟩:=(w5 k x Bk hxk hBk).keep kp0.1 (fun j hj _=>kp0.get hj) fun _ _ q=>q
  obtain ⟨rb,rf,ro,cells,r1,r2,r3,r4,r5,r6⟩:=dM (SlAt.mono w3 kp0) slPc sPc hBk
  have r60:=r6 0 (bG Bk) rfl
  rw [Nat.mul_one,Nat.add_zero] at r60
  rw [Nat.mul_one] at r1
  have hs6:=sales_six hv htru
  have hsa:=sales_saok hv htru
  have hsq:=(sq_play hv htru).sl
  have hal6:=xU q (dI O x).2
  repeat refine S.seq ?_
  refine S.skip ?_
  simp (disch:=first|omega|simp only [aA,aB]<;>omega|decide) only [rUz,↓reduceIte,reduceEqDiff,reduceAdd]
  repeat refine S.seq ?_
  refine S.block ?_
  repeat refine S.seq ?_
  refine S.region ?_
  simp (disch:=first|omega|simp only [aA,aB]<;>omega|decide) only [rUz,↓reduceIte,reduceEqDiff,reduceAdd,t15,t17,r1,r3,pPc,r60]
  repeat refine S.seq ?_
  refine S.region ?_
  simp (disch:=first|omega|simp only [aA,aB]<;>omega|decide) only [rUz,↓reduceIte,reduceEqDiff,reduceAdd,t1]
  refine bC (fid:=68) (first:=#[]) (captured:=#[]) (Post:=fun u _=>u = .agg ⟨(arrQ q (dI O x).2).map iv⟩) rfl (hoff _ _ _ rfl) (by simp (disch:=first|omega|simp only [aA,aB]<;>omega|decide) only [rUz,↓reduceIte,reduceEqDiff,reduceAdd]; exact sums_y S hoff h Bk v cv2 lf sv O h6 (dI O x).2 c5 c1 c2' c3 hs6 hsq q (fun s hs=>hq2 s (hsa s hs)) Gf hGf (fun h' s hs=>hq h' s (hsa s hs))) ?_
  rintro u g hkg rfl
  simp (disch:=first|omega|simp only [aA,aB]<;>omega|decide) only [rUz,↓reduceIte,reduceEqDiff,reduceAdd]
  have e0:(fun j=>o6 q O j k) = lsK q O k 0:=by funext i; unfold lsK; rw [if_neg (by omega)]
  rw [e0] at six
  have hbnd:∀ j,j < 6 → 0 ≤ lg (arrQ q (dI O x).2) j:=fun j hj=>by rw [xW _ _ hj]; exact (fqZ_bnd _ _ fun s hs=>hq2 s (hsa s hs)).1
  repeat refine S.seq ?_
  refine S.block ?_
  refine S.loop (ι:=Nat) (IBi q O Hs Bw B5 cv (.func (.func Gf) #[] #[]) (arrQ q (dI O x).2) k) (fun j=>6 - j) ?_ 0 _ _ ?_
  rotate_left
  ·refine ⟨fun j hj hn=>⟨(hkg.get (by omega)).trans (kp j hj hn).1,(hkg.fget (by omega)).trans (kp j hj hn).2⟩,⟨vf,Ow,six.kp hkg⟩,?_,?_,?_,?_,?_,?_,?_,?_,Nat.zero_le _⟩
   all_goals (first|rfl|(simp (disch:=first|omega|simp only [aA,aB]<;>omega|decide) only [rUz,↓reduceIte,reduceEqDiff,reduceAdd,t0,t1,t5,t15,t16,t17]<;>rfl))
  clear six kp hkg c1 c2' c3 c4' c5 c6' r1 r2 r3 r4 r5 r6 r60 kp0 hle t0 t1 t5 t15 t16 t17
  clear t g h vf Ow
  intro j t h ⟨kp,⟨vf,Ow,six⟩,t0,t1,t5,t15,t16,t17,t23,t24,hj⟩ K'' hn2 he2
  have hle:=six.le
  repeat refine S.seq ?_
  refine S.region ?_
  simp (disch:=first|omega|simp only [aA,aB]<;>omega|decide) only [rUz,↓reduceIte,reduceEqDiff,reduceAdd,t24]
  repeat refine S.seq ?_
  refine S.cond (v:=decide ((j:Int) < 6)) (by first|rfl|(simp (disch:=first|omega|simp only [aA,aB]<;>omega|decide) only [rUz,↓reduceIte,reduceEqDiff,reduceAdd]<;>rfl)) (fun e=>?_) (fun e=>?_)
  ·have hj6:j < 6:=by have:=of_decide_eq_true e; omega
   clear e
   have hix:=ixA6 hal6 hj6
   have hcell:((List.range 6).map vf)[j]? = some (vf j):=by rw [List.getElem?_map,List.getElem?_range hj6]; rfl
   have hag:=xW q (dI O x).2 hj6
   have hll:=lstQ_len q O j k
   have hl2:(lsK q O k j j).length ≤ k:=by unfold lsK; rw [if_neg (by omega)]; exact hll
   repeat refine S.seq ?_
   refine S.skip ?_
   simp (disch:=first|omega|simp only [aA,aB]<;>omega|decide) only [rUz,↓reduceIte,reduceEqDiff,reduceAdd]
   repeat refine S.seq ?_
   refine S.block ?_
   repeat refine S.seq ?_
   refine S.region ?_
   simp (disch:=first|omega|simp only [aA,aB]<;>omega|decide) only [rUz,↓reduceIte,reduceEqDiff,reduceAdd,t23,t24,rd_index,hix]
   rw [hag]
   repeat refine S.seq ?_
   refine S.region ?_
   simp (disch:=first|omega|simp only [aA,aB]<;>omega|decide) only [rUz,↓reduceIte,reduceEqDiff,reduceAdd,t5,ixL6 hj6,six.bl,qI,hcell,fH]
   refine uT slI s3' z3 rfl (by omega) (u:=iv (fqZ q (j:Int) (dI O x).2)) (l:=[iv (fqZ q (j:Int) (dI O x).2)]) (by simp (disch:=first|omega|simp only [aA,aB]<;>omega|decide) only [rUz,↓reduceIte,reduceEqDiff,reduceAdd]) rfl rfl ?_
   have k4:Kp h (h.add [iv (fqZ q (j:Int) (dI O x).2)]):=Kp.refl.add
   have hgx:(h.add [iv (fqZ q (j:Int) (dI O x).2)]).bl.get h.nx = some (.cells [iv (fqZ q (j:Int) (dI O x).2)] h.nx false):=aP rfl
   simp (disch:=first|omega|simp only [aA,aB]<;>omega|decide) only [rUz,↓reduceIte,reduceEqDiff,reduceAdd,kW]
   generalize h.add [iv (fqZ q (j:Int) (dI O x).2)] = hx at k4 hgx ⊢
   have six4:=six.kp k4
   refine wr_appO slI uI (v:=vf j) (bx:=h.nx) (cx:=1) (c:=[iv (fqZ q (j:Int) (dI O x).2)]) (by simp (disch:=first|omega|simp only [aA,aB]<;>omega|decide) only [rUz,↓reduceIte,reduceEqDiff,reduceAdd]) (by simp (disch:=first|omega|simp only [aA,aB]<;>omega|decide) only [rUz,↓reduceIte,reduceEqDiff,reduceAdd]) (six4.app j hj6) s3' rfl hgx nI (by rw [List.length_map]; show _ < 1000000; omega) ?_
   intro v7 h7 gr
   have s7:=six4.grow hj6 gr
   rw [lsK_step hxk] at s7
   obtain ⟨n7,m7,k7,rfl,b7l⟩:=gr.blk
   have nO:∀ y,y < Hs.nx → ¬ Ow j y:=fun y hy hq=>by have:=(six.lo j y hq).1; omega
   have hB5:=six.hB
   have k4n:=k4.1
   have bb:=(gr.kp B5 (by omega) (nO B5 hB5)).1.trans six4.bl
   have bf:=(gr.kp B5 (by omega) (nO B5 hB5)).2.trans six4.fm
   simp (disch:=first|omega|simp only [aA,aB]<;>omega|decide) only [rUz,↓reduceIte,reduceEqDiff,reduceAdd,t5,ixL6 hj6]
   refine gI (B:=B5) (off:=j) (v:=.slice (some ⟨n7,0,none⟩) m7 k7) (by simp (disch:=first|omega|simp only [aA,aB]<;>omega|decide) only [rUz,↓reduceIte,reduceEqDiff,reduceAdd]) (by simp (disch:=first|omega|simp only [aA,aB]<;>omega|decide) only [rUz,↓reduceIte,reduceEqDiff,reduceAdd]) lI' rfl rfl bb bf (by rw [List.length_map,List.length_range]; exact hj6) ?_
   simp (disch:=first|omega|simp only [aA,aB]<;>omega|decide) only [rUz,↓reduceIte,reduceEqDiff,reduceAdd]
   repeat refine S.seq ?_
   refine S.region ?_
   simp (disch:=first|omega|simp only [aA,aB]<;>omega|decide) only [rUz,↓reduceIte,reduceEqDiff,reduceAdd,t24]
   refine hn2 (j + 1) _ _ (by omega) ⟨fun y hy hne=>?_,⟨_,_,s7⟩,?_,?_,?_,?_,?_,?_,?_,?_,by omega⟩
   ·rw [upd_ne _ _ _ hne,bM]
    have q1:=gr.kp y (by omega) (nO y hy)
    have q2:=kp y hy hne
    exact ⟨(q1.1.trans (k4.get (by omega))).trans q2.1,(q1.2.trans (k4.fget (by omega))).trans q2.2⟩
   all_goals (first|rfl|(simp (disch:=first|omega|simp only [aA,aB]<;>omega|decide) only [rUz,↓reduceIte,reduceEqDiff,reduceAdd,t0,t1,t5,t15,t16,t17,t23]<;>rfl))
  have hjn:j = 6:=by have:=of_decide_eq_false e; omega
  subst hjn
  have six':SixAt Hs.nx h B5 vf (fun j=>o6 q O j (k + 1)) Ow:=by
   refine ⟨six.bl,six.fm,fun j hj=>?_,six.lo,six.dj,six.hB,six.le⟩
   have:=six.app j hj
   unfold lsK at this
   rw [if_pos hj] at this
   exact this
  refine S.exit (he2 _ _ _ _ (fun e=>by cases e) ?_)
  simp (disch:=first|omega|simp only [aA,aB]<;>omega|decide) only [rUz,↓reduceIte,reduceEqDiff,reduceAdd]
  repeat refine S.seq ?_
  refine S.region ?_
  simp (disch:=first|omega|simp only [aA,aB]<;>omega|decide) only [rUz,↓reduceIte,reduceEqDiff,reduceAdd,t17]
  refine hn (k + 1) _ _ (by omega) ⟨kp,⟨vf,Ow,six'⟩,?_,?_,?_,?_,?_,?_,by omega⟩
  all_goals (first|rfl|(simp (disch:=first|omega|simp only [aA,aB]<;>omega|decide) only [rUz,↓reduceIte,reduceEqDiff,reduceAdd,t0,t1,t5,t15,t16]<;>rfl))
 have hkn:k = (dW O).length:=by have:=of_decide_eq_false e; omega
 subst hkn
 refine S.exit (he _ _ _ _ (fun e=>by cases e) ?_)
 have w1h:=(kp0.get w2).trans w1
 simp (disch:=first|omega|simp only [aA,aB]<;>omega|decide) only [rUz,↓reduceIte,reduceEqDiff,reduceAdd]
 repeat refine S.seq ?_
 refine S.region ?_
 simp (disch:=first|omega|simp only [aA,aB]<;>omega|decide) only [rUz,↓reduceIte,reduceEqDiff,reduceAdd,t0,w1h,aC fWk0 SB,aC fB0 lcO,qcO,wk0,lO,mQ]
 refine wr_makeRows (k:=O.length) slRg infoR zcR infoRb infoRs rfl (by simp (disch:=first|omega|simp only [aA,aB]<;>omega|decide) only [rUz,↓reduceIte,reduceEqDiff,reduceAdd]) (by simp (disch:=first|omega|simp only [aA,aB]<;>omega|decide) only [rUz,↓reduceIte,reduceEqDiff,reduceAdd]) (by omega) ?_
 rw [repl_rg]
 obtain ⟨Bl,hBl⟩:∃ x,x = h.nx:=⟨_,rfl⟩
 have kl:Kp h (h.add ((List.replicate O.length ((0,0):I2)).map c2).flatten):=Kp.refl.add
 have bl:(h.add ((List.replicate O.length ((0,0):I2)).map c2).flatten).bl.get Bl = some (.cells ((List.replicate O.length ((0,0):I2)).map c2).flatten Bl false):=by subst hBl; exact aP rfl
 have fl:(h.add ((List.replicate O.length ((0,0):I2)).map c2).flatten).fams.get Bl = some [Bl]:=by subst hBl; exact dL rfl
 have nlh:(h.add ((List.replicate O.length ((0,0):I2)).map c2).flatten).nx = h.nx + 1:=rfl
 rw [← hBl]
 generalize h.add ((List.replicate O.length ((0,0):I2)).map c2).flatten = H2 at kl bl fl nlh ⊢
 have lsl:∀ (t:T Value) (h1:AHeap) (o:Oper),qJ Tryz.prog t h1 o 27 (.slice (some ⟨Bl,0,none⟩) O.length O.length) = some (iv (O.length:Int)):=fun _ _ _=>lT isRg
 have six2:=six.kp kl
 have kp2:=kp0.trans kl
 simp (disch:=first|omega|simp only [aA,aB]<;>omega|decide) only [rUz,↓reduceIte,reduceEqDiff,reduceAdd]
 repeat refine S.seq ?_
 refine S.region ?_
 simp (disch:=first|omega|simp only [aA,aB]<;>omega|decide) only [rUz,↓reduceIte,reduceEqDiff,reduceAdd,lsl]
 repeat refine S.seq ?_
 refine S.block ?_
 refine S.loop (ι:=Nat) (IBl q O H2 B5 Bl O.length) (fun k=>O.length - k) ?_ 0 _ _ ?_
 rotate_left
 ·refine ⟨Fr.refl,⟨_,bl,List.length_replicate,fun j hj=>absurd hj (Nat.not_lt_zero _)⟩,?_,?_,?_,?_,Nat.zero_le _⟩
  all_goals (first|rfl|(simp (disch:=first|omega|simp only [aA,aB]<;>omega|decide) only [rUz,↓reduceIte,reduceEqDiff,reduceAdd,t5]<;>rfl))
 clear bl
 intro k t h ⟨fr,⟨L,bl,hL,hLb⟩,t5,t10,t46,t47,hk⟩ K' hn he
 have hle2:=fr.le
 repeat refine S.seq ?_
 refine S.region ?_
 simp (disch:=first|omega|simp only [aA,aB]<;>omega|decide) only [rUz,↓reduceIte,reduceEqDiff,reduceAdd,t46,t47]
 repeat refine S.seq ?_
 refine S.cond (v:=decide ((k:Int) < (O.length:Int))) (by first|rfl|(simp (disch:=first|omega|simp only [aA,aB]<;>omega|decide) only [rUz,↓reduceIte,reduceEqDiff,reduceAdd]<;>rfl)) (fun e=>?_) (fun e=>?_)
 ·have hkn:k < O.length:=by have:=of_decide_eq_true e; omega
  clear e
  have hk6:k < 6:=by omega
  have hB5:=six2.hB
  have hlos:=six2.lo
  have b5h:=(fr.bl B5 (by omega) (by omega)).trans six2.bl
  have hcell:((List.range 6).map vf)[k]? = some (vf k):=by rw [List.getElem?_map,List.getElem?_range hk6]; rfl
  have appk:=(six2.app k hk6).keep hle2 fun y hy ho=>⟨fr.bl y hy (by have:=(six.lo k y ho).2; omega),fr.fam y hy⟩
  obtain ⟨a,l,hal'⟩:∃ a l,o6 q O k (dW O).length = a :: l:=by
   cases e:o6 q O k (dW O).length with
   | nil =>
    have:=congrArg List.length e
    unfold o6 at this
    rw [List.length_map,List.length_take,Nat.min_self] at this
    exact absurd (List.length_eq_zero_iff.1 this) (all_ne hv)
   | cons a l=>exact ⟨a,l,rfl⟩
  have hbd:bdQ q O k = (l.foldl min2 a,l.foldl max2 a):=by unfold bdQ minL maxL; rw [hal']
  have hlen2:=lstQ_len q O k (dW O).length
  rw [hal'] at appk hlen2
  rw [List.length_cons] at hlen2
  obtain ⟨w,hw1,hw2⟩:=tail_of appk
  have iat:IAt h (vf k) (a :: l):=SlAt.ints appk.at
  obtain ⟨rb,rf,ro,r1,r2,r3,r4⟩:=iat.idx slI s3' (i:=0) (by rw [List.length_cons]; omega)
  have r1':bY Tryz.prog 35 (vf k) (iv 0) = some (.pointer (some ⟨rb,0,none⟩)):=r1 .i64
  have r4':((a :: l).map iv)[0]? = some (iv a):=rfl
  have ia:bY Tryz.prog 27 (.slice (some ⟨Bl,0,none⟩) O.length O.length) (iv (k:Int)) = some (.pointer (some ⟨Bl,k * 2,none⟩)):=by rw [eQ slRg scR hkn,Nat.zero_add]
  have hset:=uV (n:=2) kX L k (bdQ q O k) (by omega)
  repeat refine S.seq ?_
  refine S.skip ?_
  simp (disch:=first|omega|simp only [aA,aB]<;>omega|decide) only [rUz,↓reduceIte,reduceEqDiff,reduceAdd]
  repeat refine S.seq ?_
  refine S.block ?_
  repeat refine S.seq ?_
  refine S.region ?_
  simp (disch:=first|omega|simp only [aA,aB]<;>omega|decide) only [rUz,↓reduceIte,reduceEqDiff,reduceAdd,t47]
  repeat refine S.seq ?_
  refine S.drawnL [(false,0),(false,0),(false,0),(false,4),(false,12),(false,28),(false,60),(false,0),(false,128),(false,384),(false,896),(true,2044),(false,4095),(true,8191)] (by kernel_rfl) (by kernel_rfl) (by kernel_rfl) ?_
  simp (disch:=first|omega|simp only [aA,aB]<;>omega|decide) only [rUz,↓reduceIte,reduceEqDiff,reduceAdd,rDz,infoL,reduceSub,t10,t5,ixL6 hk6,b5h,qI,hcell,r1',r3,p3,r4',hw1]
  refine dC (fid:=69) (first:=#[]) (captured:=#[]) (Post:=fun u _=>u = .agg ⟨c2 (bdQ q O k)⟩) rfl (hoff _ _ _ rfl) (by simp (disch:=first|omega|simp only [aA,aB]<;>omega|decide) only [rUz,↓reduceIte,reduceEqDiff,reduceAdd]; exact (by rw [hbd]; exact boundsOf_y S hoff h a w l a hw2 (by omega))) (Nat.le_of_ble_eq_true rfl) ?_
  rintro u g hkg rfl
  refine ⟨?_,?_⟩
  ·try simp (disch:=first|decide|rfl) only [aK,aG,aH]
  simp (disch:=first|omega|simp only [aA,aB]<;>omega|decide) only [rUz,↓reduceIte,reduceEqDiff,reduceAdd,rDz,infoL,reduceSub,ia]
  have blg:=(hkg.get (by omega:Bl < h.nx)).trans bl
  have flg:=(hkg.fget (by omega:Bl < h.nx)).trans ((fr.fam Bl (by omega)).trans fl)
  refine fP (uU (B:=Bl) (off:=k * 2) (s:=2) (c:=(L.map c2).flatten) (ls:=c2 (bdQ q O k)) (by simp (disch:=first|omega|simp only [aA,aB]<;>omega|decide) only [rUz,↓reduceIte,reduceEqDiff,reduceAdd,rDz,infoL,reduceSub]) (by simp (disch:=first|omega|simp only [aA,aB]<;>omega|decide) only [rUz,↓reduceIte,reduceEqDiff,reduceAdd,rDz,infoL,reduceSub]) scR (by omega) rfl blg flg (by rw [flat_c2]; omega)) ?_ ?_
  ·try simp (disch:=first|decide|rfl) only [aK,aG,aH]
  rw [hset]
  simp (disch:=first|omega|simp only [aA,aB]<;>omega|decide) only [rUz,↓reduceIte,reduceEqDiff,reduceAdd,rDz,infoL,reduceSub]
  repeat refine S.seq ?_
  refine S.region ?_
  simp (disch:=first|omega|simp only [aA,aB]<;>omega|decide) only [rUz,↓reduceIte,reduceEqDiff,reduceAdd,t47]
  refine hn (k + 1) _ _ (by omega) ⟨(fr.kp hkg).upd,⟨L.set k (bdQ q O k),aO _ _ _,by rw [List.length_set,hL],fun j hj=>?_⟩,?_,?_,?_,?_,by omega⟩
  ·rw [List.getElem?_set]
   by_cases hjk:k = j
   ·subst hjk; rw [if_pos rfl,if_pos (by omega)]
   ·rw [if_neg hjk]; exact hLb j (by omega)
  all_goals (first|rfl|(simp (disch:=first|omega|simp only [aA,aB]<;>omega|decide) only [rUz,↓reduceIte,reduceEqDiff,reduceAdd,t5,t10,t46]<;>rfl))
 have hkn:k = O.length:=by have:=of_decide_eq_false e; omega
 subst hkn
 have hLe:L = (List.range O.length).map (bdQ q O):=by
  apply List.ext_getElem?
  intro j
  by_cases hj:j < O.length
  ·rw [hLb j hj,List.getElem?_map,List.getElem?_range hj]; rfl
  ·rw [List.getElem?_eq_none (by omega),List.getElem?_eq_none (by rw [List.length_map,List.length_range]; omega)]
 subst hLe
 refine S.exit (he _ _ _ _ (fun e=>by cases e) ?_)
 simp (disch:=first|omega|simp only [aA,aB]<;>omega|decide) only [rUz,↓reduceIte,reduceEqDiff,reduceAdd]
 repeat refine S.seq ?_
 refine S.region ?_
 simp (disch:=first|omega|simp only [aA,aB]<;>omega|decide) only [rUz,↓reduceIte,reduceEqDiff,reduceAdd,t10]
 refine S.ret ?_
 try simp only [aJ,aF]
 subst hF
 simp only [finish,aI]
 rw [show Tryz.f47.results.toList = [.tmp 4] from rfl]
 simp (disch:=first|omega|simp only [aA,aB]<;>omega|decide) only [bK,aY,aS,aT,aQ,aU,aO,upd_ne,aP,aW,result1]
 have hk2:=kp2.1
 exact hK _ _ (fr.toKp kp2 (by have:=kp0.1; omega)) ⟨Bl,rfl,by have:=kp0.1; omega,by omega,bl⟩
end Go.Proofs.Po

/- What is filled of all orders; the orders that are surely filled. -/
namespace Go.Proofs.Po
open Nat (reduceEqDiff reduceAdd reduceSub)
open Go Go.Ev Go.RowKit
set_option linter.unusedSimpArgs false
variable {pr:Prim} {R:ExT}
def qN (s:Sa):Int:=s.nu
def qM (s:Sa):Int:=s.nu * s.pr
def vT (q:Sa → Int) (O:List Od):List I2:=(List.range O.length).map (bdQ q O)
theorem rowsQ_len (q:Sa → Int) (O:List Od):(vT q O).length = O.length:=by unfold vT; rw [List.length_map,List.length_range]
theorem qC {q:Sa → Int} {O:List Od} {j:Nat} (hj:j < O.length):(vT q O)[j]? = some (bdQ q O j):=by unfold vT; rw [List.getElem?_map,List.getElem?_range hj]; rfl
def FillsAt (O:List Od) (u:Value) (h:AHeap):Prop:=
 (dY O = 0 ∧ ∃ f m,u = .tuple ⟨[f,m,iv 0]⟩ ∧ SlAt h 2 f ((vT qN O).map c2) ∧ SlAt h 2 m ((vT qM O).map c2)) ∨ (dY O ≠ 0 ∧ u = .tuple ⟨[nl,nl,iv (dY O)]⟩)
theorem rg_at {h:AHeap} {B n:Nat} {L:List I2} (hL:L.length = n) (hn:1 ≤ n) (hB:B < h.nx) (hb:h.bl.get B = some (.cells (L.map c2).flatten B false)):SlAt h 2 (.slice (some ⟨B,0,none⟩) n n) (L.map c2):=by
 subst hL
 refine .inr ⟨B,_,B,false,?_,by rw [List.length_map],hB,hb,fun c hc=>?_⟩
 ·intro e; have:=congrArg List.length e; rw [List.length_map] at this; simp at this; subst this; simp at hn
 ·obtain ⟨y,_,rfl⟩:=List.mem_map.1 hc; rfl
theorem fills_y (S:Ev.Steps Tryz.prog pr R) (hoff:Off pr) (h0:AHeap) (v:Value) (O:List Od) (hb:PoAt h0 v O) (h9:O.length ≤ 9) :
  bD Tryz.prog R 12 [.agg ⟨poV v⟩] h0 (FillsAt O):=by
 refine aV (fn:=Tryz.f12) (c:=(Tryz.f12.body).getD .skip) (by kernel_rfl) rfl (by kernel_rfl) rfl (fun K hK=>?_)
 generalize hF:finish Tryz.prog Tryz.f12 K = KF
 simp only [Tryz.f12,Option.getD_some,bJ,aX,aZ,T.setK_eq,id]
 repeat refine S.seq ?_
 refine S.region ?_
 simp (disch:=first|omega|simp only [aA,aB]<;>omega|decide) only [rUz,↓reduceIte,reduceEqDiff,reduceAdd]
 have hb1:(h0.add (poV v)).bl.get h0.nx = some (.cells (poV v) h0.nx false):=aP rfl
 have hn1:h0.nx < (h0.add (poV v)).nx:=Nat.lt_succ_self _
 have hk1:Kp h0 (h0.add (poV v)):=Kp.refl.add
 generalize h0.add (poV v) = H at hb1 hn1 hk1 ⊢
 generalize h0.nx = B1 at hb1 hn1 ⊢
 have hbH:=hb.mono hk1
 repeat refine S.seq ?_
 refine S.region ?_
 simp (disch:=first|omega|simp only [aA,aB]<;>omega|decide) only [rUz,↓reduceIte,reduceEqDiff,reduceAdd,hb1,bT pB (dR v)]
 refine bC (fid:=45) (first:=#[]) (captured:=#[]) (Post:=fun u _=>u = iv (dY O)) rfl (hoff _ _ _ rfl) (by simp (disch:=first|omega|simp only [aA,aB]<;>omega|decide) only [rUz,↓reduceIte,reduceEqDiff,reduceAdd]; exact checkPost_y S hoff H v O hbH h9) ?_
 rintro u g hkg rfl
 have hb1g:=(hkg.get hn1).trans hb1
 have hn1g:=Nat.lt_of_lt_of_le hn1 hkg.1
 simp (disch:=first|omega|simp only [aA,aB]<;>omega|decide) only [rUz,↓reduceIte,reduceEqDiff,reduceAdd]
 cases h1:decide (dY O = 0) with
 | false =>
  have hz:=of_decide_eq_false h1
  repeat refine S.seq ?_
  refine S.region ?_
  simp (disch:=first|omega|simp only [aA,aB]<;>omega|decide) only [rUz,↓reduceIte,reduceEqDiff,reduceAdd,h1,Bool.not_false]
  repeat refine S.seq ?_
  refine S.cond (v:=true) (by first|rfl|(simp (disch:=first|omega|simp only [aA,aB]<;>omega|decide) only [rUz,↓reduceIte,reduceEqDiff,reduceAdd]<;>rfl)) (fun _=>?_) (fun e=>by cases e)
  repeat refine S.seq ?_
  refine S.region ?_
  simp (disch:=first|omega|simp only [aA,aB]<;>omega|decide) only [rUz,↓reduceIte,reduceEqDiff,reduceAdd]
  refine S.ret ?_
  try simp only [aJ,aF]
  subst hF
  simp only [finish,aI]
  rw [show Tryz.f12.results.toList = [.tmp 2,.tmp 3,.tmp 4] from rfl]
  simp (disch:=first|omega|simp only [aA,aB]<;>omega|decide) only [bK,aY,aS,aT,aQ,aU,aO,upd_ne,aP,aW,result1]
  exact hK _ _ (hk1.trans hkg) (.inr ⟨hz,rfl⟩)
 | true =>
 have hz:=of_decide_eq_true h1
 have hv:=nM.1 hz
 repeat refine S.seq ?_
 refine S.region ?_
 simp (disch:=first|omega|simp only [aA,aB]<;>omega|decide) only [rUz,↓reduceIte,reduceEqDiff,reduceAdd,h1,Bool.not_true]
 repeat refine S.seq ?_
 refine S.cond (v:=false) (by first|rfl|(simp (disch:=first|omega|simp only [aA,aB]<;>omega|decide) only [rUz,↓reduceIte,reduceEqDiff,reduceAdd]<;>rfl)) (fun e=>by cases e) (fun _=>?_)
 repeat refine S.seq ?_
 refine S.skip ?_
 simp (disch:=first|omega|simp only [aA,aB]<;>omega|decide) only [rUz,↓reduceIte,reduceEqDiff,reduceAdd]
 have hk2:=hk1.trans hkg
 repeat refine S.seq ?_
 refine S.region ?_
 simp (disch:=first|omega|simp only [aA,aB]<;>omega|decide) only [rUz,↓reduceIte,reduceEqDiff,reduceAdd,hb1g,bT pB (dR v)]
 refine bC (fid:=46) (first:=#[]) (captured:=#[]) (Post:=fun u h=>∃ Bw,u = bG Bw ∧ g.nx ≤ Bw ∧ WkAt h Bw v O) rfl (hoff _ _ _ rfl) (by simp (disch:=first|omega|simp only [aA,aB]<;>omega|decide) only [rUz,↓reduceIte,reduceEqDiff,reduceAdd]; exact begin_y S hoff g v O (hb.mono hk2) hv) ?_
 rintro u g2 hkg2 ⟨Bw,rfl,_,hw⟩
 have hk3:=hk2.trans hkg2
 simp (disch:=first|omega|simp only [aA,aB]<;>omega|decide) only [rUz,↓reduceIte,reduceEqDiff,reduceAdd]
 repeat refine S.seq ?_
 refine S.region ?_
 simp (disch:=first|omega|simp only [aA,aB]<;>omega|decide) only [rUz,↓reduceIte,reduceEqDiff,reduceAdd]
 refine bC (fid:=47) (first:=#[]) (captured:=#[]) (Post:=fun u h=>∃ B,u = .slice (some ⟨B,0,none⟩) O.length O.length ∧ g2.nx ≤ B ∧ B < h.nx ∧ h.bl.get B = some (.cells (((List.range O.length).map (bdQ qN O)).map c2).flatten B false)) rfl (hoff _ _ _ rfl) (by simp (disch:=first|omega|simp only [aA,aB]<;>omega|decide) only [rUz,↓reduceIte,reduceEqDiff,reduceAdd]; exact bounds_y S hoff g2 Bw v O (hb.mono hk3) hv hw qN 48 rfl (fun s hs=>by have:=hs.n0; have:=hs.n1; unfold qN; omega) (fun h' s _=>nu_y S h' s)) ?_
 rintro u g3 hkg3 ⟨Bf,rfl,_,bf1,bf2⟩
 have hk4:=hk3.trans hkg3
 simp (disch:=first|omega|simp only [aA,aB]<;>omega|decide) only [rUz,↓reduceIte,reduceEqDiff,reduceAdd]
 refine bC (fid:=47) (first:=#[]) (captured:=#[]) (Post:=fun u h=>∃ B,u = .slice (some ⟨B,0,none⟩) O.length O.length ∧ g3.nx ≤ B ∧ B < h.nx ∧ h.bl.get B = some (.cells (((List.range O.length).map (bdQ qM O)).map c2).flatten B false)) rfl (hoff _ _ _ rfl) (by simp (disch:=first|omega|simp only [aA,aB]<;>omega|decide) only [rUz,↓reduceIte,reduceEqDiff,reduceAdd]; exact bounds_y S hoff g3 Bw v O (hb.mono hk4) hv (hw.mono hkg3) qM 49 rfl (fun s hs=>sa_mul hs) (fun h' s hs=>mo_y S h' s hs)) ?_
 rintro u g4 hkg4 ⟨Bm,rfl,_,bm1,bm2⟩
 simp (disch:=first|omega|simp only [aA,aB]<;>omega|decide) only [rUz,↓reduceIte,reduceEqDiff,reduceAdd]
 refine S.ret ?_
 try simp only [aJ,aF]
 subst hF
 simp only [finish,aI]
 rw [show Tryz.f12.results.toList = [.tmp 2,.tmp 3,.tmp 4] from rfl]
 simp (disch:=first|omega|simp only [aA,aB]<;>omega|decide) only [bK,aY,aS,aT,aQ,aU,aO,upd_ne,aP,aW,result1]
 refine hK _ _ (hk4.trans hkg4) (.inl ⟨hz,_,_,rfl,(rg_at (rowsQ_len _ _) hv.l1 bf1 bf2).mono hkg4,rg_at (rowsQ_len _ _) hv.l1 bm1 bm2⟩)
/-- The orders that are surely filled. -/
def xX (O:List Od):List Od → Nat → List Int
 | [],_=>[]
 | x :: l,i=>bif decide ((bdQ qN O i).1 = x.n) then (i:Int) :: xX O l (i + 1) else xX O l (i + 1)
def xY (O:List Od):List Int:=xX O O 0
def SureAt (O:List Od) (u:Value) (h:AHeap):Prop:=
 (dY O = 0 ∧ ∃ f,u = .tuple ⟨[f,iv 0]⟩ ∧ IS h f (xY O)) ∨ (dY O ≠ 0 ∧ u = .tuple ⟨[nl,iv (dY O)]⟩)
structure ISr (O:List Od) (H:AHeap) (B1:Nat) (v fv:Value) (k:Nat) (t:T Value) (h:AHeap):Prop where
 kp:Kp H h
 ex:∃ (cs:List Int) (vp:Value) (F:Nat),App H.nx h 1 vp (i1 cs) F ∧ cs ++ xX O (O.drop k) k = xY O ∧ cs.length ≤ k ∧ tget t 7 = vp
 t4:tget t 4 = fv
 t20:tget t 20 = v
 t21:tget t 21 = iv (O.length:Int)
 t22:tget t 22 = iv (k:Int)
 hk:k ≤ O.length
theorem surely_y (S:Ev.Steps Tryz.prog pr R) (hoff:Off pr) (h0:AHeap) (v:Value) (O:List Od) (hb:PoAt h0 v O) (h9:O.length ≤ 9) :
  bD Tryz.prog R 14 [.agg ⟨poV v⟩] h0 (SureAt O):=by
 refine aV (fn:=Tryz.f14) (c:=(Tryz.f14.body).getD .skip) (by kernel_rfl) rfl (by kernel_rfl) rfl (fun K hK=>?_)
 generalize hF:finish Tryz.prog Tryz.f14 K = KF
 simp only [Tryz.f14,Option.getD_some,bJ,aX,aZ,T.setK_eq,id]
 have lO:=fun t h1 o=>dQ hb iscO t h1 o
 repeat refine S.seq ?_
 refine S.region ?_
 simp (disch:=first|omega|simp only [aA,aB]<;>omega|decide) only [rUz,↓reduceIte,reduceEqDiff,reduceAdd]
 obtain ⟨B1,hB1⟩:∃ x,x = h0.nx:=⟨_,rfl⟩
 have hb1:(h0.add (poV v)).bl.get B1 = some (.cells (poV v) B1 false):=by subst hB1; exact aP rfl
 have hn1:B1 < (h0.add (poV v)).nx:=by subst hB1; exact Nat.lt_succ_self _
 have hk1:Kp h0 (h0.add (poV v)):=Kp.refl.add
 rw [← hB1]
 generalize h0.add (poV v) = H at hb1 hn1 hk1 ⊢
 have hbH:=hb.mono hk1
 repeat refine S.seq ?_
 refine S.region ?_
 simp (disch:=first|omega|simp only [aA,aB]<;>omega|decide) only [rUz,↓reduceIte,reduceEqDiff,reduceAdd,hb1,bT pB (dR v)]
 refine bC (fid:=12) (first:=#[]) (captured:=#[]) (Post:=FillsAt O) rfl (hoff _ _ _ rfl) (by simp (disch:=first|omega|simp only [aA,aB]<;>omega|decide) only [rUz,↓reduceIte,reduceEqDiff,reduceAdd]; exact fills_y S hoff H v O hbH h9) ?_
 rintro u g hkg hf
 have hb1g:=(hkg.get hn1).trans hb1
 have hk2:=hk1.trans hkg
 rcases hf with ⟨hz,f,m,rfl,hff,hmm⟩|⟨hz,rfl⟩
 ·have tq0:(⟨[f,m,iv 0]⟩:Array Value)[0]? = some f:=rfl
  have tq1:(⟨[f,m,iv 0]⟩:Array Value)[1]? = some m:=rfl
  have tq2:(⟨[f,m,iv 0]⟩:Array Value)[2]? = some (iv 0):=rfl
  have hv:=nM.1 hz
  have d0:decide ((0:Int) = 0) = true:=rfl
  simp (disch:=first|omega|simp only [aA,aB]<;>omega|decide) only [rUz,↓reduceIte,reduceEqDiff,reduceAdd,dP,tq0,tq1,tq2]
  repeat refine S.seq ?_
  refine S.region ?_
  simp (disch:=first|omega|simp only [aA,aB]<;>omega|decide) only [rUz,↓reduceIte,reduceEqDiff,reduceAdd,d0,Bool.not_true]
  repeat refine S.seq ?_
  refine S.cond (v:=false) (by first|rfl|(simp (disch:=first|omega|simp only [aA,aB]<;>omega|decide) only [rUz,↓reduceIte,reduceEqDiff,reduceAdd]<;>rfl)) (fun e=>by cases e) (fun _=>?_)
  repeat refine S.seq ?_
  refine S.skip ?_
  simp (disch:=first|omega|simp only [aA,aB]<;>omega|decide) only [rUz,↓reduceIte,reduceEqDiff,reduceAdd]
  repeat refine S.seq ?_
  refine S.region ?_
  simp (disch:=first|omega|simp only [aA,aB]<;>omega|decide) only [rUz,↓reduceIte,reduceEqDiff,reduceAdd]
  repeat refine S.seq ?_
  refine S.region ?_
  simp (disch:=first|omega|simp only [aA,aB]<;>omega|decide) only [rUz,↓reduceIte,reduceEqDiff,reduceAdd,hb1g,aC fB0 lcO,qcO,po0,lO]
  repeat refine S.seq ?_
  refine S.block ?_
  refine S.loop (ι:=Nat) (ISr O g B1 v f) (fun k=>O.length - k) ?_ 0 _ _ ?_
  rotate_left
  ·refine ⟨Kp.refl,⟨[],nl,0,.inl ⟨rfl,rfl⟩,rfl,Nat.le_refl _,?_⟩,?_,?_,?_,?_,Nat.zero_le _⟩
   all_goals (first|rfl|(simp (disch:=first|omega|simp only [aA,aB]<;>omega|decide) only [rUz,↓reduceIte,reduceEqDiff,reduceAdd]<;>rfl))
  intro k t h ⟨kp,⟨cs,vp,F,app,hcs,hcl,t7⟩,t4,t20,t21,t22,hk⟩ K' hn he
  have hnx:=kp.1
  repeat refine S.seq ?_
  refine S.region ?_
  simp (disch:=first|omega|simp only [aA,aB]<;>omega|decide) only [rUz,↓reduceIte,reduceEqDiff,reduceAdd,t21,t22]
  repeat refine S.seq ?_
  refine S.cond (v:=decide ((k:Int) < (O.length:Int))) (by first|rfl|(simp (disch:=first|omega|simp only [aA,aB]<;>omega|decide) only [rUz,↓reduceIte,reduceEqDiff,reduceAdd]<;>rfl)) (fun e=>?_) (fun e=>?_)
  ·have hkn:k < O.length:=by have:=of_decide_eq_true e; omega
   clear e
   have h6:=hv.l6
   rw [List.drop_eq_getElem_cons hkn] at hcs
   simp only [xX] at hcs
   have hps:O[k]? = some O[k]:=List.getElem?_eq_getElem hkn
   generalize O[k] = x at hcs hps
   obtain ⟨b,f1,ro,cells,q1,q2,q3,q4,q5,_⟩:=dM (PoAt.mono hb (hk2.trans kp)) slcO scO hps
   have qp:=gQ pcO q4 q5
   obtain ⟨rb,rf,rro,rcells,r1,r2,r3,r4,r5,r6⟩:=dM (SlAt.mono hff kp) slRg scR (qC (q:=qN) hkn)
   have r60:=r6 0 (iv (bdQ qN O k).1) rfl
   rw [Nat.add_zero] at r60
   repeat refine S.seq ?_
   refine S.skip ?_
   simp (disch:=first|omega|simp only [aA,aB]<;>omega|decide) only [rUz,↓reduceIte,reduceEqDiff,reduceAdd]
   repeat refine S.seq ?_
   refine S.block ?_
   repeat refine S.seq ?_
   refine S.region ?_
   simp (disch:=first|omega|simp only [aA,aB]<;>omega|decide) only [rUz,↓reduceIte,reduceEqDiff,reduceAdd,t20,t22,q1,q3,qp,cO zcO]
   refine dF (B:=h.nx) (c:=[.bool false,iv 0,iv 0,iv 0,iv 0]) (fam:=h.nx) (k:=h.nx) (l:=cOd x) (by simp (disch:=first|omega|simp only [aA,aB]<;>omega|decide) only [rUz,↓reduceIte,reduceEqDiff,reduceAdd]) (by simp (disch:=first|omega|simp only [aA,aB]<;>omega|decide) only [rUz,↓reduceIte,reduceEqDiff,reduceAdd]) scO (by omega) rfl (aP rfl) (dL rfl) rfl ?_
   have hk4:Kp h ((h.add [.bool false,iv 0,iv 0,iv 0,iv 0]).upd h.nx (cOd x) h.nx):=Kp.refl.add.upd (Nat.le_refl _)
   have hg4:((h.add [.bool false,iv 0,iv 0,iv 0,iv 0]).upd h.nx (cOd x) h.nx).bl.get h.nx = some (.cells (cOd x) h.nx false):=aO _ _ _
   simp (disch:=first|omega|simp only [aA,aB]<;>omega|decide) only [rUz,↓reduceIte,reduceEqDiff,reduceAdd]
   generalize (h.add [.bool false,iv 0,iv 0,iv 0,iv 0]).upd h.nx (cOd x) h.nx = g4 at hk4 hg4 ⊢
   have r3g:=(hk4.get r2).trans r3
   have kp4:=kp.trans hk4
   have hnx4:=kp4.1
   generalize h.nx = B9 at hg4 ⊢
   repeat refine S.seq ?_
   refine S.drawnL [(false,0),(false,0),(false,3),(false,7),(false,15),(false,0),(false,32),(false,127)] (by kernel_rfl) (by kernel_rfl) (by kernel_rfl) ?_
   simp (disch:=first|omega|simp only [aA,aB]<;>omega|decide) only [rUz,↓reduceIte,reduceEqDiff,reduceAdd,rDz,infoL,reduceSub,t4,t22,r1,r3g,aC fcR0 s3,p3,r60,hg4,aC fcO2 s3,cOd2]
   cases hq:decide ((bdQ qN O k).1 = x.n) with
   | true =>
    rw [hq,cond_true] at hcs
    repeat refine S.seq ?_
    refine S.cond (v:=true) (by first|rfl|(simp (disch:=first|omega|simp only [aA,aB]<;>omega|decide) only [rUz,↓reduceIte,reduceEqDiff,reduceAdd,hq]<;>rfl)) (fun _=>?_) (fun e=>by cases e)
    repeat refine S.seq ?_
    refine S.region ?_
    simp (disch:=first|omega|simp only [aA,aB]<;>omega|decide) only [rUz,↓reduceIte,reduceEqDiff,reduceAdd,t7,t22,fH]
    refine uT slI s3' z3 rfl (by omega) (u:=iv (k:Int)) (l:=[iv (k:Int)]) (by simp (disch:=first|omega|simp only [aA,aB]<;>omega|decide) only [rUz,↓reduceIte,reduceEqDiff,reduceAdd]) rfl rfl ?_
    simp (disch:=first|omega|simp only [aA,aB]<;>omega|decide) only [rUz,↓reduceIte,reduceEqDiff,reduceAdd,kW]
    refine wr_append slI uI (v:=vp) (bx:=g4.nx) (cx:=1) (c:=[iv (k:Int)]) (by simp (disch:=first|omega|simp only [aA,aB]<;>omega|decide) only [rUz,↓reduceIte,reduceEqDiff,reduceAdd,t7]) (by simp (disch:=first|omega|simp only [aA,aB]<;>omega|decide) only [rUz,↓reduceIte,reduceEqDiff,reduceAdd]) ((app.mono hk4).mono (Kp.refl.add (c:=[iv (k:Int)]))) (by show g.nx ≤ g4.nx + 1; omega) s3' rfl (by omega) (aP rfl) nI (by rw [List.length_map]; show _ < 1000000; omega) ?_
    intro v7 h3 F3 gapp gsm _ _ _
    have kp3:Kp g h3:=gsm.kp (Nat.le_refl _) (kp4.add)
    simp (disch:=first|omega|simp only [aA,aB]<;>omega|decide) only [rUz,↓reduceIte,reduceEqDiff,reduceAdd]
    repeat refine S.seq ?_
    refine S.region ?_
    simp (disch:=first|omega|simp only [aA,aB]<;>omega|decide) only [rUz,↓reduceIte,reduceEqDiff,reduceAdd,t22]
    refine hn (k + 1) _ _ (by omega) ⟨kp3,⟨cs ++ [(k:Int)],v7,F3,by rw [show i1 (cs ++ [(k:Int)]) = i1 cs ++ [[iv (k:Int)]] from List.map_append]; exact gapp,by rw [List.append_assoc]; exact hcs,by rw [List.length_append]; show cs.length + 1 ≤ _; omega,?_⟩,?_,?_,?_,?_,by omega⟩
    all_goals (first|rfl|(simp (disch:=first|omega|simp only [aA,aB]<;>omega|decide) only [rUz,↓reduceIte,reduceEqDiff,reduceAdd,t4,t20,t21]<;>rfl))
   | false =>
    rw [hq,cond_false] at hcs
    repeat refine S.seq ?_
    refine S.cond (v:=false) (by first|rfl|(simp (disch:=first|omega|simp only [aA,aB]<;>omega|decide) only [rUz,↓reduceIte,reduceEqDiff,reduceAdd,hq]<;>rfl)) (fun e=>by cases e) (fun _=>?_)
    repeat refine S.seq ?_
    refine S.skip ?_
    simp (disch:=first|omega|simp only [aA,aB]<;>omega|decide) only [rUz,↓reduceIte,reduceEqDiff,reduceAdd]
    repeat refine S.seq ?_
    refine S.region ?_
    simp (disch:=first|omega|simp only [aA,aB]<;>omega|decide) only [rUz,↓reduceIte,reduceEqDiff,reduceAdd,t22]
    refine hn (k + 1) _ _ (by omega) ⟨kp4,⟨cs,vp,F,app.mono hk4,hcs,by omega,?_⟩,?_,?_,?_,?_,by omega⟩
    all_goals (first|rfl|(simp (disch:=first|omega|simp only [aA,aB]<;>omega|decide) only [rUz,↓reduceIte,reduceEqDiff,reduceAdd,t4,t7,t20,t21]<;>rfl))
  have hkn:k = O.length:=by have:=of_decide_eq_false e; omega
  subst hkn
  rw [List.drop_of_length_le (Nat.le_refl _)] at hcs
  have hcs':cs = xY O:=by rw [← hcs]; simp [xX]
  subst hcs'
  refine S.exit (he _ _ _ _ (fun e=>by cases e) ?_)
  simp (disch:=first|omega|simp only [aA,aB]<;>omega|decide) only [rUz,↓reduceIte,reduceEqDiff,reduceAdd]
  repeat refine S.seq ?_
  refine S.region ?_
  simp (disch:=first|omega|simp only [aA,aB]<;>omega|decide) only [rUz,↓reduceIte,reduceEqDiff,reduceAdd,t7]
  refine S.ret ?_
  try simp only [aJ,aF]
  subst hF
  simp only [finish,aI]
  rw [show Tryz.f14.results.toList = [.tmp 2,.tmp 3] from rfl]
  simp (disch:=first|omega|simp only [aA,aB]<;>omega|decide) only [bK,aY,aS,aT,aQ,aU,aO,upd_ne,aP,aW,result1]
  exact hK _ _ (hk2.trans kp) (.inl ⟨hz,_,rfl,app.at⟩)
 ·have tq0:(⟨[nl,nl,iv (dY O)]⟩:Array Value)[0]? = some nl:=rfl
  have tq1:(⟨[nl,nl,iv (dY O)]⟩:Array Value)[1]? = some nl:=rfl
  have tq2:(⟨[nl,nl,iv (dY O)]⟩:Array Value)[2]? = some (iv (dY O)):=rfl
  have d0:decide (dY O = 0) = false:=decide_eq_false hz
  simp (disch:=first|omega|simp only [aA,aB]<;>omega|decide) only [rUz,↓reduceIte,reduceEqDiff,reduceAdd,dP,tq0,tq1,tq2]
  repeat refine S.seq ?_
  refine S.region ?_
  simp (disch:=first|omega|simp only [aA,aB]<;>omega|decide) only [rUz,↓reduceIte,reduceEqDiff,reduceAdd,d0,Bool.not_false]
  repeat refine S.seq ?_
  refine S.cond (v:=true) (by first|rfl|(simp (disch:=first|omega|simp only [aA,aB]<;>omega|decide) only [rUz,↓reduceIte,reduceEqDiff,reduceAdd]<;>rfl)) (fun _=>?_) (fun e=>by cases e)
  repeat refine S.seq ?_
  refine S.region ?_
  simp (disch:=first|omega|simp only [aA,aB]<;>omega|decide) only [rUz,↓reduceIte,reduceEqDiff,reduceAdd]
  refine S.ret ?_
  try simp only [aJ,aF]
  subst hF
  simp only [finish,aI]
  rw [show Tryz.f14.results.toList = [.tmp 2,.tmp 3] from rfl]
  simp (disch:=first|omega|simp only [aA,aB]<;>omega|decide) only [bK,aY,aS,aT,aQ,aU,aO,upd_ne,aP,aW,result1]
  exact hK _ _ hk2 (.inr ⟨hz,rfl⟩)
end Go.Proofs.Po
