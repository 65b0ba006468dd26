import Derived.Test.YthgmipngikdknaaGreatPoE
/- What a sale changes. -/
set_option maxHeartbeats 32000000
namespace Go.Proofs.Po
open Nat (reduceEqDiff reduceAdd reduceSub)
open Go Go.Ev Go.RowKit
set_option linter.unusedSimpArgs false
variable {pr:Prim} {R:ExT}
abbrev fBu:Value:=.func (.func 111) #[] #[]
abbrev fSe:Value:=.func (.func 112) #[] #[]
theorem zSd:zeroOf Tryz.prog 154 = some (.agg ⟨[.nilFunc]⟩):=by kernel_rfl
theorem sSd:bH Tryz.prog 154 = some 1:=by kernel_rfl
theorem zSd2:zeroOf Tryz.prog 155 = some (.agg ⟨[.nilFunc,.nilFunc]⟩):=by kernel_rfl
theorem sSd2:bH Tryz.prog 155 = some 2:=by kernel_rfl
theorem bSd (f:FuncId):fG Tryz.prog 154 [(0,.func (.func f) #[] #[])] = some (.agg ⟨[.func (.func f) #[] #[]]⟩):=by kernel_rfl
theorem bSd2 (f g:FuncId):fG Tryz.prog 155 [(0,.agg ⟨[.func (.func f) #[] #[]]⟩),(1,.agg ⟨[.func (.func g) #[] #[]]⟩)] = some (.agg ⟨[.func (.func f) #[] #[],.func (.func g) #[] #[]]⟩):=by kernel_rfl
theorem pSd2 (c:List Value) (o:Nat):dD Tryz.prog 155 c o = bif Nat.ble (Nat.add o 2) c.length then some (.agg ⟨(c.drop o).take 2⟩) else none:=by kernel_rfl
theorem fSd0:bZ Tryz.prog 154 0 = some (0,91):=by kernel_rfl
theorem lFn:bH Tryz.prog 91 = some (0 + 1):=by kernel_rfl
theorem qFn (c:List Value) (o:Nat):dD Tryz.prog 91 c o = c[o]?:=by kernel_rfl
def sdV:List Value:=[fBu,fSe]
theorem sides_y (S:Ev.Steps Tryz.prog pr R) (h0:AHeap):bD Tryz.prog R 91 [] h0 fun u _=>u = .agg ⟨sdV⟩:=by
 refine aV (fn:=Tryz.f91) (c:=(Tryz.f91.body).getD .skip) (by kernel_rfl) rfl (by kernel_rfl) rfl (fun K hK=>?_)
 generalize hF:finish Tryz.prog Tryz.f91 K = KF
 simp only [Tryz.f91,Option.getD_some,bJ,aX,aZ,T.setK_eq,id]
 repeat refine S.seq ?_
 refine S.region ?_
 simp (disch:=first|omega|simp only [aA,aB]<;>omega|decide) only [rUz,↓reduceIte,reduceEqDiff,reduceAdd,cO zSd2]
 repeat refine S.seq ?_
 refine S.region ?_
 simp (disch:=first|omega|simp only [aA,aB]<;>omega|decide) only [rUz,↓reduceIte,reduceEqDiff,reduceAdd,fF,List.map_cons,List.map_nil,bSd,bSd2]
 refine dF (B:=h0.nx) (c:=[.nilFunc,.nilFunc]) (fam:=h0.nx) (k:=h0.nx) (l:=sdV) (by simp (disch:=first|omega|simp only [aA,aB]<;>omega|decide) only [rUz,↓reduceIte,reduceEqDiff,reduceAdd]) (by simp (disch:=first|omega|simp only [aA,aB]<;>omega|decide) only [rUz,↓reduceIte,reduceEqDiff,reduceAdd]; rfl) sSd2 (by omega) rfl (by simp (disch:=first|omega|simp only [aA,aB]<;>omega|decide) only [rUz,↓reduceIte,reduceEqDiff,reduceAdd]) (by simp (disch:=first|omega|simp only [aA,aB]<;>omega|decide) only [rUz,↓reduceIte,reduceEqDiff,reduceAdd]) rfl ?_
 simp (disch:=first|omega|simp only [aA,aB]<;>omega|decide) only [rUz,↓reduceIte,reduceEqDiff,reduceAdd]
 refine S.ret ?_
 try simp only [aJ,aF]
 subst hF
 simp only [finish,aI]
 rw [show Tryz.f91.results.toList = [.cell 0 155] from rfl]
 simp (disch:=first|omega|simp only [aA,aB]<;>omega|decide) only [bK,aY,aS,aT,aQ,aU,aO,upd_ne,aP,aW,result1,bT pSd2 (show sdV.length = 2 from rfl)]
 exact hK _ _ (Kp.refl.add.upd (Nat.le_refl _)) rfl
theorem buyer_y (S:Ev.Steps Tryz.prog pr R) (h0:AHeap) (s:Sa):bD Tryz.prog R 111 [.agg ⟨cSa s⟩] h0 fun u h=>u = iv s.bu ∧ h = h0.add (cSa s):=by
 refine aV (fn:=Tryz.f111) (c:=(Tryz.f111.body).getD .skip) (by kernel_rfl) rfl (by kernel_rfl) rfl (fun K hK=>?_)
 generalize hF:finish Tryz.prog Tryz.f111 K = KF
 simp only [Tryz.f111,Option.getD_some,bJ,aX,aZ,T.setK_eq,id]
 repeat refine S.seq ?_
 refine S.region ?_
 simp (disch:=first|omega|simp only [aA,aB]<;>omega|decide) only [rUz,↓reduceIte,reduceEqDiff,reduceAdd]
 repeat refine S.seq ?_
 refine S.region ?_
 simp (disch:=first|omega|simp only [aA,aB]<;>omega|decide) only [rUz,↓reduceIte,reduceEqDiff,reduceAdd,aC fcS0 s3,p3,cSa0]
 refine S.ret ?_
 try simp only [aJ,aF]
 subst hF
 simp only [finish,aI]
 rw [show Tryz.f111.results.toList = [.tmp 2] from rfl]
 simp (disch:=first|omega|simp only [aA,aB]<;>omega|decide) only [bK,aY,aS,aT,aQ,aU,aO,upd_ne,aP,aW,result1]
 exact hK _ _ Kp.refl.add ⟨rfl,rfl⟩
theorem seller_y (S:Ev.Steps Tryz.prog pr R) (h0:AHeap) (s:Sa):bD Tryz.prog R 112 [.agg ⟨cSa s⟩] h0 fun u h=>u = iv s.se ∧ h = h0.add (cSa s):=by
 refine aV (fn:=Tryz.f112) (c:=(Tryz.f112.body).getD .skip) (by kernel_rfl) rfl (by kernel_rfl) rfl (fun K hK=>?_)
 generalize hF:finish Tryz.prog Tryz.f112 K = KF
 simp only [Tryz.f112,Option.getD_some,bJ,aX,aZ,T.setK_eq,id]
 repeat refine S.seq ?_
 refine S.region ?_
 simp (disch:=first|omega|simp only [aA,aB]<;>omega|decide) only [rUz,↓reduceIte,reduceEqDiff,reduceAdd]
 repeat refine S.seq ?_
 refine S.region ?_
 simp (disch:=first|omega|simp only [aA,aB]<;>omega|decide) only [rUz,↓reduceIte,reduceEqDiff,reduceAdd,aC fcS1 s3,p3,cSa1]
 refine S.ret ?_
 try simp only [aJ,aF]
 subst hF
 simp only [finish,aI]
 rw [show Tryz.f112.results.toList = [.tmp 2] from rfl]
 simp (disch:=first|omega|simp only [aA,aB]<;>omega|decide) only [bK,aY,aS,aT,aQ,aU,aO,upd_ne,aP,aW,result1]
 exact hK _ _ Kp.refl.add ⟨rfl,rfl⟩
def gSd:Nat → FuncId
 | 0=>111
 | _=>112
def jSd (b e:Nat):Nat → Nat
 | 0=>b
 | _=>e
def lfk (lf:List Int) (b e:Nat) (n:Int):Nat → List Int
 | 0=>lf
 | 1=>nP lf b n
 | _=>nP (nP lf b n) e n
theorem lfk_step (lf:List Int) (b e:Nat) (n:Int) {k:Nat} (hk:k < 2):lfk lf b e n (k + 1) = nP (lfk lf b e n k) (jSd b e k) n:=by
 rcases (by omega:k = 0 ∨ k = 1) with rfl|rfl<;>rfl
theorem lfk_len (lf:List Int) (b e:Nat) (n:Int) (h:lf.length = 6) (k:Nat):(lfk lf b e n k).length = 6:=by
 match k with
 | 0=>exact h
 | 1=>show (nP lf b n).length = 6; unfold nP; rw [List.length_set]; exact h
 | k + 2=>show (nP (nP lf b n) e n).length = 6; unfold nP; rw [List.length_set,List.length_set]; exact h
theorem ixSd {k:Nat} (hk:k < 2) (t:T Value) (o:Oper):vV Tryz.prog t o 155 (iv (k:Int)) (.agg ⟨sdV⟩) = some (.agg ⟨[.func (.func (gSd k)) #[] #[]]⟩):=by
 rcases (by omega:k = 0 ∨ k = 1) with rfl|rfl
 ·kernel_rfl
 ·kernel_rfl
theorem sd_y (S:Ev.Steps Tryz.prog pr R) (h0:AHeap) (s:Sa) (b e:Nat) (hb:s.bu = (b:Int)) (he:s.se = (e:Int)) {k:Nat} (hk:k < 2):bD Tryz.prog R (gSd k) [.agg ⟨cSa s⟩] h0 fun u h=>u = iv ((jSd b e k:Nat):Int) ∧ h = h0.add (cSa s):=by
 rcases (by omega:k = 0 ∨ k = 1) with rfl|rfl
 ·have:=buyer_y S h0 s
  rw [hb] at this; exact this
 ·have:=seller_y S h0 s
  rw [he] at this; exact this
theorem offSd (k:Nat):offB (gSd k) = true:=by
 match k with
 | 0=>rfl
 | k + 1=>rfl
theorem lfk_bnd {lf:List Int} (b e:Nat) {n:Int} (h:LfOk lf) (h0:0 ≤ n) (h1:n ≤ 20) (hb:b < 6) {k:Nat} (hk:k < 2) (j:Nat) : -20 ≤ lg (lfk lf b e n k) j ∧ lg (lfk lf b e n k) j ≤ 20:=by
 rcases (by omega:k = 0 ∨ k = 1) with rfl|rfl
 ·have:=h.b j
  show -20 ≤ lg lf j ∧ lg lf j ≤ 20
  omega
 ·show -20 ≤ lg (nP lf b n) j ∧ lg (nP lf b n) j ≤ 20
  unfold nP
  rw [lg_set (by rw [h.len]; exact hb)]
  have h2:=h.b j
  have h3:=h.b b
  by_cases e:b = j
  ·rw [if_pos e]; omega
  ·rw [if_neg e]; omega
theorem jSd_lt {b e:Nat} (hb:b < 6) (he:e < 6) (k:Nat):jSd b e k < 6:=by
 match k with
 | 0=>exact hb
 | k + 1=>exact he
structure IHp (H:AHeap) (Bc B3:Nat) (v cv sv:Value) (came:List Nat) (lf:List Int) (sl:List Sa) (b e:Nat) (s:Sa) (F1 F2:Nat) (Bk:Nat) (ck:List Value) (k:Nat) (t:T Value) (h:AHeap):Prop where
 hk:k ≤ 2
 ltk:Bk < h.nx
 bk:h.bl.get Bk = some (.cells ck Bk false)
 fr:Fr H Bc h
 lt:B3 < h.nx
 b:h.bl.get Bc = some (.cells (crV v cv (lfk lf b e s.nu k) sv) Bc false)
 b3:h.bl.get B3 = some (.cells (cSa s) B3 false)
 two:TwoS H.nx 1 4 h (came.map cn) (sl.map cSa) cv sv F1 F2
 t0:tget t 0 = bG Bc
 t3:tget t 3 = bG B3
 t16:tget t 16 = .agg ⟨sdV⟩
 t17:tget t 17 = iv (k:Int)
theorem happen_y (S:Ev.Steps Tryz.prog pr R) (hoff:Off pr) (H h0:AHeap) (Bc:Nat) (v:Value) (came:List Nat) (lf:List Int) (sl:List Sa) (s:Sa) (b e:Nat) (hc:CrAt H Bc v came lf sl h0) (hb:s.bu = (b:Int)) (he':s.se = (e:Int)) (hb6:b < 6) (he6:e < 6) (hn0:0 ≤ s.nu) (hn1:s.nu ≤ 20) (hok:LfOk (nP (nP lf b s.nu) e s.nu)) (hsl:sl.length ≤ 1000) (Bk:Nat) (ck:List Value) (hBk:h0.bl.get Bk = some (.cells ck Bk false)) (hkl:Bk < h0.nx) (hkc:Bk ≠ Bc)
  (w:∃ cv sv F1 F2,h0.bl.get Bc = some (.cells (crV v cv lf sv) Bc false) ∧ TwoS H.nx 1 4 h0 (came.map cn) (sl.map cSa) cv sv F1 F2 ∧ (sl.map cSa ≠ [] → F2 ≠ Bk)) :
  gJ Tryz.prog R 117 [bG Bc,.agg ⟨cSa s⟩] h0 fun _ h=>CrAt H Bc v came (nP (nP lf b s.nu) e s.nu) (sl ++ [s]) h ∧ h.bl.get Bk = some (.cells ck Bk false):=by
 refine gW (fn:=Tryz.f117) (c:=(Tryz.f117.body).getD .skip) (by kernel_rfl) rfl (by kernel_rfl) rfl (fun K hK=>?_)
 generalize hF:finish Tryz.prog Tryz.f117 K = KF
 simp only [Tryz.f117,Option.getD_some,bJ,aX,aZ,T.setK_eq,id]
 have h6l:=hc.ok.len
 obtain ⟨cv,sv,F1,F2,hbc,htwo,hFk⟩:=w
 have hlt:=hc.lt
 have hle:=hc.fr.le
 have hBH:=hc.hB
 repeat refine S.seq ?_
 refine S.region ?_
 simp (disch:=first|omega|simp only [aA,aB]<;>omega|decide) only [rUz,↓reduceIte,reduceEqDiff,reduceAdd]
 obtain ⟨B3,hB3⟩:∃ x,x = h0.nx:=⟨_,rfl⟩
 have hk1:Kp h0 (h0.add (cSa s)):=Kp.refl.add
 have hb3:(h0.add (cSa s)).bl.get B3 = some (.cells (cSa s) B3 false):=by subst hB3; exact aP rfl
 have hn3:B3 < (h0.add (cSa s)).nx:=by subst hB3; exact Nat.lt_succ_self _
 rw [← hB3]
 have ho3:H.nx ≤ B3:=by omega
 have ho3':h0.nx ≤ B3:=by omega
 clear hB3
 generalize h0.add (cSa s) = G at hk1 hb3 hn3 ⊢
 have hbG:=(hk1.get hlt).trans hbc
 replace hBk:=(hk1.get hkl).trans hBk
 replace hkl:=Nat.lt_of_lt_of_le hkl hk1.1
 have hfG:=(hk1.fget hlt).trans hc.famh
 have twoG:=htwo.mono hk1
 have frG:=hc.fr.kp hk1
 have hltG:=Nat.lt_of_lt_of_le hlt hk1.1
 have hveq:veq sv sv = true:=twoG.y.veq
 repeat refine S.seq ?_
 refine S.drawnL [(false,0),(false,0),(false,2),(false,6),(false,14),(false,0),(true,32),(true,126),(false,255),(false,511),(true,1023)] (by kernel_rfl) (by kernel_rfl) (by kernel_rfl) ?_
 simp (disch:=first|omega|simp only [aA,aB]<;>omega|decide) only [rUz,↓reduceIte,reduceEqDiff,reduceAdd,rDz,infoL,reduceSub,hbG,hb3,aC fC3 lcS,qcS,cr8 h6l,bT pcS (jL s)]
 refine jS (v:=.slice (some ⟨G.nx,0,none⟩) 1 1) (h':=G.add (cSa s)) (qZ slcS scS zcS rfl (by omega) (u:=.agg ⟨cSa s⟩) (l:=cSa s) (by simp (disch:=first|omega|simp only [aA,aB]<;>omega|decide) only [rUz,↓reduceIte,reduceEqDiff,reduceAdd]) rfl rfl) (Nat.le_of_ble_eq_true rfl) ?_ ?_
 ·have hbx:(G.add (cSa s)).bl.get Bc = some (.cells (crV v cv lf sv) Bc false):=by rw [aW (by omega)]; exact hbG
  try simp (disch:=first|decide|rfl) only [aK,aG,aH]
  rw [bF (v:=sv) (by simp (disch:=first|omega|simp only [aA,aB]<;>omega|decide) only [rUz,↓reduceIte,reduceEqDiff,reduceAdd,rDz,infoL,reduceSub,hbx,qcS,cr8 h6l]) hveq]
  try simp (disch:=first|decide|rfl) only [aK,aG,aH]
 simp (disch:=first|omega|simp only [aA,aB]<;>omega|decide) only [rUz,↓reduceIte,reduceEqDiff,reduceAdd,rDz,infoL,reduceSub]
 refine drW_app (bx:=G.nx) (cx:=1) (v:=sv) slcS ucS (by simp (disch:=first|omega|simp only [aA,aB]<;>omega|decide) only [rUz,↓reduceIte,reduceEqDiff,reduceAdd,rDz,infoL,reduceSub]) (by simp (disch:=first|omega|simp only [aA,aB]<;>omega|decide) only [rUz,↓reduceIte,reduceEqDiff,reduceAdd,rDz,infoL,reduceSub]) ((twoG.mono Kp.refl.add).y) (by show H.nx ≤ G.nx + 1; omega) scS rfl (by omega) (aP rfl) ncS (by rw [List.length_map]; show _ < 1000000; omega) (Nat.le_of_ble_eq_true rfl) ?_
 intro v3 h3 F3 gr
 refine ⟨?_,?_⟩
 ·try simp (disch:=first|decide|rfl) only [aK,aG,aH]
 obtain ⟨qb,nb,cb,hv3⟩:=gr.app.sl
 subst hv3
 have two3:=((twoG.mono Kp.refl.add).symm.grow gr).symm
 have hGn:(G.add (cSa s)).nx = G.nx + 1:=rfl
 have hb3c:h3.bl.get Bc = some (.cells (crV v cv lf sv) Bc false):=by rw [(gr.sm.2 Bc (by omega)).1,aW (by omega)]; exact hbG
 have hf3c:h3.fams.get Bc = some [Bc]:=by rw [(gr.sm.2 Bc (by omega)).2,nD (by omega)]; exact hfG
 have hn3':=gr.sm.1
 have hb33:h3.bl.get B3 = some (.cells (cSa s) B3 false):=by
  have:=gr.left.bl B3 (cSa s) B3 false (by omega) (by rw [aW (by omega)]; exact hb3) (fun hne e=>by
   have h1:=htwo.fy hne
   omega)
  exact this
 have hbk3:h3.bl.get Bk = some (.cells ck Bk false):=gr.left.bl Bk ck Bk false (by omega) (by rw [aW (by omega)]; exact hBk) (fun hne e=>hFk hne e.symm)
 have fr3:Fr H Bc h3:=(frG.kp (Kp.refl.add (c:=cSa s))).sm gr.sm (Nat.le_refl _)
 have hl9:=cr_len (v:=v) (cv:=cv) (sv:=sv) h6l
 simp (disch:=first|omega|simp only [aA,aB]<;>omega|decide) only [rUz,↓reduceIte,reduceEqDiff,reduceAdd,rDz,infoL,reduceSub,aC fC3 lcS]
 refine fP (jK (B:=Bc) (off:=8) (v:=.slice qb nb cb) (by simp (disch:=first|omega|simp only [aA,aB]<;>omega|decide) only [rUz,↓reduceIte,reduceEqDiff,reduceAdd,rDz,infoL,reduceSub]) (by simp (disch:=first|omega|simp only [aA,aB]<;>omega|decide) only [rUz,↓reduceIte,reduceEqDiff,reduceAdd,rDz,infoL,reduceSub]) lcS' rfl rfl hb3c hf3c (by rw [hl9]; omega)) ?_ ?_
 ·try simp (disch:=first|decide|rfl) only [aK,aG,aH]
 rw [cr_set8 h6l]
 obtain ⟨h4,hh4⟩:∃ z,z = h3.upd Bc (crV v cv lf (.slice qb nb cb)) Bc:=⟨_,rfl⟩
 have fr4:Fr H Bc h4:=by subst hh4; exact fr3.upd
 have hb4:h4.bl.get Bc = some (.cells (crV v cv lf (.slice qb nb cb)) Bc false):=by subst hh4; exact aO _ _ _
 have hf4:h4.fams.get Bc = some [Bc]:=by subst hh4; rw [bM]; exact hf3c
 have hb43:h4.bl.get B3 = some (.cells (cSa s) B3 false):=by subst hh4; rw [upd_ne _ _ _ (by omega)]; exact hb33
 have hbk4:h4.bl.get Bk = some (.cells ck Bk false):=by subst hh4; rw [upd_ne _ _ _ hkc]; exact hbk3
 have hnk4:Bk < h4.nx:=by subst hh4; show Bk < h3.nx; omega
 have two4:=two3.upd (B:=Bc) (f:=Bc) (d:=crV v cv lf (.slice qb nb cb)) hBH
 rw [← hh4] at two4 ⊢
 have hn43:B3 < h4.nx:=by subst hh4; show B3 < h3.nx; omega
 have hn4c:Bc < h4.nx:=Nat.lt_of_lt_of_le hBH fr4.le
 clear hh4 hb3c hf3c hb33 fr3 two3 hveq hb3 hbG hfG twoG frG gr hbc htwo
 simp (disch:=first|omega|simp only [aA,aB]<;>omega|decide) only [rUz,↓reduceIte,reduceEqDiff,reduceAdd,rDz,infoL,reduceSub]
 repeat refine S.seq ?_
 refine S.region ?_
 simp (disch:=first|omega|simp only [aA,aB]<;>omega|decide) only [rUz,↓reduceIte,reduceEqDiff,reduceAdd]
 refine bC (fid:=91) (first:=#[]) (captured:=#[]) (Post:=fun u _=>u = .agg ⟨sdV⟩) rfl (hoff _ _ _ rfl) (by simp (disch:=first|omega|simp only [aA,aB]<;>omega|decide) only [rUz,↓reduceIte,reduceEqDiff,reduceAdd]; exact sides_y S h4) ?_
 rintro u g hkg rfl
 simp (disch:=first|omega|simp only [aA,aB]<;>omega|decide) only [rUz,↓reduceIte,reduceEqDiff,reduceAdd]
 repeat refine S.seq ?_
 refine S.block ?_
 refine S.loop (ι:=Nat) (IHp H Bc B3 v cv (.slice qb nb cb) came lf (sl ++ [s]) b e s F1 F3 Bk ck) (fun k=>2 - k) ?_ 0 _ _ ?_
 rotate_left
 ·refine ⟨Nat.zero_le _,Nat.lt_of_lt_of_le hnk4 hkg.1,(hkg.get hnk4).trans hbk4,fr4.kp hkg,Nat.lt_of_lt_of_le hn43 hkg.1,(hkg.get hn4c).trans hb4,(hkg.get hn43).trans hb43,?_,?_,?_,?_,?_⟩
  ·rw [List.map_append]; exact two4.mono hkg
  all_goals (first|rfl|(simp (disch:=first|omega|simp only [aA,aB]<;>omega|decide) only [rUz,↓reduceIte,reduceEqDiff,reduceAdd]<;>rfl))
 intro k t h ⟨hk,ltk,bk,fr,lt3,hbk,hb3k,two,t0,t3,t16,t17⟩ K' hn he
 have hfk:h.fams.get Bc = some [Bc]:=(fr.fam Bc hBH).trans hc.fam
 have hlc:=Nat.lt_of_lt_of_le hBH fr.le
 repeat refine S.seq ?_
 refine S.region ?_
 simp (disch:=first|omega|simp only [aA,aB]<;>omega|decide) only [rUz,↓reduceIte,reduceEqDiff,reduceAdd,t17]
 repeat refine S.seq ?_
 refine S.cond (v:=decide ((k:Int) < 2)) (by first|rfl|(simp (disch:=first|omega|simp only [aA,aB]<;>omega|decide) only [rUz,↓reduceIte,reduceEqDiff,reduceAdd]<;>rfl)) (fun e=>?_) (fun e=>?_)
 ·have hk2:k < 2:=by have:=of_decide_eq_true e; omega
  clear e
  have hlk:=lfk_len lf b e s.nu h6l k
  have hj:=jSd_lt hb6 he6 k
  have hstep:=lfk_step lf b e s.nu hk2
  have hbd:=lfk_bnd b e hc.ok hn0 hn1 hb6 hk2 (jSd b e k)
  have cl:=crL (v:=v) (cv:=cv) (sv:=.slice qb nb cb) hlk hj
  have cs:=cr_setL (v:=v) (cv:=cv) (sv:=.slice qb nb cb) hlk hj (x:=lg (lfk lf b e s.nu k) (jSd b e k) - s.nu)
  have c9:=cr_len (v:=v) (cv:=cv) (sv:=.slice qb nb cb) hlk
  have ix:=ixN (B:=Bc) hj
  have gix:=ixSd hk2
  have hsub:lfk lf b e s.nu (k + 1) = (lfk lf b e s.nu k).set (jSd b e k) (lg (lfk lf b e s.nu k) (jSd b e k) - s.nu):=hstep
  repeat refine S.seq ?_
  refine S.skip ?_
  simp (disch:=first|omega|simp only [aA,aB]<;>omega|decide) only [rUz,↓reduceIte,reduceEqDiff,reduceAdd]
  repeat refine S.seq ?_
  refine S.block ?_
  repeat refine S.seq ?_
  refine S.region ?_
  simp (disch:=first|omega|simp only [aA,aB]<;>omega|decide) only [rUz,↓reduceIte,reduceEqDiff,reduceAdd,t16,t17,rd_index,gix,cO zSd]
  refine dF (B:=h.nx) (c:=[.nilFunc]) (fam:=h.nx) (k:=h.nx) (l:=[.func (.func (gSd k)) #[] #[]]) (by simp (disch:=first|omega|simp only [aA,aB]<;>omega|decide) only [rUz,↓reduceIte,reduceEqDiff,reduceAdd]) (by simp (disch:=first|omega|simp only [aA,aB]<;>omega|decide) only [rUz,↓reduceIte,reduceEqDiff,reduceAdd]) sSd (by omega) rfl (aP rfl) (dL rfl) rfl ?_
  have hk4:Kp h ((h.add [.nilFunc]).upd h.nx [.func (.func (gSd k)) #[] #[]] h.nx):=Kp.refl.add.upd (Nat.le_refl _)
  have hg4:((h.add [.nilFunc]).upd h.nx [.func (.func (gSd k)) #[] #[]] h.nx).bl.get h.nx = some (.cells [.func (.func (gSd k)) #[] #[]] h.nx false):=aO _ _ _
  simp (disch:=first|omega|simp only [aA,aB]<;>omega|decide) only [rUz,↓reduceIte,reduceEqDiff,reduceAdd]
  generalize (h.add [.nilFunc]).upd h.nx [.func (.func (gSd k)) #[] #[]] h.nx = g4 at hk4 hg4 ⊢
  have hb5:=(hk4.get lt3).trans hb3k
  have hbc5:=(hk4.get hlc).trans hbk
  generalize h.nx = B5 at hg4 ⊢
  repeat refine S.seq ?_
  refine S.drawnL [(false,0),(false,0),(false,2),(false,0),(true,14),(false,1),(false,33),(false,127),(false,255),(false,0),(false,512),(false,2047),(false,1),(false,4097),(false,16383),(true,32767)] (by kernel_rfl) (by kernel_rfl) (by kernel_rfl) ?_
  simp (disch:=first|omega|simp only [aA,aB]<;>omega|decide) only [rUz,↓reduceIte,reduceEqDiff,reduceAdd,rDz,infoL,reduceSub,t0,t3,hg4,aC fSd0 lFn,qFn,List.getElem?_cons_zero,hb5,bT pcS (jL s)]
  refine dH rfl ?_
  simp (disch:=first|omega|simp only [aA,aB]<;>omega|decide) only [rUz,↓reduceIte,reduceEqDiff,reduceAdd,rDz,infoL,reduceSub,t0,t3,aC fC2 SN,hb5,aC fcS2 s3,p3,cSa2]
  refine dH rfl ?_
  simp (disch:=first|omega|simp only [aA,aB]<;>omega|decide) only [rUz,↓reduceIte,reduceEqDiff,reduceAdd,rDz,infoL,reduceSub,t0,t3,aC fC2 SN,hb5,aC fcS2 s3,p3,cSa2]
  refine dH rfl ?_
  simp (disch:=first|omega|simp only [aA,aB]<;>omega|decide) only [rUz,↓reduceIte,reduceEqDiff,reduceAdd,rDz,infoL,reduceSub,t0,t3,aC fC2 SN,hb5,aC fcS2 s3,p3,cSa2]
  refine dH rfl ?_
  simp (disch:=first|omega|simp only [aA,aB]<;>omega|decide) only [rUz,↓reduceIte,reduceEqDiff,reduceAdd,rDz,infoL,reduceSub,t0,t3,aC fC2 SN,hb5,aC fcS2 s3,p3,cSa2]
  refine dH rfl ?_
  simp (disch:=first|omega|simp only [aA,aB]<;>omega|decide) only [rUz,↓reduceIte,reduceEqDiff,reduceAdd,rDz,infoL,reduceSub,t0,t3,aC fC2 SN,hb5,aC fcS2 s3,p3,cSa2]
  refine dH rfl ?_
  simp (disch:=first|omega|simp only [aA,aB]<;>omega|decide) only [rUz,↓reduceIte,reduceEqDiff,reduceAdd,rDz,infoL,reduceSub,t0,t3,aC fC2 SN,hb5,aC fcS2 s3,p3,cSa2]
  refine dC (fid:=gSd k) (first:=#[]) (captured:=#[]) (Post:=fun u h=>u = iv ((jSd b e k:Nat):Int) ∧ h = g4.add (cSa s)) (by simp (disch:=first|omega|simp only [aA,aB]<;>omega|decide) only [rUz,↓reduceIte,reduceEqDiff,reduceAdd,rDz,infoL,reduceSub]) (hoff _ _ _ (offSd k)) (by simp (disch:=first|omega|simp only [aA,aB]<;>omega|decide) only [rUz,↓reduceIte,reduceEqDiff,reduceAdd,rDz,infoL,reduceSub]; exact sd_y S g4 s b e hb he' hk2) (Nat.le_of_ble_eq_true rfl) ?_
  rintro u g5 hk5 ⟨rfl,-⟩
  have hkk:=hk4.trans hk5
  have hb35:=(hkk.get lt3).trans hb3k
  have hbc5':=(hkk.get hlc).trans hbk
  have hfc5:=(hkk.fget hlc).trans hfk
  refine ⟨?_,?_⟩
  ·try simp (disch:=first|decide|rfl) only [aK,aG,aH]
   rw [bF (v:=iv s.nu) (by simp (disch:=first|omega|simp only [aA,aB]<;>omega|decide) only [rUz,↓reduceIte,reduceEqDiff,reduceAdd,rDz,infoL,reduceSub,hb35,aC fcS2 s3,p3,cSa2]) fU]
   try simp (disch:=first|decide|rfl) only [aK,aG,aH]
  simp (disch:=first|omega|simp only [aA,aB]<;>omega|decide) only [rUz,↓reduceIte,reduceEqDiff,reduceAdd,rDz,infoL,reduceSub,ix,hbc5',p3,cl]
  refine fP (jK (B:=Bc) (off:=2 + jSd b e k) (v:=iv (lg (lfk lf b e s.nu k) (jSd b e k) - s.nu)) (by simp (disch:=first|omega|simp only [aA,aB]<;>omega|decide) only [rUz,↓reduceIte,reduceEqDiff,reduceAdd,rDz,infoL,reduceSub]) (by simp (disch:=first|omega|simp only [aA,aB]<;>omega|decide) only [rUz,↓reduceIte,reduceEqDiff,reduceAdd,rDz,infoL,reduceSub]) s3' rfl rfl hbc5' hfc5 (by rw [c9]; omega)) ?_ ?_
  ·try simp (disch:=first|decide|rfl) only [aK,aG,aH]
  rw [cs,← hsub]
  simp (disch:=first|omega|simp only [aA,aB]<;>omega|decide) only [rUz,↓reduceIte,reduceEqDiff,reduceAdd,rDz,infoL,reduceSub]
  repeat refine S.seq ?_
  refine S.region ?_
  simp (disch:=first|omega|simp only [aA,aB]<;>omega|decide) only [rUz,↓reduceIte,reduceEqDiff,reduceAdd,t17]
  refine hn (k + 1) _ _ (by omega) ⟨by omega,Nat.lt_of_lt_of_le ltk hkk.1,by rw [upd_ne _ _ _ hkc]; exact (hkk.get ltk).trans bk,(fr.kp hkk).upd,Nat.lt_of_lt_of_le lt3 hkk.1,aO _ _ _,by rw [upd_ne _ _ _ (by omega)]; exact hb35,(two.mono hkk).upd hBH,?_,?_,?_,?_⟩
  all_goals (first|rfl|(simp (disch:=first|omega|simp only [aA,aB]<;>omega|decide) only [rUz,↓reduceIte,reduceEqDiff,reduceAdd,t0,t3,t16]<;>rfl))
 have hkn:k = 2:=by have:=of_decide_eq_false e; omega
 subst hkn
 refine S.exit (he _ _ _ _ (fun e=>by cases e) ?_)
 simp (disch:=first|omega|simp only [aA,aB]<;>omega|decide) only [rUz,↓reduceIte,reduceEqDiff,reduceAdd]
 subst hF
 simp only [finish,aI]
 rw [show Tryz.f117.results.toList = [] from rfl]
 simp only [bK,result1]
 exact hK _ _ ⟨⟨fr,hBH,hc.fam,hok,cv,.slice qb nb cb,F1,F3,hbk,two⟩,bk⟩
end Go.Proofs.Po
