import Derived.Test.YthgmipngikdknaaGreatPtB
import Derived.Test.YthgmipngikdknaaGreatPoO
/- Records and sales, by the reference. -/
namespace Go.Proofs.Po
open Nat (reduceEqDiff reduceAdd reduceSub)
open Go Go.Ev Go.RowKit
set_option linter.unusedSimpArgs false
variable {pr:Prim} {R:ExT}
structure IBc (l:List Sa) (H:AHeap) (sv:Value) (k:Nat) (t:T Value) (h:AHeap):Prop where
 kp:Kp H h
 ex:∃ u F,App H.nx h 4 u ((l.take k).map cSa) F ∧ tget t 3 = u
 t0:tget t 0 = sv
 t4:tget t 4 = iv (k:Int)
 hk:k ≤ l.length
theorem bcSx (x:Sa):fG Tryz.prog 73 [(0,iv x.bu),(1,iv x.se),(2,iv x.nu),(3,iv x.pr)] = some (.agg ⟨cSa x⟩):=bcS _ _ _ _
set_option maxHeartbeats 16000000 in
theorem salesC_y (S:Ev.Steps Tryz.prog pr R) (h0:AHeap) (sv:Value) (l:List Sa) (hs:SlAt h0 4 sv (l.map cSa)) (hl:l.length ≤ 1000) :
  bD Tryz.prog R 20 [sv] h0 fun u h=>SlAt h 4 u (l.map cSa):=by
 refine aV (fn:=Tryz.f20) (c:=(Tryz.f20.body).getD .skip) (by kernel_rfl) rfl (by kernel_rfl) rfl (fun K hK=>?_)
 generalize hF:finish Tryz.prog Tryz.f20 K = KF
 simp only [Tryz.f20,Option.getD_some,bJ,aX,aZ,T.setK_eq,id]
 repeat refine S.seq ?_
 refine S.region ?_
 simp (disch:=first|omega|simp only [aA,aB]<;>omega|decide) only [rUz,↓reduceIte,reduceEqDiff,reduceAdd]
 repeat refine S.seq ?_
 refine S.region ?_
 simp (disch:=first|omega|simp only [aA,aB]<;>omega|decide) only [rUz,↓reduceIte,reduceEqDiff,reduceAdd]
 repeat refine S.seq ?_
 refine S.region ?_
 simp (disch:=first|omega|simp only [aA,aB]<;>omega|decide) only [rUz,↓reduceIte,reduceEqDiff,reduceAdd]
 repeat refine S.seq ?_
 refine S.block ?_
 refine S.loop (ι:=Nat) (IBc l h0 sv) (fun k=>l.length - k) ?_ 0 _ _ ?_
 rotate_left
 ·refine ⟨Kp.refl,⟨nl,0,.inl ⟨rfl,rfl⟩,?_⟩,?_,?_,Nat.zero_le _⟩
  all_goals (first|rfl|(simp (disch:=first|omega|simp only [aA,aB]<;>omega|decide) only [rUz,↓reduceIte,reduceEqDiff,reduceAdd]<;>rfl))
 intro k t h ⟨kp,⟨u,F,app,t3⟩,t0,t4,hk⟩ K' hn he
 have lS:=fun t h1 o=>dQ (SlAt.mono hs kp) isrS t h1 o
 repeat refine S.seq ?_
 refine S.region ?_
 simp (disch:=first|omega|simp only [aA,aB]<;>omega|decide) only [rUz,↓reduceIte,reduceEqDiff,reduceAdd,t0,t4,lS]
 repeat refine S.seq ?_
 refine S.cond (v:=decide ((k:Int) < (l.length:Int))) (by first|rfl|(simp (disch:=first|omega|simp only [aA,aB]<;>omega|decide) only [rUz,↓reduceIte,reduceEqDiff,reduceAdd]<;>rfl)) (fun e=>?_) (fun e=>?_)
 ·have hkn:k < l.length:=by have:=of_decide_eq_true e; omega
  clear e
  have hps:l[k]? = some l[k]:=List.getElem?_eq_getElem hkn
  have hrows:(l.take (k + 1)).map cSa = (l.take k).map cSa ++ [cSa l[k]]:=by rw [vG hkn,List.map_append]; rfl
  generalize l[k] = x at hps hrows
  obtain ⟨b,f,ro,cells,q1,q2,q3,q4,q5,q6⟩:=dM (SlAt.mono hs kp) slrS srS hps
  have c0:=q6 0 _ (cSa0 x)
  have c1:=q6 1 _ (cSa1 x)
  have c2':=q6 2 _ (cSa2 x)
  have c3':=q6 3 _ (cSa3 x)
  rw [Nat.add_zero] at c0
  repeat refine S.seq ?_
  refine S.skip ?_
  simp (disch:=first|omega|simp only [aA,aB]<;>omega|decide) only [rUz,↓reduceIte,reduceEqDiff,reduceAdd]
  repeat refine S.seq ?_
  refine S.block ?_
  repeat refine S.seq ?_
  refine S.drawnL [(false,0),(false,0),(false,0),(false,6),(false,14),(false,30),(false,0),(false,0),(false,192),(false,448),(false,960),(false,0),(false,0),(false,6144),(false,14336),(false,30720),(false,0),(false,0),(false,196608),(false,458752),(false,983040),(false,2097150),(true,4194302),(true,8388607),(false,16777215)] (by kernel_rfl) (by kernel_rfl) (by kernel_rfl) ?_
  simp (disch:=first|omega|simp only [aA,aB]<;>omega|decide) only [rUz,↓reduceIte,reduceEqDiff,reduceAdd,rDz,infoL,reduceSub,t0,t3,t4,q1,q3,aC frS0 s3,aC frS1 s3,aC frS2 s3,aC frS3 s3,p3,c0,c1,c2',c3',fF,List.map_cons,List.map_nil,bcSx]
  refine jS (v:=.slice (some ⟨h.nx,0,none⟩) 1 1) (h':=h.add (cSa x)) (qZ slcS scS zcS rfl (by omega) (u:=.agg ⟨cSa x⟩) (l:=cSa x) (by simp (disch:=first|omega|simp only [aA,aB]<;>omega|decide) only [rUz,↓reduceIte,reduceEqDiff,reduceAdd]) rfl rfl) (Nat.le_of_ble_eq_true rfl) ?_ ?_
  ·try simp (disch:=first|decide|rfl) only [aK,aG,aH]
  simp (disch:=first|omega|simp only [aA,aB]<;>omega|decide) only [rUz,↓reduceIte,reduceEqDiff,reduceAdd,rDz,infoL,reduceSub]
  refine drW_app (bx:=h.nx) (cx:=1) (v:=u) slcS ucS (by simp (disch:=first|omega|simp only [aA,aB]<;>omega|decide) only [rUz,↓reduceIte,reduceEqDiff,reduceAdd,rDz,infoL,reduceSub]) (by simp (disch:=first|omega|simp only [aA,aB]<;>omega|decide) only [rUz,↓reduceIte,reduceEqDiff,reduceAdd,rDz,infoL,reduceSub]) (app.mono Kp.refl.add) (by have:=kp.1; show h0.nx ≤ h.nx + 1; omega) scS rfl (by omega) (aP rfl) ncS (by rw [List.length_map,List.length_take]; show _ < 1000000; omega) (Nat.le_of_ble_eq_true rfl) ?_
  intro v3 h3 F3 gr
  refine ⟨?_,?_⟩
  ·try simp (disch:=first|decide|rfl) only [aK,aG,aH]
  simp (disch:=first|omega|simp only [aA,aB]<;>omega|decide) only [rUz,↓reduceIte,reduceEqDiff,reduceAdd,rDz,infoL,reduceSub]
  repeat refine S.seq ?_
  refine S.region ?_
  simp (disch:=first|omega|simp only [aA,aB]<;>omega|decide) only [rUz,↓reduceIte,reduceEqDiff,reduceAdd,t4]
  have hkp':Kp h0 h3:=gr.sm.kp (Nat.le_refl _) (kp.trans (Kp.refl.add (c:=cSa x)))
  refine hn (k + 1) _ _ (by omega) ⟨hkp',⟨v3,F3,by rw [hrows]; exact gr.app,?_⟩,?_,?_,by omega⟩
  all_goals (first|rfl|(simp (disch:=first|omega|simp only [aA,aB]<;>omega|decide) only [rUz,↓reduceIte,reduceEqDiff,reduceAdd,t0]<;>rfl))
 have hkn:k = l.length:=by have:=of_decide_eq_false e; omega
 subst hkn
 rw [List.take_of_length_le (Nat.le_refl _)] at app
 refine S.exit (he _ _ _ _ (fun e=>by cases e) ?_)
 simp (disch:=first|omega|simp only [aA,aB]<;>omega|decide) only [rUz,↓reduceIte,reduceEqDiff,reduceAdd]
 repeat refine S.seq ?_
 refine S.region ?_
 simp (disch:=first|omega|simp only [aA,aB]<;>omega|decide) only [rUz,↓reduceIte,reduceEqDiff,reduceAdd,t3]
 refine S.ret ?_
 try simp only [aJ,aF]
 subst hF
 simp only [finish,aI]
 rw [show Tryz.f20.results.toList = [.tmp 2] from rfl]
 simp (disch:=first|omega|simp only [aA,aB]<;>omega|decide) only [bK,aY,aS,aT,aQ,aU,aO,upd_ne,aP,aW,result1]
 exact hK _ _ kp app.at

/-! ## Explains -/
end Go.Proofs.Po
