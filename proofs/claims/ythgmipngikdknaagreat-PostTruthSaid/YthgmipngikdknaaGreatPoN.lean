import Derived.Test.YthgmipngikdknaaGreatPoM
/- The law's helpers; whether a list is a truth, and how orders come, by the reference. -/
namespace Go.Proofs.Po
open Nat (reduceEqDiff reduceAdd reduceSub)
open Go Go.Ev Go.RowKit
set_option linter.unusedSimpArgs false
variable {pr:Prim} {R:ExT}
/-- A slice whose cells are of a family of their own. -/
def IAf (h:AHeap) (v:Value) (l:List Int) (F:Nat):Prop:=
 (l = [] ∧ v = .slice none 0 0) ∨ ∃ b c f ro,v = .slice (some ⟨b,0,none⟩) l.length c ∧ b < h.nx ∧ h.bl.get b = some (.cells (l.map iv) f ro) ∧ f < h.nx ∧ f ≠ F
theorem IAf.at {h:AHeap} {v:Value} {l:List Int} {F:Nat} (k:IAf h v l F):IAt h v l:=by
 rcases k with ⟨rfl,rfl⟩|⟨b,c,f,ro,k1,k2,k3,_⟩
 ·exact .inl ⟨rfl,.inl rfl⟩
 ·exact .inr ⟨b,c,f,ro,k1,k2,k3⟩
theorem ne_of {a F:Nat} (h:F < a ∨ a + 2 ≤ F):a ≠ F:=by omega
section
variable {P:Program} {h:AHeap} {call:CallT} {ops:Array Oper} {n:Nat} {rest:List Oper} {t:T Value} {KR:T Value → AHeap → Bool} {dst:Option Tmp} {v:Value} {l:List Int} {a e:TypeId} {x:Operand}
theorem wr_copyI (h1:eY P a = some e) (hu:P.underlying a = some (.slice e)) (h2:bJ P e = some 1) (hn:eQ P e 1 = true) (hx:ev P t x = v) (hv:IS h v l) (hl:l.length < 1000000)
  (kk:∀ v' h',Kp h h' → (∀ F,(F < h.nx ∨ h'.nx ≤ F) → IAf h' v' l F) → (v' = .slice none 0 0 ∨ ∃ b c,v' = .slice (some ⟨b,0,none⟩) l.length c) → iQ P call ops n rest dst t v' h' KR = true) :
  wrR P call ops n rest (.call ⟨.builtin .append,#[.const (.slice none 0 0),x],#[a,a]⟩) dst t h KR = true:=by
 have hnum2:∀ m,m < bigNat → eQ P e m = true:=fun m hm=>mJ hn hm
 have hc:ev P t (.const (.slice none 0 0)) = .slice none 0 0:=rfl
 rcases hv with ⟨k1,rfl|rfl⟩|⟨b,cap,f,ro,k1,rfl,k3,k4,k5⟩
 ·have k1':l = []:=by simpa using k1
  have hko:Ev.kindOk P a (.slice none 0 0) = true:=by simp only [Ev.kindOk,hu]
  simp only [wrR,bK,jO,jJ,h1,hx,hc,hko,cond_true,fZ,h2,dO,gY]
  exact kk _ _ Kp.refl (fun F _=>.inl ⟨k1',rfl⟩) (.inl rfl)
 ·have k1':l = []:=by simpa using k1
  have hko:Ev.kindOk P a emptyS = true:=by simp only [Ev.kindOk,hu,emptyS]
  have hs:dO h 1 emptyS = some ([],0):=rfl
  simp only [wrR,bK,jO,jJ,h1,hx,hc,hko,cond_true,fZ,h2,hs,gY]
  exact kk _ _ Kp.refl (fun F _=>.inl ⟨k1',rfl⟩) (.inl rfl)
 ·have hfl:(l.map fun n=>[iv n]).flatten = l.map iv:=by
   clear k1 k4 k5 hx hl kk
   induction l with
   | nil=>rfl
   | cons a l ih=>simp only [List.map_cons,List.flatten_cons,List.singleton_append]; rw [ih]
  rw [hfl] at k4
  rw [List.length_map] at hx
  have hln:l.length ≠ 0:=fun q=>k1 (by rw [List.length_eq_zero_iff.1 q]; rfl)
  have hs:dO h 1 (.slice (some ⟨b,0,none⟩) l.length cap) = some (l.map iv,l.length):=by
   have hb:Nat.ble (Nat.add 0 (Nat.mul l.length 1)) (l.map iv).length = true:=Nat.ble_eq_true_of_le (by rw [List.length_map]; show 0 + l.length * 1 ≤ _; omega)
   simp only [dO,k4,hb,cond_true]
   rw [show Nat.mul l.length 1 = l.length from Nat.mul_one _,List.drop_zero,List.take_of_length_le (by rw [List.length_map]; exact Nat.le_refl _)]
  have hz:Nat.beq l.length 0 = false:=by cases q:Nat.beq l.length 0 with|true=>exact absurd (Nat.eq_of_beq_eq_true q) hln|false=>rfl
  have hko:Ev.kindOk P a (.slice (some ⟨b,0,none⟩) l.length cap) = true:=by simp only [Ev.kindOk,hu]
  simp only [wrR,bK,jO,jJ,h1,hx,hc,hko,cond_true,fZ,h2,hs,gY,hz,cond_false,hnum2 _ hl,xH]
  refine kk _ _ ⟨by show h.nx ≤ h.nx + 2; omega,fun k hk=>⟨?_,?_⟩⟩ (fun F hF=>.inr ⟨h.nx + 1,_,h.nx,false,rfl,by show h.nx + 1 < h.nx + 2; omega,?_,by show h.nx < h.nx + 2; omega,ne_of hF⟩) (.inr ⟨_,_,rfl⟩)
  ·show (T.set (h.nx + 2) h.bl (h.nx + 1) (.cells (l.map iv) h.nx false)).get k = _
   rw [aT (by omega) (by omega)]
  ·show (T.set (h.nx + 2) (T.set (h.nx + 1) h.fams h.nx [h.nx + 1]) (h.nx + 1) [1]).get k = _
   rw [aT (by omega) (by omega),aT (by omega) (by omega)]
  ·exact aU (by omega)
end

set_option maxHeartbeats 4000000 in
theorem list_y (S:Ev.Steps Tryz.prog pr R) (h0:AHeap) (v:Value) (l:List Int) (hv:IS h0 v l) (hl:l.length ≤ 1000) :
  bD Tryz.prog R 31 [v] h0 fun u h=>IAt h u l:=by
 refine aW (fn:=Tryz.f31) (c:=(Tryz.f31.body).getD .skip) (by kernel_rfl) rfl (by kernel_rfl) rfl (fun K hK=>?_)
 generalize hF:finish Tryz.prog Tryz.f31 K = KF
 simp only [Tryz.f31,Option.getD_some,bI,aZ,bC,T.setK_eq,id]
 repeat refine S.seq ?_
 refine S.region ?_
 simp (disch:=first|omega|simp only [aA,aB]<;>omega|decide) only [rUz,↓reduceIte,reduceEqDiff,reduceAdd]
 repeat refine S.seq ?_
 refine S.region ?_
 simp (disch:=first|omega|simp only [aA,aB]<;>omega|decide) only [rUz,↓reduceIte,reduceEqDiff,reduceAdd,jU]
 refine wr_copyI slI uI s3' nI (by simp (disch:=first|omega|simp only [aA,aB]<;>omega|decide) only [rUz,↓reduceIte,reduceEqDiff,reduceAdd]) hv (by omega) ?_
 intro v' h' hk hI hs
 simp (disch:=first|omega|simp only [aA,aB]<;>omega|decide) only [rUz,↓reduceIte,reduceEqDiff,reduceAdd]
 refine S.ret ?_
 try simp only [aI,aF]
 subst hF
 simp only [finish,aJ]
 rw [show Tryz.f31.results.toList = [.tmp 2] from rfl]
 simp (disch:=first|omega|simp only [aA,aB]<;>omega|decide) only [bH,aY,aQ,aS,aT,aU,aO,upd_ne,aP,aX,result1]
 exact hK _ _ hk (hI h'.nx (.inr (Nat.le_refl _))).at

/-! ## Structs of integers, compared -/
def gB (x y:Sa):Bool:=beqI x.bu y.bu && (beqI x.se y.se && (beqI x.nu y.nu && beqI x.pr y.pr))
theorem eqInts_Sa (x y:Sa):eqInts (cSa x) (cSa y) = some (gB x y):=by
 have hk:beqKind IntKind.i64 IntKind.i64 = true:=rfl
 unfold cSa gB
 simp only [eqInts,hk,cond_true]
 cases beqI x.bu y.bu<;>cases beqI x.se y.se<;>cases beqI x.nu y.nu<;>cases beqI x.pr y.pr<;>rfl
/-! ## Whether a list is a truth, by the reference -/
end Go.Proofs.Po
