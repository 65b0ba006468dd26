import Derived.Test.YthgmipngikdknaaGreatPoM
/- The law's helpers; whether a list is a truth, and how orders come, by the reference. -/
namespace Go.Proofs.Po
open Go Go.Ev Go.RowKit
set_option linter.unusedSimpArgs false
variable {pr:Prim} {R:ExT}
/-- A slice whose cells are of a family of their own. -/
def IAf (h:AHeap) (v:Value) (l:List Int) (F:Nat):Prop:=
  (l = [] ∧ v = .slice none 0 0) ∨ ∃ b c f ro,v = .slice (some ⟨b,0,none⟩) l.length c ∧ b < h.nx ∧ h.bl.get b = some (.cells (l.map iv) f ro) ∧ f < h.nx ∧ f ≠ F
theorem IAf.at {h:AHeap} {v:Value} {l:List Int} {F:Nat} (k:IAf h v l F):IAt h v l:=by
  rcases k with ⟨rfl,rfl⟩|⟨b,c,f,ro,k1,k2,k3,_⟩
  · exact .inl ⟨rfl,.inl rfl⟩
  · exact .inr ⟨b,c,f,ro,k1,k2,k3⟩
theorem ne_of {a F:Nat} (h:F < a ∨ a + 2 ≤ F):a ≠ F:=by omega
section
variable {P:Program} {h:AHeap} {call:CallT} {ops:Array Oper} {n:Nat} {rest:List Oper} {t:T Value} {KR:T Value → AHeap → Bool} {dst:Option Tmp} {v:Value} {l:List Int} {a e:TypeId} {x:Operand}
theorem wr_copyI (h1:slOf P a = some e) (hu:P.underlying a = some (.slice e)) (h2:sizeB P e = some 1) (hn:numOk P e 1 = true) (hx:ev P t x = v) (hv:IS h v l) (hl:l.length < 1000000)
    (kk:∀ v' h',Kp h h' → (∀ F,(F < h.nx ∨ h'.nx ≤ F) → IAf h' v' l F) → (v' = .slice none 0 0 ∨ ∃ b c,v' = .slice (some ⟨b,0,none⟩) l.length c) → putR P call ops n rest dst t v' h' KR = true) :
    wrR P call ops n rest (.call ⟨.builtin .append,#[.const (.slice none 0 0),x],#[a,a]⟩) dst t h KR = true:=by
  have hnum2:∀ m,m < bigNat → numOk P e m = true:=fun m hm=>numOk_small hn hm
  have hc:ev P t (.const (.slice none 0 0)) = .slice none 0 0:=rfl
  rcases hv with ⟨k1,rfl|rfl⟩|⟨b,cap,f,ro,k1,rfl,k3,k4,k5⟩
  · have k1':l = []:=by simpa using k1
    have hko:Ev.kindOk P a (.slice none 0 0) = true:=by simp only [Ev.kindOk,hu]
    simp only [wrR,awrite,wCall,wAppend,h1,hx,hc,hko,cond_true,appendA,h2,srcCells,appendNil]
    exact kk _ _ Kp.refl (fun F _=>.inl ⟨k1',rfl⟩) (.inl rfl)
  · have k1':l = []:=by simpa using k1
    have hko:Ev.kindOk P a emptyS = true:=by simp only [Ev.kindOk,hu,emptyS]
    have hs:srcCells h 1 emptyS = some ([],0):=rfl
    simp only [wrR,awrite,wCall,wAppend,h1,hx,hc,hko,cond_true,appendA,h2,hs,appendNil]
    exact kk _ _ Kp.refl (fun F _=>.inl ⟨k1',rfl⟩) (.inl rfl)
  · have hfl:(l.map fun n=>[iv n]).flatten = l.map iv:=by
      clear k1 k4 k5 hx hl kk
      induction l with
      | nil=>rfl
      | cons a l ih=>simp only [List.map_cons,List.flatten_cons,List.singleton_append]; rw [ih]
    rw [hfl] at k4
    rw [List.length_map] at hx
    have hln:l.length ≠ 0:=fun q=>k1 (by rw [List.length_eq_zero_iff.1 q]; rfl)
    have hs:srcCells h 1 (.slice (some ⟨b,0,none⟩) l.length cap) = some (l.map iv,l.length):=by
      have hb:Nat.ble (Nat.add 0 (Nat.mul l.length 1)) (l.map iv).length = true:=Nat.ble_eq_true_of_le (by rw [List.length_map]; show 0 + l.length * 1 ≤ _; omega)
      simp only [srcCells,k4,hb,cond_true]
      rw [show Nat.mul l.length 1 = l.length from Nat.mul_one _,List.drop_zero,List.take_of_length_le (by rw [List.length_map]; exact Nat.le_refl _)]
    have hz:Nat.beq l.length 0 = false:=by cases q:Nat.beq l.length 0 with|true=>exact absurd (Nat.eq_of_beq_eq_true q) hln|false=>rfl
    have hko:Ev.kindOk P a (.slice (some ⟨b,0,none⟩) l.length cap) = true:=by simp only [Ev.kindOk,hu]
    simp only [wrR,awrite,wCall,wAppend,h1,hx,hc,hko,cond_true,appendA,h2,hs,appendNil,hz,cond_false,hnum2 _ hl,growN_eq]
    refine kk _ _ ⟨by show h.nx ≤ h.nx + 2; omega,fun k hk=>⟨?_,?_⟩⟩ (fun F hF=>.inr ⟨h.nx + 1,_,h.nx,false,rfl,by show h.nx + 1 < h.nx + 2; omega,?_,by show h.nx < h.nx + 2; omega,ne_of hF⟩) (.inr ⟨_,_,rfl⟩)
    · show (T.set (h.nx + 2) h.bl (h.nx + 1) (.cells (l.map iv) h.nx false)).get k = _
      rw [get_ne (by omega) (by omega)]
    · show (T.set (h.nx + 2) (T.set (h.nx + 1) h.fams h.nx [h.nx + 1]) (h.nx + 1) [1]).get k = _
      rw [get_ne (by omega) (by omega),get_ne (by omega) (by omega)]
    · exact get_eq (by omega)
end

set_option maxHeartbeats 4000000 in
theorem list_y (S:Ev.Steps Tryz.prog pr R) (h0:AHeap) (v:Value) (l:List Int) (hv:IS h0 v l) (hl:l.length ≤ 1000) :
    Brings Tryz.prog R 31 [v] h0 fun u h=>IAt h u l:=by
  refine brings_of (fn:=Tryz.f31) (c:=(Tryz.f31.body).getD .skip) (by kernel_rfl) rfl (by kernel_rfl) rfl (fun K hK=>?_)
  generalize hF:finish Tryz.prog Tryz.f31 K = KF
  simp only [Tryz.f31,Option.getD_some,argsT,setArgs,fV1_eq,T.setK_eq,id]
  repeat refine S.seq ?_
  refine S.region ?_
  simp (disch:=first|omega|(simp only [add_nx,upd_nx] <;> omega)|decide) only [rUz,↓reduceIte,Nat.reduceEqDiff,Nat.reduceAdd]
  repeat refine S.seq ?_
  refine S.region ?_
  simp (disch:=first|omega|(simp only [add_nx,upd_nx] <;> omega)|decide) only [rUz,↓reduceIte,Nat.reduceEqDiff,Nat.reduceAdd,w_append]
  refine wr_copyI slI uI s3' nI (by simp (disch:=first|omega|(simp only [add_nx,upd_nx] <;> omega)|decide) only [rUz,↓reduceIte,Nat.reduceEqDiff,Nat.reduceAdd]) hv (by omega) ?_
  intro v' h' hk hI hs
  simp (disch:=first|omega|(simp only [add_nx,upd_nx] <;> omega)|decide) only [rUz,↓reduceIte,Nat.reduceEqDiff,Nat.reduceAdd]
  refine S.ret ?_
  try simp only [seqK_ret,blockK_ret]
  subst hF
  simp only [finish,endMarks]
  rw [show Tryz.f31.results.toList = [.tmp 2] from rfl]
  simp (disch:=first|omega|(simp only [add_nx,upd_nx] <;> omega)|decide) only [resA,ev_tmp,tget_ne,tget_eq,get_ne,get_eq,upd_eq,upd_ne,ag_eq,ag_ne,result1]
  exact hK _ _ hk (hI h'.nx (.inr (Nat.le_refl _))).at

/-! ## Structs of integers, compared -/
theorem bin_neInts {P:Program} {t:T Value} {dst:Option Tmp} {pos:String} {af:Array Edge} {g:Option (Nat × Bool)} {ty a' b':TypeId} {x y:Operand} {n:Nat} {xs ys:List Value} {b:Bool} (hk:intKey P ty = some n) (hgd:P.eqGuardType P.depth ty = false) (hl:xs.length = n) (e:eqInts xs ys = some b) (hp:plainB (.agg ⟨xs⟩) = true) (hp':plainB (.agg ⟨ys⟩) = true)
    (hx:ev P t x = .agg ⟨xs⟩) (hy:ev P t y = .agg ⟨ys⟩) :
    rBin P t ⟨dst,.binOp .neq ty x y b',a',pos,af,g⟩ .neq ty (.agg ⟨ys⟩) (.agg ⟨xs⟩) = some (.bool (!b)):=by
  have hn:nilEqT P ty (.agg ⟨xs⟩) (.agg ⟨ys⟩) = none:=by
    unfold nilEqT
    split
    · rename_i d _
      cases d <;> rfl
    · rfl
  show rBin2 P t _ .neq (nilEqT P ty (.agg ⟨xs⟩) (.agg ⟨ys⟩)) = _
  rw [hn]
  show ground P t _ = _
  have e1:evL P t (Op.operands (.binOp .neq ty x y b')).toList = [.agg ⟨xs⟩,.agg ⟨ys⟩]:=by simp only [Op.operands,evL,hx,hy]
  have e2:plainL [.agg ⟨xs⟩,.agg ⟨ys⟩] = true:=by simp only [plainL,hp,hp']; rfl
  have e3:=intKey_eq (P:=P) 9998 hk xs ys hl e
  have e4:pureOf P (eqGuard .neq ty x y (.agg ⟨xs⟩) (.agg ⟨ys⟩)) = some ():=by
    unfold eqGuard
    simp [pureOf,program,bind,Sem.bind,hgd,pure]
  have e6:pureOf P (execOp (ev P t) ⟨dst,.binOp .neq ty x y b',a',pos,af,g⟩) = some (.value (.bool (!b))):=by
    simp only [execOp,hx,hy,bind_assoc]
    rw [pureOf_bd7 _ _ _ e4]
    show pureOf P ((Op.equalIn 10000 ty (.agg ⟨xs⟩) (.agg ⟨ys⟩) >>= fun r=>pure (.bool (!r))) >>= fun v=>pure (Next.value v)) = _
    rw [bind_assoc,pureOf_bd7 _ _ _ e3]
    rfl
  unfold ground
  rw [e1,e2,cond_true,e6]
  rfl
/-! ## Whether a list is a truth, by the reference -/
end Go.Proofs.Po
