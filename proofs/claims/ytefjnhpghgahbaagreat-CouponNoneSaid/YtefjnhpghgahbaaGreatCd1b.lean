import Derived.Test.YtefjnhpghgahbaaGreatCd1
/- An append onto a copy leaves other families as they were; three writes that can come first. -/
namespace Go.Ev
open Go.RowKit
section
variable {P:Program} {n:Nat} {t:T Value} {h:AHeap} {ops:Array Oper} {call:CallT} {dst:Option Tmp} {ty:TypeId} {pos:String} {af:Array Edge} {g:Option (Nat × Bool)}
theorem aw_appC2 {lo sz F:Nat} {v:Value} {cs:List (List Value)} {c:List Value} {e:TypeId} {st xt e':TypeId} {s x:Operand} {bx cx fx:Nat} {rx:Bool} (hst:slOf P st = some e) (hxt:P.underlying xt = some (.slice e')) (hs:ev P t s = v) (hx:ev P t x = .slice (some ⟨bx,0,none⟩) 1 cx)
  (k:AppC lo h sz v cs F) (hHh:lo ≤ h.nx) (hsz:sizeB P e = some sz) (hc:c.length = sz) (hbx:h.bl.get bx = some (.cells c fx rx)) (hnum:numOk P e 1 = true) (hn:cs.length + 1 < bigNat) :
  ∃ v' h',(∀ K:KV,awrite P call t h ⟨dst,.call ⟨.builtin .append,#[s,x],#[st,xt]⟩,ty,pos,af,g⟩ K = K v' h') ∧ RNew lo h' sz v' (cs ++ [c]) ∧ Sm lo h h' ∧ ∀ j c' f' ro,j < h.nx → h.bl.get j = some (.cells c' f' ro) → f' ≠ F → h'.bl.get j = some (.cells c' f' ro):=by
 have hko:kindOk P xt (.slice (some ⟨bx,0,none⟩) 1 cx) = true:=by simp only [kindOk,hxt]
 have hsrc:srcCells h sz (.slice (some ⟨bx,0,none⟩) 1 cx) = some (c,1):=by
  have h1:Nat.ble (Nat.add 0 (Nat.mul 1 sz)) c.length = true:=Nat.ble_eq_true_of_le (by rw [hc]; show 0 + 1 * sz ≤ sz; omega)
  simp only [srcCells,hbx,h1,cond_true]
  rw [show Nat.mul 1 sz = sz from Nat.one_mul sz,List.drop_zero,List.take_of_length_le (by omega)]
 have hnn:numOk P e (Nat.add cs.length 1) = true:=by
  unfold numOk at hnum ⊢
  split at hnum
  ·simp only [Bool.and_eq_true] at hnum ⊢
   exact ⟨by rw [Nat.blt_eq]; exact hn,hnum.2⟩
  ·cases hnum
 obtain ⟨⟨B,l,rfl,k2,k3,k4,k5,k6,k7,k8,k9⟩,k10⟩:=k
 have hfl:∀ {l:List (List Value)},(∀ c,c ∈ l → c.length = sz) → l.flatten.length = l.length * sz:=by
  intro l
  induction l with
  | nil=>intro _; simp
  | cons a l ih =>
   intro hl
   rw [List.flatten_cons,List.length_append,hl a (by simp),ih fun c hc=>hl c (by simp [hc]),List.length_cons,Nat.succ_mul]; omega
 have hlen:=hfl k10
 have hble:Nat.ble (Nat.add 0 (Nat.mul cs.length sz)) cs.flatten.length = true:=Nat.ble_eq_true_of_le (by rw [hlen]; show 0 + cs.length * sz ≤ _; omega)
 have hz:zOk h B sz = true:=by
  unfold zOk
  rw [k4]
  rcases k9 with rfl|⟨k9,hne⟩
  ·simp only [Nat.beq_refl,cond_true]
  ·have:Nat.beq F B = false:=by cases e:Nat.beq F B with|true=>exact absurd (Nat.eq_of_beq_eq_true e) hne|false=>rfl
   simp only [this,cond_false,k9,Nat.beq_refl]
 have hcap:Nat.ble (Nat.add cs.length 1) cs.length = false:=by
  cases e:Nat.ble (Nat.add cs.length 1) cs.length with
  | false=>rfl
  | true=>have:=Nat.le_of_ble_eq_true e; exact absurd this (by show ¬ cs.length + 1 ≤ cs.length; omega)
 have htk:cs.flatten.take (Nat.add 0 (Nat.mul cs.length sz)) = cs.flatten:=List.take_of_length_le (by rw [hlen]; show cs.length * sz ≤ 0 + cs.length * sz; omega)
 have hdt:(cs.flatten.drop 0).take (Nat.mul cs.length sz) = cs.flatten:=by
  rw [List.drop_zero,List.take_of_length_le (by rw [hlen]; exact Nat.le_refl _)]
 refine ⟨.slice (some ⟨h.nx,0,none⟩) (cs.length + 1) (cs.length + 1),h.grow B F sz l cs.flatten (cs.flatten ++ c),fun K=>?_,⟨by simp,?_,h.nx,cs.length + 1,F,by simp,hHh,Nat.lt_succ_self _,?_⟩,⟨Nat.le_succ _,fun j hj=>⟨?_,?_⟩⟩,fun j c' f' ro hj hg hne=>?_⟩
 ·simp only [awrite,wCall,wAppend,hst,hs,hx,hko,cond_true,appendA,hsz,hsrc,hcap,cond_false,appendGrow,k4,hble,hnn,hz,Bool.and_self,k7,growH_eq,htk,hdt,fNat_eq]
 ·intro d hd
  rcases List.mem_append.1 hd with hd|hd
  ·exact k10 d hd
  ·simp at hd; subst hd; exact hc
 ·show (T.set (h.nx + 1) (T.set (B + 1) (kill l B h.bl) B (.cells cs.flatten F false)) h.nx (.cells (cs.flatten ++ c) F false)).get h.nx = _
  rw [get_eq (by omega),List.flatten_append]; simp
 ·have hjl:j ∉ l:=fun q=>by have:=(k8 j q).1; omega
  show (T.set (h.nx + 1) (T.set (B + 1) (kill l B h.bl) B (.cells cs.flatten F false)) h.nx (.cells (cs.flatten ++ c) F false)).get j = _
  rw [get_ne (by omega) (by omega),get_ne (by omega) (by omega),kill_get,if_neg (fun q=>hjl q.1)]
 ·show (T.set (h.nx + 1) (T.set (F + 1) h.fams F [h.nx,B]) h.nx [sz]).get j = _
  rw [get_ne (by omega) (by omega),get_ne (by omega) (by omega)]
 ·have hjB:j ≠ B:=fun q=>by rw [q,k4] at hg; cases hg; exact hne rfl
  have hjl:j ∉ l:=fun q=>by
   obtain ⟨_,_,d,hd⟩:=k8 j q
   rw [hd] at hg; cases hg; exact hne rfl
  show (T.set (h.nx + 1) (T.set (B + 1) (kill l B h.bl) B (.cells cs.flatten F false)) h.nx (.cells (cs.flatten ++ c) F false)).get j = _
  rw [get_ne (by omega) (by omega),get_ne (by omega) hjB,kill_get,if_neg (fun q=>hjl q.1)]; exact hg
variable {f:Nat} {l todo rest:List Info} {i m done:Nat} {hist:List Seen} {KR:T Value → AHeap → Bool} {d fl:Nat} {ids:List (Nat × Nat)}
theorem dmW_appC2 {lo sz F:Nat} {v:Value} {cs:List (List Value)} {c:List Value} {e:TypeId} {st xt e':TypeId} {s x:Operand} {bx cx fx:Nat} {rx:Bool} (hl:Nat.testBit fl i = false) (hi:idAt ids i = none) (hst:slOf P st = some e) (hxt:P.underlying xt = some (.slice e')) (hs:ev P t s = v) (hx:ev P t x = .slice (some ⟨bx,0,none⟩) 1 cx)
  (k:AppC lo h sz v cs F) (hHh:lo ≤ h.nx) (hsz:sizeB P e = some sz) (hc:c.length = sz) (hbx:h.bl.get bx = some (.cells c fx rx)) (hnum:numOk P e 1 = true) (hn:cs.length + 1 < bigNat) (hd:d < n)
  (kk:∀ v' h',RNew lo h' sz v' (cs ++ [c]) → Sm lo h h' → (∀ j c' f' ro,j < h.nx → h.bl.get j = some (.cells c' f' ro) → f' ≠ F → h'.bl.get j = some (.cells c' f' ro)) → again P h' m hist = true ∧ drawGo P call ops n fl ids f l (Nat.lor done (Nat.pow 2 i)) hist (T.set (d + 1) t d v') h' KR = true) :
  dmW fl ids (some true) P call ops n f l done i m ⟨some d,.call ⟨.builtin .append,#[s,x],#[st,xt]⟩,ty,pos,af,g⟩ hist t h KR = true:=by
 obtain ⟨v',h',hw,h1,h2,h3⟩:=aw_appC2 (call:=call) (dst:=some d) (ty:=ty) (pos:=pos) (af:=af) (g:=g) hst hxt hs hx k hHh hsz hc hbx hnum hn
 obtain ⟨k1,k2⟩:=kk v' h' h1 h2 h3
 exact dmW_some hl hi hw hd k1 k2
theorem dm_three {p q r:Info × List Info} (hp:pickR done todo = none) (hc:chosen fl (wreadies done todo) = [p,q,r]) (k1:dmW fl ids (wantA t ops p.1.o.guard) P call ops n f p.2 done p.1.i p.1.pre p.1.o hist t h KR = true)
  (k2:dmW fl ids (wantA t ops q.1.o.guard) P call ops n f q.2 done q.1.i q.1.pre q.1.o hist t h KR = true) (k3:dmW fl ids (wantA t ops r.1.o.guard) P call ops n f r.2 done r.1.i r.1.pre r.1.o hist t h KR = true):drawGo P call ops n fl ids (f + 1) todo done hist t h KR = true:=by
 have key:∀ p:Info × List Info,dmW fl ids (wantA t ops p.1.o.guard) P call ops n f p.2 done p.1.i p.1.pre p.1.o hist t h KR = true → (match wantA t ops p.1.o.guard with
   | none=>false
   | some false=>putK t n p.1.o.dst undef fun t=>fNat (Nat.lor done (Nat.pow 2 p.1.i)) fun done=>drawGo P call ops n fl ids f p.2 done hist t h KR
   | some true=>awriteF P call t h p.1.o (Nat.testBit fl p.1.i) (idAt ids p.1.i) fun v h'=>bif again P h' p.1.pre hist then
      putK t n p.1.o.dst v fun t=>fNat (Nat.lor done (Nat.pow 2 p.1.i)) fun done=>drawGo P call ops n fl ids f p.2 done hist t h' KR
     else false) = true:=fun p k1=>by
  rw [← k1]
  simp only [dmW,fNat_eq]
  cases wantA t ops p.1.o.guard with
  | none=>rfl
  | some b=>cases b <;> rfl
 have e1:=key p k1
 have e2:=key q k2
 have e3:=key r k3
 unfold drawGo
 simp only [hp,hc,allB]
 rw [Bool.and_eq_true,Bool.and_eq_true]
 exact ⟨e1,e2,e3⟩
end
section
variable {lo n:Nat} {h h':AHeap} {v:Value} {cs:List (List Value)}
theorem RNew.kp (k:RNew lo h n v cs) (a:Kp h h'):RNew lo h' n v cs:=by
 obtain ⟨k1,k2,b,c,f,k3,k4,k5,k6⟩:=k
 exact ⟨k1,k2,b,c,f,k3,k4,Nat.lt_of_lt_of_le k5 a.1,(a.get k5).trans k6⟩
theorem RNew.smB (k:RNew lo h n v cs) {h2:AHeap} {lo':Nat} (k2:Kp h h2) (a:Sm lo' h2 h') (hl:h.nx ≤ lo'):RNew lo h' n v cs:=
 (⟨k.1,k.2.1,by
  obtain ⟨_,_,b,c,f,k3,k4,k5,k6⟩:=k
  exact ⟨b,c,f,k3,k4,Nat.lt_of_lt_of_le k5 (Nat.le_trans k2.1 a.1),(a.2 b (by omega)).1.trans ((k2.get k5).trans k6)⟩⟩)
theorem RNew.putAt (k:RNew lo h n v cs) {r:Nat} {c:List Value} (hr:r < lo):RNew lo (h.putAt r c) n v cs:=by
 obtain ⟨k1,k2,b,c',f,k3,k4,k5,k6⟩:=k
 exact ⟨k1,k2,b,c',f,k3,k4,k5,by rw [putAt_ne (by omega)]; exact k6⟩
theorem RNew.sl (k:RNew lo h n v cs):∃ q m c,v = .slice q m c:=by
 obtain ⟨_,_,b,c',f,k3,_⟩:=k
 exact ⟨_,_,_,k3⟩
end
theorem wr_storeR {P:Program} {t:T Value} {h:AHeap} {call:CallT} {ops:Array Oper} {n:Nat} {rest:List Oper} {KR:T Value → AHeap → Bool} {a:TypeId} {x y:Operand} {k0 B off s:Nat} {c:List Value} {fam:Nat} {ls:List Value} (hx:ev P t x = .pointer (some ⟨B,off,none⟩)) (hy:ev P t y = .agg ⟨ls⟩) (hs:sizeB P a = some s) (hne:0 < s) (hls:ls.length = s)
  (hg:h.bl.get B = some (.cells c fam false)) (hf:h.fams.get fam = some [k0]) (hl:off + s ≤ c.length) {c':List Value} (hc:c.take off ++ ls ++ c.drop (off + s) = c') (kk:putR P call ops n rest none t undef (h.upd B c' fam) KR = true):wrR P call ops n rest (.store a x y) none t h KR = true:=by
 unfold wrR
 rw [aw_storeR hx hy hs hne hls hg hf hl,hc]
 exact kk
end Go.Ev
