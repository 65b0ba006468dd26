import Derived.Test.YthgmipngikdknaaGreatPhA
import Derived.Test.YthgmipngikdknaaGreatEvE
import Derived.Test.YthgmipngikdknaaGreatPoM
/- Maps whose keys are sales, and whose values are integers. -/
set_option maxHeartbeats 16000000
namespace Go.Proofs.Po
open Nat (reduceEqDiff reduceAdd reduceSub)
open Go Go.Ev Go.RowKit
set_option linter.unusedSimpArgs false
abbrev SM:=List (Sa × Int)
def mkM:SM → Nat → List MapEntry
 | [],_=>[]
 | e :: r,i=>⟨.agg ⟨cSa e.1⟩,iv e.2,i⟩ :: mkM r (i + 1)
def ixM (s:Sa):SM → Nat → Option (Nat × Int)
 | [],_=>none
 | e :: r,j=>bif gX s e.1 then some (j,e.2) else ixM s r (j + 1)
def lkM (s:Sa):SM → Int
 | []=>0
 | e :: r=>bif gX s e.1 then e.2 else lkM s r
def iJ (s:Sa):SM → Nat
 | []=>0
 | e :: r=>bif gX s e.1 then 0 else iJ s r + 1
def nN (s:Sa):SM → Bool
 | []=>false
 | e :: r=>gX s e.1 || nN s r
def upM (s:Sa) (x:Int):SM → SM
 | []=>[(s,x)]
 | e :: r=>bif gX s e.1 then (s,x) :: r else e :: upM s x r
theorem mV {x y:Sa}:gX x y = true ↔ x = y:=by
 unfold gX
 simp only [uS,Bool.and_eq_true,decide_eq_true_eq]
 constructor
 ·rintro ⟨h1,h2,h3,h4⟩
  cases x; cases y; simp_all
 ·rintro rfl; exact ⟨rfl,rfl,rfl,rfl⟩
theorem ixM_eq (s:Sa):∀ (M:SM) (j:Nat),ixM s M j = bif nN s M then some (j + iJ s M,lkM s M) else none
 | [],j=>rfl
 | e :: r,j=>by
  unfold ixM nN iJ lkM
  cases h:gX s e.1 with
  | true=>rfl
  | false =>
   simp only [cond_false,Bool.false_or]
   rw [ixM_eq s r (j + 1),show j + 1 + iJ s r = j + (iJ s r + 1) from by omega]
theorem findI_mkM (s:Sa):∀ (M:SM) (i j:Nat),findI (cSa s) (mkM M i) j = some ((ixM s M j).map fun x=>(x.1,iv x.2))
 | [],i,j=>rfl
 | e :: r,i,j=>by
  simp only [mkM,findI,eqInts_Sa,ixM]
  cases hq:gX s e.1 with
  | true=>rfl
  | false =>
   simp only [cond_false,bP]
   exact findI_mkM s r (i + 1) (Nat.succ j)
theorem findK_M {P:Program} {kt:TypeId} (hk:lH P kt = some 4) (empty:Bool) (M:SM) (s:Sa):findK P empty kt (.agg ⟨cSa s⟩) (mkM M 0) = some ((ixM s M 0).map fun x=>(x.1,iv x.2)):=by
 have h1:plainB (.agg ⟨cSa s⟩) = true:=rfl
 simp only [findK,h1,cond_true,hk,o9]
 have h2:Nat.beq (cSa s).length 4 = true:=rfl
 simp only [h2,cond_true,findI_mkM,o8]
theorem same_cSa (s:Sa):Instr.sameBits 10000 (.agg ⟨cSa s⟩) (.agg ⟨cSa s⟩) = true:=by
 show ((cSa s).toArray.size == (cSa s).toArray.size && ((cSa s).zip (cSa s)).all fun (x,y)=>Instr.sameBits 9999 x y) = true
 simp [cSa,Instr.sameBits]
theorem mkM_has {s:Sa}:∀ {M:SM} (i:Nat),nN s M = true → (mkM M i)[iJ s M]? = some ⟨.agg ⟨cSa s⟩,iv (lkM s M),i + iJ s M⟩
 | [],i,h=>by cases h
 | e :: r,i,h=>by
  unfold nN at h
  unfold iJ lkM mkM
  cases hq:gX s e.1 with
  | true=>obtain rfl:=mV.1 hq; rfl
  | false =>
   rw [hq,Bool.false_or] at h
   simp only [cond_false,List.getElem?_cons_succ]
   rw [mkM_has (i + 1) h,show i + 1 + iJ s r = i + (iJ s r + 1) from by omega]
theorem mkM_none {s:Sa}:∀ {M:SM} (i:Nat),nN s M = false → mkM M i ++ [⟨.agg ⟨cSa s⟩,iv 0,i + M.length⟩] = mkM (upM s 0 M) i ∧ iJ s M = M.length ∧ lkM s M = 0 ∧ (upM s 0 M).length = M.length + 1
 | [],i,_=>⟨rfl,rfl,rfl,rfl⟩
 | e :: r,i,h=>by
  unfold nN at h
  cases hq:gX s e.1 with
  | true=>rw [hq] at h; cases h
  | false =>
   rw [hq,Bool.false_or] at h
   obtain ⟨q1,q2,q3,q4⟩:=mkM_none (i + 1) h
   unfold upM iJ lkM mkM
   simp only [hq,cond_false,List.length_cons,List.cons_append]
   refine ⟨?_,by omega,q3,by omega⟩
   rw [← q1,show i + 1 + r.length = i + (r.length + 1) from by omega]
theorem modE_has {s:Sa} {x:Int}:∀ {M:SM} (i:Nat),nN s M = true → (vI (mkM M i) (iJ s M) fun e=>{ key:=.agg ⟨cSa s⟩,val:=iv x,born:=e.born }) = mkM (upM s x M) i
 | [],i,h=>by cases h
 | e :: r,i,h=>by
  unfold nN at h
  unfold iJ upM mkM
  cases hq:gX s e.1 with
  | true=>rfl
  | false =>
   rw [hq,Bool.false_or] at h
   simp only [cond_false,vI]
   rw [modE_has (i + 1) h]
theorem modE_keep {s:Sa}:∀ {M:SM} (i:Nat),nN s M = true → (vI (mkM M i) (iJ s M) fun e=>{ key:=.agg ⟨cSa s⟩,val:=e.val,born:=e.born }) = mkM (upM s (lkM s M) M) i
 | [],i,h=>by cases h
 | e :: r,i,h=>by
  unfold nN at h
  unfold iJ upM lkM mkM
  cases hq:gX s e.1 with
  | true=>rfl
  | false =>
   rw [hq,Bool.false_or] at h
   simp only [cond_false,vI]
   rw [modE_keep (i + 1) h]
theorem up_has {s:Sa} {x:Int}:∀ {M:SM},nN s (upM s x M) = true ∧ iJ s (upM s x M) = iJ s M ∧ lkM s (upM s x M) = x
 | []=>by
  have h:gX s s = true:=mV.2 rfl
  unfold upM nN iJ lkM; simp only [h]
  refine ⟨?_,?_,?_⟩<;>first|trivial|rfl
 | e :: r=>by
  have h:gX s s = true:=mV.2 rfl
  cases hq:gX s e.1 with
  | true =>
   unfold upM; rw [hq,cond_true]
   unfold nN iJ lkM; simp only [h,hq]
   refine ⟨?_,?_,?_⟩<;>first|trivial|rfl
  | false =>
   obtain ⟨q1,q2,q3⟩:=up_has (s:=s) (x:=x) (M:=r)
   unfold upM; rw [hq,cond_false]
   unfold nN iJ lkM; simp only [hq,q1,q2,q3]
   refine ⟨?_,?_,?_⟩<;>first|trivial|rfl
theorem up_len2 {s:Sa} {x:Int} {M:SM} (h:nN s M = true):(upM s x M).length = M.length:=by
 induction M with
 | nil=>cases h
 | cons e r ih =>
  unfold nN at h
  unfold upM
  cases hq:gX s e.1 with
  | true=>rfl
  | false =>
   rw [hq,Bool.false_or] at h
   simp only [cond_false,List.length_cons,ih h]
theorem lk_up {s q:Sa} {x:Int}:∀ {M:SM},lkM q (upM s x M) = bif gX q s then x else lkM q M
 | []=>by unfold upM lkM; rfl
 | e :: r=>by
  cases hq:gX s e.1 with
  | true =>
   obtain rfl:=mV.1 hq
   have e1:upM e.1 x (e :: r) = (e.1,x) :: r:=by show (bif gX e.1 e.1 then (e.1,x) :: r else e :: upM e.1 x r) = _; rw [hq]; rfl
   rw [e1]
   show (bif gX q e.1 then x else lkM q r) = bif gX q e.1 then x else (bif gX q e.1 then e.2 else lkM q r)
   cases gX q e.1<;>rfl
  | false =>
   have e1:upM s x (e :: r) = e :: upM s x r:=by show (bif gX s e.1 then (s,x) :: r else e :: upM s x r) = _; rw [hq]; rfl
   rw [e1]
   show (bif gX q e.1 then e.2 else lkM q (upM s x r)) = bif gX q s then x else (bif gX q e.1 then e.2 else lkM q r)
   rw [lk_up]
   cases h1:gX q e.1 with
   | false=>rfl
   | true =>
    obtain rfl:=mV.1 h1
    have:gX e.1 s = false:=by
     cases h2:gX e.1 s with
     | false=>rfl
     | true=>obtain rfl:=mV.1 h2; rw [h1] at hq; cases hq
    rw [this]; rfl
theorem born_has {s:Sa}:∀ {M:SM} (i j:Nat),nN s M = true → findBorn (mkM M i) (i + iJ s M) j = some (j + iJ s M)
 | [],i,j,h=>by cases h
 | e :: r,i,j,h=>by
  unfold nN at h
  unfold iJ mkM
  cases hq:gX s e.1 with
  | true =>
   have:Nat.beq i (i + 0) = true:=Nat.beq_refl i
   simp only [cond_true,findBorn,this]
   rfl
  | false =>
   rw [hq,Bool.false_or] at h
   have:Nat.beq i (i + (iJ s r + 1)) = false:=by
    cases q:Nat.beq i (i + (iJ s r + 1)) with
    | false=>rfl
    | true=>have:=Nat.eq_of_beq_eq_true q; omega
   simp only [cond_false,findBorn,this]
   rw [show i + (iJ s r + 1) = i + 1 + iJ s r from by omega,born_has (i + 1) (Nat.succ j) h,show Nat.succ j + iJ s r = j + (iJ s r + 1) from by omega]
section
variable {P:Program} {mt kt vt:TypeId} {call:CallT} {t:T Value} {h:AHeap} {dst:Option Tmp} {ty:TypeId} {ps:String} {af:Array Edge} {g:Option (Nat × Bool)}
theorem x8 {o:Oper} {r n:Nat} {M:SM} {s:Sa} (hm:mapOf P mt = some (kt,vt)) (hk:lH P kt = some 4) (hz:zeroOf P vt = some (iv 0)) (hg:h.bl.get r = some (.map (mkM M 0) n)) :
  lY P t h o mt (.agg ⟨cSa s⟩) false (.map (some r)) = some (iv (lkM s M)):=by
 simp only [lY,hm,entriesOf,hg,findK_M hk,hz,ixM_eq]
 cases hh:nN s M with
 | true=>rfl
 | false=>rw [(mkM_none 0 hh).2.2.1]; rfl
/-- An entry that is made where there is none. -/
theorem aw_entryM {r:Nat} {M:SM} {s:Sa} {x y:Operand} (hm:mapOf P mt = some (kt,vt)) (hk:lH P kt = some 4) (hz:zeroOf P vt = some (iv 0)) (hx:ev P t x = .map (some r)) (hy:ev P t y = .agg ⟨cSa s⟩) (hg:h.bl.get r = some (.map (mkM M 0) M.length)) (K:KV) :
  bI P call t h ⟨dst,.mapEntry mt x y,ty,ps,af,g⟩ K = K (.tuple #[iv (lkM s M),iv (iJ s M:Int)]) (AHeap.setm h r (.map (mkM (upM s (lkM s M) M) 0) (upM s (lkM s M) M).length)):=by
 have h0:bI P call t h ⟨dst,.mapEntry mt x y,ty,ps,af,g⟩ K = pK P h mt (ev P t y) K (ev P t x):=rfl
 rw [h0,hx,hy]
 simp only [pK,hm,entriesOf,hg,findK_M hk,ixM_eq,hz]
 cases hh:nN s M with
 | true =>
  have h1:=mkM_has (s:=s) (M:=M) 0 hh
  rw [Nat.zero_add] at h1
  have h2:kC (mkM M 0) (iJ s M) (.agg ⟨cSa s⟩) = true:=by unfold kC; rw [h1]; exact same_cSa s
  simp only [cond_true,Option.map_some,Nat.zero_add,qK,h1,h2,setMap_eq,modE_keep 0 hh]
  rw [up_len2 hh]; rfl
 | false =>
  obtain ⟨q1,q2,q3,q4⟩:=mkM_none (s:=s) (M:=M) 0 hh
  rw [Nat.zero_add] at q1
  simp only [cond_false,Option.map_none,qK,bP,setMap_eq]
  rw [q1,q2,q3,q4]; rfl
theorem aw_entryStoreM {r:Nat} {M:SM} {s:Sa} {z:Int} {x y w:Operand} (hx:ev P t x = .map (some r)) (hy:ev P t y = iv (iJ s M:Int)) (hw:ev P t w = iv z) (hh:nN s M = true) (hg:h.bl.get r = some (.map (mkM M 0) M.length)) (K:KV) :
  bI P call t h ⟨dst,.entryStore mt x y w,ty,ps,af,g⟩ K = K undef (AHeap.setm h r (.map (mkM (upM s z M) 0) (upM s z M).length)):=by
 have h0:bI P call t h ⟨dst,.entryStore mt x y w,ty,ps,af,g⟩ K = mJ h (ev P t y) (ev P t w) K (ev P t x):=rfl
 rw [h0,hx,hy,hw]
 have hb:=born_has (s:=s) (M:=M) 0 0 hh
 rw [Nat.zero_add] at hb
 have ho:okV (iv z) = true:=rfl
 have he:(vI (mkM M 0) (iJ s M) fun e=>{ key:=e.key,val:=iv z,born:=e.born }) = mkM (upM s z M) 0:=by
  rw [← modE_has 0 hh]
  have key:∀ (M:SM) (i:Nat),nN s M = true → (vI (mkM M i) (iJ s M) fun e=>{ key:=e.key,val:=iv z,born:=e.born }) = vI (mkM M i) (iJ s M) fun e=>{ key:=.agg ⟨cSa s⟩,val:=iv z,born:=e.born }:=by
   intro M
   induction M with
   | nil=>intro i h; cases h
   | cons e r ih =>
    intro i h
    unfold nN at h
    unfold iJ mkM
    cases hq:gX s e.1 with
    | true=>obtain rfl:=mV.1 hq; rfl
    | false =>
     rw [hq,Bool.false_or] at h
     simp only [cond_false,vI,ih (i + 1) h]
  exact key M 0 hh
 simp only [mJ,entriesOf,hg,ho,cond_true]
 show nJ h r (iv z) (mkM M 0) M.length K (findBorn (mkM M 0) (iJ s M) 0) = _
 rw [hb]
 simp only [nJ,Nat.zero_add,setMap_eq,he]
 rw [up_len2 hh]
end
/-! ## How often a sale is in a list -/
def cnS (s:Sa):List Sa → Int
 | []=>0
 | a :: r=>(bif gX s a then 1 else 0) + cnS s r
theorem cnS_snoc (s a:Sa):∀ l:List Sa,cnS s (l ++ [a]) = cnS s l + bif gX s a then 1 else 0
 | []=>by show (bif gX s a then (1:Int) else 0) + 0 = 0 + _; omega
 | b :: l=>by
  show (bif gX s b then (1:Int) else 0) + cnS s (l ++ [a]) = (bif gX s b then (1:Int) else 0) + cnS s l + _
  rw [cnS_snoc s a l]; omega
theorem cnS_bnd (s:Sa):∀ l:List Sa,0 ≤ cnS s l ∧ cnS s l ≤ l.length
 | []=>⟨Int.le_refl _,Int.le_refl _⟩
 | b :: l=>by
  have h:=cnS_bnd s l
  unfold cnS
  rw [List.length_cons]
  cases gX s b with
  | true=>simp only [cond_true]; omega
  | false=>simp only [cond_false]; omega
end Go.Proofs.Po

/- How often sales are in lists; whether records are explained. -/
namespace Go.Proofs.Po
open Nat (reduceEqDiff reduceAdd reduceSub)
open Go Go.Ev Go.RowKit
set_option linter.unusedSimpArgs false
variable {pr:Prim} {R:ExT}
theorem mTl:mapOf Tryz.prog 135 = some (73,3):=by kernel_rfl
theorem lTl:bH Tryz.prog 135 = some (0 + 1):=by kernel_rfl
theorem qTl (c:List Value) (o:Nat):dD Tryz.prog 135 c o = c[o]?:=by kernel_rfl
theorem fAc0:bZ Tryz.prog 138 0 = some (0,135):=by kernel_rfl
theorem fAc1:bZ Tryz.prog 138 1 = some (1,135):=by kernel_rfl
theorem sAc:bH Tryz.prog 138 = some 2:=by kernel_rfl
theorem zAc:zeroOf Tryz.prog 138 = some (.agg ⟨[.map none,.map none]⟩):=by kernel_rfl
theorem pAc (c:List Value) (o:Nat):dD Tryz.prog 138 c o = bif Nat.ble (Nat.add o 2) c.length then some (.agg ⟨(c.drop o).take 2⟩) else none:=by kernel_rfl
theorem bAc (a b:Nat):fG Tryz.prog 138 [(0,.map (some a)),(1,.map (some b))] = some (.agg ⟨[.map (some a),.map (some b)]⟩):=by kernel_rfl
def acV (a b:Nat):List Value:=[.map (some a),.map (some b)]
theorem acV_len (a b:Nat):(acV a b).length = 2:=rfl
theorem ac0 (a b:Nat):(acV a b)[0]? = some (.map (some a)):=rfl
theorem ac1 (a b:Nat):(acV a b)[1]? = some (.map (some b)):=rfl
theorem bAcV (a b:Nat):fG Tryz.prog 138 [(0,.map (some a)),(1,.map (some b))] = some (.agg ⟨acV a b⟩):=bAc a b
/-- A map that tells how often each sale is in a list. -/
def TlAt (h:AHeap) (r:Nat) (l:List Sa):Prop:=r < h.nx ∧ ∃ M:SM,h.bl.get r = some (.map (mkM M 0) M.length) ∧ ∀ s,lkM s M = cnS s l
theorem TlAt.mono {h h':AHeap} {r:Nat} {l:List Sa} (k:TlAt h r l) (a:Kp h h'):TlAt h' r l:=by
 obtain ⟨k1,M,k2,k3⟩:=k
 exact ⟨Nat.lt_of_lt_of_le k1 a.1,M,(a.get k1).trans k2,k3⟩
theorem kp_setm {h0 h:AHeap} {r:Nat} {o:AObj} (a:Kp h0 h) (hr:h0.nx ≤ r):Kp h0 (AHeap.setm h r o):=⟨a.1,fun k hk=>⟨(gK (by omega)).trans (a.2 k hk).1,(a.2 k hk).2⟩⟩
structure ICt (L:List Sa) (h0:AHeap) (r:Nat) (w:Value) (k:Nat) (t:T Value) (h:AHeap):Prop where
 kp:Kp h0 h
 tl:TlAt h r (L.take k)
 t3:tget t 3 = .map (some r)
 t7:tget t 7 = w
 t8:tget t 8 = iv (L.length:Int)
 t9:tget t 9 = iv (k:Int)
 hk:k ≤ L.length
theorem count_y (S:Ev.Steps Tryz.prog pr R) (h0:AHeap) (w:Value) (L:List Sa) (hs:SlAt h0 4 w (L.map cSa)) (hl:L.length ≤ 1000) :
  bD Tryz.prog R 77 [w] h0 fun u h=>∃ r,u = .map (some r) ∧ h0.nx ≤ r ∧ TlAt h r L:=by
 refine aV (fn:=Tryz.f77) (c:=(Tryz.f77.body).getD .skip) (by kernel_rfl) rfl (by kernel_rfl) rfl (fun K hK=>?_)
 generalize hF:finish Tryz.prog Tryz.f77 K = KF
 simp only [Tryz.f77,Option.getD_some,bJ,aX,aZ,T.setK_eq,id]
 have lS:=fun t h1 o=>dQ hs iscS t h1 o
 repeat refine S.seq ?_
 refine S.region ?_
 simp (disch:=first|omega|simp only [aA,aB]<;>omega|decide) only [rUz,↓reduceIte,reduceEqDiff,reduceAdd]
 repeat refine S.seq ?_
 refine S.region ?_
 simp (disch:=first|omega|simp only [aA,aB]<;>omega|decide) only [rUz,↓reduceIte,reduceEqDiff,reduceAdd,w_makeMap,wr_mkmap]
 obtain ⟨r,hr⟩:∃ z,z = h0.nx:=⟨_,rfl⟩
 rw [← hr]
 have kz:Kp h0 (⟨T.set (r + 1) h0.bl r (.map [] 0),r + 1,h0.fams⟩:AHeap):=⟨by show h0.nx ≤ r + 1; omega,fun k hk=>⟨aQ (by omega) (by omega),rfl⟩⟩
 have hz:TlAt (⟨T.set (r + 1) h0.bl r (.map [] 0),r + 1,h0.fams⟩:AHeap) r (L.take 0):=⟨Nat.lt_succ_self _,[],aU (Nat.lt_succ_self _),fun s=>by rw [List.take_zero]; rfl⟩
 have hr0:h0.nx ≤ r:=by omega
 generalize (⟨T.set (r + 1) h0.bl r (.map [] 0),r + 1,h0.fams⟩:AHeap) = H at kz hz ⊢
 clear hr
 repeat refine S.seq ?_
 refine S.region ?_
 simp (disch:=first|omega|simp only [aA,aB]<;>omega|decide) only [rUz,↓reduceIte,reduceEqDiff,reduceAdd,lS]
 repeat refine S.seq ?_
 refine S.block ?_
 refine S.loop (ι:=Nat) (ICt L h0 r w) (fun k=>L.length - k) ?_ 0 _ _ ?_
 rotate_left
 ·refine ⟨kz,hz,?_,?_,?_,?_,Nat.zero_le _⟩
  all_goals (first|rfl|(simp (disch:=first|omega|simp only [aA,aB]<;>omega|decide) only [rUz,↓reduceIte,reduceEqDiff,reduceAdd]<;>rfl))
 intro k t h ⟨kp,tl,t3,t7,t8,t9,hk⟩ K' hn he
 repeat refine S.seq ?_
 refine S.region ?_
 simp (disch:=first|omega|simp only [aA,aB]<;>omega|decide) only [rUz,↓reduceIte,reduceEqDiff,reduceAdd,t8,t9]
 repeat refine S.seq ?_
 refine S.cond (v:=decide ((k:Int) < (L.length:Int))) (by first|rfl|(simp (disch:=first|omega|simp only [aA,aB]<;>omega|decide) only [rUz,↓reduceIte,reduceEqDiff,reduceAdd]<;>rfl)) (fun e=>?_) (fun e=>?_)
 ·have hkn:k < L.length:=by have:=of_decide_eq_true e; omega
  clear e
  have hps:L[k]? = some L[k]:=List.getElem?_eq_getElem hkn
  have htk:L.take (k + 1) = L.take k ++ [L[k]]:=by rw [List.take_add_one,hps]; rfl
  generalize L[k] = s at hps htk
  obtain ⟨b,f,ro,cells,q1,q2,q3,q4,q5,_⟩:=dM (SlAt.mono hs kp) slcS scS hps
  have qp:=gQ pcS q4 q5
  repeat refine S.seq ?_
  refine S.skip ?_
  simp (disch:=first|omega|simp only [aA,aB]<;>omega|decide) only [rUz,↓reduceIte,reduceEqDiff,reduceAdd]
  repeat refine S.seq ?_
  refine S.block ?_
  repeat refine S.seq ?_
  refine S.region ?_
  simp (disch:=first|omega|simp only [aA,aB]<;>omega|decide) only [rUz,↓reduceIte,reduceEqDiff,reduceAdd,t7,t9,q1,q3,qp,cO zcS]
  refine dF (B:=h.nx) (c:=[iv 0,iv 0,iv 0,iv 0]) (fam:=h.nx) (k:=h.nx) (l:=cSa s) (by simp (disch:=first|omega|simp only [aA,aB]<;>omega|decide) only [rUz,↓reduceIte,reduceEqDiff,reduceAdd]) (by simp (disch:=first|omega|simp only [aA,aB]<;>omega|decide) only [rUz,↓reduceIte,reduceEqDiff,reduceAdd]) scS (by omega) rfl (aP rfl) (dL rfl) rfl ?_
  have hk4:Kp h ((h.add [iv 0,iv 0,iv 0,iv 0]).upd h.nx (cSa s) h.nx):=Kp.refl.add.upd (Nat.le_refl _)
  have hg4:((h.add [iv 0,iv 0,iv 0,iv 0]).upd h.nx (cSa s) h.nx).bl.get h.nx = some (.cells (cSa s) h.nx false):=aO _ _ _
  simp (disch:=first|omega|simp only [aA,aB]<;>omega|decide) only [rUz,↓reduceIte,reduceEqDiff,reduceAdd]
  generalize (h.add [iv 0,iv 0,iv 0,iv 0]).upd h.nx (cSa s) h.nx = g at hk4 hg4 ⊢
  generalize h.nx = B5 at hg4 ⊢
  replace kp:=kp.trans hk4
  replace tl:=tl.mono hk4
  clear q1 q2 q3 q4 q5 qp hk4
  clear h
  obtain ⟨hrg,M,hM,hc⟩:=tl
  have hcb:=cnS_bnd s (L.take k)
  rw [← hc s] at hcb
  have htl:(L.take k).length ≤ 1000:=by rw [List.length_take]; omega
  have hb0:0 ≤ lkM s M:=hcb.1
  have hb1:lkM s M ≤ 1000:=by omega
  have hlk:∀ (t:T Value) (o:Oper),lY Tryz.prog t g o 135 (.agg ⟨cSa s⟩) false (.map (some r)) = some (iv (lkM s M)):=fun t o=>x8 mTl kSaC z3 hM
  have hu:=up_has (s:=s) (x:=lkM s M) (M:=M)
  have hlk2:∀ (t:T Value) (o:Oper),lY Tryz.prog t (AHeap.setm g r (.map (mkM (upM s (lkM s M) M) 0) (upM s (lkM s M) M).length)) o 135 (.agg ⟨cSa s⟩) false (.map (some r)) = some (iv (lkM s M)):=fun t o=>by
   rw [x8 mTl kSaC z3 rC,hu.2.2]
  have tq1:(⟨[iv (lkM s M),iv (iJ s M:Int)]⟩:Array Value)[1]? = some (iv (iJ s M:Int)):=rfl
  repeat refine S.seq ?_
  refine S.drawnL [(false,0),(false,0),(false,3),(false,7),(true,3),(false,19),(true,63)] (by kernel_rfl) (by kernel_rfl) (by kernel_rfl) ?_
  simp (disch:=first|omega|simp only [aA,aB]<;>omega|decide) only [rUz,↓reduceIte,reduceEqDiff,reduceAdd,rDz,infoL,reduceSub,t3,hg4,bT pcS (jL s),rd_lookup,w_lookup,hlk]
  refine jS (v:=.tuple ⟨[iv (lkM s M),iv (iJ s M:Int)]⟩) (h':=AHeap.setm g r (.map (mkM (upM s (lkM s M) M) 0) (upM s (lkM s M) M).length)) (aw_entryM mTl kSaC z3 (by simp (disch:=first|omega|simp only [aA,aB]<;>omega|decide) only [rUz,↓reduceIte,reduceEqDiff,reduceAdd,rDz,infoL,reduceSub,t3]) (by simp (disch:=first|omega|simp only [aA,aB]<;>omega|decide) only [rUz,↓reduceIte,reduceEqDiff,reduceAdd,rDz,infoL,reduceSub]) hM) (Nat.le_of_ble_eq_true rfl) ?_ ?_
  ·try simp (disch:=first|decide|rfl) only [aK,aG,aH]
   rw [bF (v:=iv (lkM s M)) (by simp (disch:=first|omega|simp only [aA,aB]<;>omega|decide) only [rUz,↓reduceIte,reduceEqDiff,reduceAdd,rDz,infoL,reduceSub,rd_lookup,w_lookup,hlk2]) fU]
   try simp (disch:=first|decide|rfl) only [aK,aG,aH]
  simp (disch:=first|omega|simp only [aA,aB]<;>omega|decide) only [rUz,↓reduceIte,reduceEqDiff,reduceAdd,rDz,infoL,reduceSub,dP,tq1]
  refine fP (v:=undef) (h':=AHeap.setm (AHeap.setm g r (.map (mkM (upM s (lkM s M) M) 0) (upM s (lkM s M) M).length)) r (.map (mkM (upM s (lkM s M + 1) (upM s (lkM s M) M)) 0) (upM s (lkM s M + 1) (upM s (lkM s M) M)).length)) (aw_entryStoreM (M:=upM s (lkM s M) M) (s:=s) (by simp (disch:=first|omega|simp only [aA,aB]<;>omega|decide) only [rUz,↓reduceIte,reduceEqDiff,reduceAdd,rDz,infoL,reduceSub,t3]) (by rw [hu.2.1]; simp (disch:=first|omega|simp only [aA,aB]<;>omega|decide) only [rUz,↓reduceIte,reduceEqDiff,reduceAdd,rDz,infoL,reduceSub]) (by simp (disch:=first|omega|simp only [aA,aB]<;>omega|decide) only [rUz,↓reduceIte,reduceEqDiff,reduceAdd,rDz,infoL,reduceSub]) hu.1 rC) ?_ ?_
  ·try simp (disch:=first|decide|rfl) only [aK,aG,aH]
  simp (disch:=first|omega|simp only [aA,aB]<;>omega|decide) only [rUz,↓reduceIte,reduceEqDiff,reduceAdd,rDz,infoL,reduceSub]
  repeat refine S.seq ?_
  refine S.region ?_
  simp (disch:=first|omega|simp only [aA,aB]<;>omega|decide) only [rUz,↓reduceIte,reduceEqDiff,reduceAdd,t9]
  refine hn (k + 1) _ _ (by omega) ⟨kp_setm (kp_setm kp hr0) hr0,⟨hrg,_,rC,fun q=>?_⟩,?_,?_,?_,?_,by omega⟩
  ·rw [lk_up,lk_up,htk,cnS_snoc,← hc q]
   cases hq:gX q s with
   | true=>obtain rfl:=mV.1 hq; rfl
   | false=>show lkM q M = lkM q M + 0; omega
  all_goals (first|rfl|(simp (disch:=first|omega|simp only [aA,aB]<;>omega|decide) only [rUz,↓reduceIte,reduceEqDiff,reduceAdd,t3,t7,t8]<;>rfl))
 have hkn:k = L.length:=by have:=of_decide_eq_false e; omega
 subst hkn
 rw [List.take_of_length_le (Nat.le_refl _)] at tl
 refine S.exit (he _ _ _ _ (fun e=>by cases e) ?_)
 simp (disch:=first|omega|simp only [aA,aB]<;>omega|decide) only [rUz,↓reduceIte,reduceEqDiff,reduceAdd]
 repeat refine S.seq ?_
 refine S.region ?_
 simp (disch:=first|omega|simp only [aA,aB]<;>omega|decide) only [rUz,↓reduceIte,reduceEqDiff,reduceAdd,t3]
 refine S.ret ?_
 try simp only [aJ,aF]
 subst hF
 simp only [finish,aI]
 rw [show Tryz.f77.results.toList = [.tmp 2] from rfl]
 simp (disch:=first|omega|simp only [aA,aB]<;>omega|decide) only [bK,aY,aS,aT,aQ,aU,aO,upd_ne,aP,aW,result1]
 exact hK _ _ kp ⟨r,rfl,hr0,tl⟩
theorem isExplained_y (S:Ev.Steps Tryz.prog pr R) (h0:AHeap) (r1 r2:Nat) (A B:List Sa) (ha:TlAt h0 r1 A) (hb:TlAt h0 r2 B) (s:Sa) :
  bD Tryz.prog R 79 [.agg ⟨acV r1 r2⟩,.agg ⟨cSa s⟩] h0 fun u _=>u = .bool (decide (cnS s A ≤ cnS s B)):=by
 refine aV (fn:=Tryz.f79) (c:=(Tryz.f79.body).getD .skip) (by kernel_rfl) rfl (by kernel_rfl) rfl (fun K hK=>?_)
 generalize hF:finish Tryz.prog Tryz.f79 K = KF
 simp only [Tryz.f79,Option.getD_some,bJ,aX,aZ,T.setK_eq,id]
 repeat refine S.seq ?_
 refine S.region ?_
 simp (disch:=first|omega|simp only [aA,aB]<;>omega|decide) only [rUz,↓reduceIte,reduceEqDiff,reduceAdd]
 obtain ⟨B2,hB2⟩:∃ z,z = h0.nx:=⟨_,rfl⟩
 obtain ⟨B3,hB3⟩:∃ z,z = h0.nx + 1:=⟨_,rfl⟩
 have hb2:((h0.add (acV r1 r2)).add (cSa s)).bl.get B2 = some (.cells (acV r1 r2) B2 false):=by rw [aW (by show B2 ≠ h0.nx + 1; omega)]; subst hB2; exact aP rfl
 have hb3:((h0.add (acV r1 r2)).add (cSa s)).bl.get B3 = some (.cells (cSa s) B3 false):=by subst hB3; exact aP rfl
 have hk1:Kp h0 ((h0.add (acV r1 r2)).add (cSa s)):=Kp.refl.add.add
 rw [← hB3,← hB2]
 clear hB2 hB3
 generalize (h0.add (acV r1 r2)).add (cSa s) = g at hb2 hb3 hk1 ⊢
 obtain ⟨_,M1,hM1,hc1⟩:=ha.mono hk1
 obtain ⟨_,M2,hM2,hc2⟩:=hb.mono hk1
 have hl1:∀ (t:T Value) (o:Oper),lY Tryz.prog t g o 135 (.agg ⟨cSa s⟩) false (.map (some r1)) = some (iv (cnS s A)):=fun t o=>by rw [x8 mTl kSaC z3 hM1,hc1]
 have hl2:∀ (t:T Value) (o:Oper),lY Tryz.prog t g o 135 (.agg ⟨cSa s⟩) false (.map (some r2)) = some (iv (cnS s B)):=fun t o=>by rw [x8 mTl kSaC z3 hM2,hc2]
 repeat refine S.seq ?_
 refine S.drawnL [(false,0),(false,1),(false,0),(false,7),(false,0),(false,16),(false,0),(false,112),(false,255),(false,511)] (by kernel_rfl) (by kernel_rfl) (by kernel_rfl) ?_
 simp (disch:=first|omega|simp only [aA,aB]<;>omega|decide) only [rUz,↓reduceIte,reduceEqDiff,reduceAdd,rDz,infoL,reduceSub,hb2,hb3,aC fAc0 lTl,aC fAc1 lTl,qTl,ac0,ac1,bT pcS (jL s),rd_lookup,w_lookup,hl1,hl2]
 refine S.ret ?_
 try simp only [aJ,aF]
 subst hF
 simp only [finish,aI]
 rw [show Tryz.f79.results.toList = [.tmp 4] from rfl]
 simp (disch:=first|omega|simp only [aA,aB]<;>omega|decide) only [bK,aY,aS,aT,aQ,aU,aO,upd_ne,aP,aW,result1]
 exact hK _ _ hk1 rfl
theorem pFcS (c:List Value) (o:Nat):dD Tryz.prog 140 c o = c[o]?:=by kernel_rfl
theorem closcS_y (S:Ev.Steps Tryz.prog pr R) (hoff:Off pr) (h:AHeap) (Bf f:Nat) (ro:Bool) (G:FuncId) (hG:offB G = true) (first:Array Value) (c:Sa) (b:Bool) (hb:h.bl.get Bf = some (.cells [.func (.func G) first #[]] f ro))
  (hq:∀ h',Kp h h' → bD Tryz.prog R G (first.toList ++ [.agg ⟨cSa c⟩]) h' fun u _=>u = .bool b) (hlt:Bf < h.nx) :
  bD Tryz.prog R 99 [.agg ⟨cSa c⟩,bG Bf] h fun u _=>u = .bool (!b):=by
 refine aV (fn:=Tryz.f99) (c:=(Tryz.f99.body).getD .skip) (by kernel_rfl) rfl (by kernel_rfl) rfl (fun K hK=>?_)
 generalize hF:finish Tryz.prog Tryz.f99 K = KF
 simp only [Tryz.f99,Option.getD_some,bJ,aX,aZ,T.setK_eq,id]
 repeat refine S.seq ?_
 refine S.region ?_
 simp (disch:=first|omega|simp only [aA,aB]<;>omega|decide) only [rUz,↓reduceIte,reduceEqDiff,reduceAdd]
 have hbx:(h.add (cSa c)).bl.get Bf = some (.cells [.func (.func G) first #[]] f ro):=by rw [aW (by omega)]; exact hb
 repeat refine S.seq ?_
 refine S.region ?_
 simp (disch:=first|omega|simp only [aA,aB]<;>omega|decide) only [rUz,↓reduceIte,reduceEqDiff,reduceAdd,hbx,pFcS,bT pcS (jL c)]
 refine bC (fid:=G) (first:=first) (captured:=#[]) (Post:=fun u _=>u = .bool b) (by simp (disch:=first|omega|simp only [aA,aB]<;>omega|decide) only [rUz,↓reduceIte,reduceEqDiff,reduceAdd]) (hoff _ _ _ hG) (by simp (disch:=first|omega|simp only [aA,aB]<;>omega|decide) only [rUz,↓reduceIte,reduceEqDiff,reduceAdd]; exact hq _ Kp.refl.add) ?_
 rintro u g hk rfl
 simp (disch:=first|omega|simp only [aA,aB]<;>omega|decide) only [rUz,↓reduceIte,reduceEqDiff,reduceAdd,dX]
 refine S.ret ?_
 try simp only [aJ,aF]
 subst hF
 simp only [finish,aI]
 rw [show Tryz.f99.results.toList = [.tmp 3] from rfl]
 simp (disch:=first|omega|simp only [aA,aB]<;>omega|decide) only [bK,aY,aS,aT,aQ,aU,aO,upd_ne,aP,aW,result1]
 exact hK _ _ (Kp.refl.add.trans hk) rfl

def IXcS (q:Sa → Bool) (cs:List (Sa)) (H:AHeap) (cv fv:Value) (k:Nat) (t:T Value) (h:AHeap):Prop:=
 k ≤ cs.length ∧ gU q cs 0 = gU q (cs.drop k) k ∧ Kp H h ∧ tget t 0 = cv ∧ tget t 1 = fv ∧ tget t 7 = iv (cs.length:Int) ∧ tget t 8 = iv (k:Int)

theorem idxcS_y (S:Ev.Steps Tryz.prog pr R) (hoff:Off pr) (h0:AHeap) (cv:Value) (cs:List (Sa)) (hc:SlAt h0 4 cv (cs.map cSa)) (hsz:(cs.length:Int) ≤ 1000000) (Bf f:Nat) (ro:Bool) (G:FuncId) (hG:offB G = true) (first:Array Value) (q:Sa → Bool) (hlt:Bf < h0.nx) (hb:h0.bl.get Bf = some (.cells [.func (.func G) first #[]] f ro))
  (hq:∀ h',Kp h0 h' → ∀ c,c ∈ cs → bD Tryz.prog R G (first.toList ++ [.agg ⟨cSa c⟩]) h' fun u _=>u = .bool (q c)) :
  bD Tryz.prog R 119 [cv,.func (.func 99) #[] #[bG Bf]] h0 fun u _=>u = iv (gU q cs 0):=by
 refine aV (fn:=Tryz.f119) (c:=(Tryz.f119.body).getD .skip) (by kernel_rfl) rfl (by kernel_rfl) rfl (fun K hK=>?_)
 generalize hF:finish Tryz.prog Tryz.f119 K = KF
 simp only [Tryz.f119,Option.getD_some,bJ,aX,aZ,T.setK_eq,id]
 have hlen:=fun t h1 o=>dQ hc iscS t h1 o
 repeat refine S.seq ?_
 refine S.region ?_
 simp (disch:=first|omega|simp only [aA,aB]<;>omega|decide) only [rUz,↓reduceIte,reduceEqDiff,reduceAdd]
 repeat refine S.seq ?_
 refine S.region ?_
 simp (disch:=first|omega|simp only [aA,aB]<;>omega|decide) only [rUz,↓reduceIte,reduceEqDiff,reduceAdd,hlen]
 repeat refine S.seq ?_
 refine S.block ?_
 refine S.loop (ι:=Nat) (IXcS q cs h0 cv (.func (.func 99) #[] #[bG Bf])) (fun k=>cs.length - k) ?_ 0 _ _ ?_
 ·intro k t h ⟨hk,hfb,hkp,t0,t1,t7,t8⟩ K' hn he
  repeat refine S.seq ?_
  refine S.region ?_
  simp (disch:=first|omega|simp only [aA,aB]<;>omega|decide) only [rUz,↓reduceIte,reduceEqDiff,reduceAdd,t7,t8]
  repeat refine S.seq ?_
  refine S.cond (v:=decide ((k:Int) < (cs.length:Int))) (by first|rfl|(simp (disch:=first|omega|simp only [aA,aB]<;>omega|decide) only [rUz,↓reduceIte,reduceEqDiff,reduceAdd]<;>rfl)) (fun e=>?_) (fun e=>?_)
  ·have hkn:k < cs.length:=by have:=of_decide_eq_true e; omega
   clear e
   have hps:cs[k]? = some cs[k]:=List.getElem?_eq_getElem hkn
   have hmem:cs[k] ∈ cs:=List.getElem_mem hkn
   rw [List.drop_eq_getElem_cons hkn] at hfb
   simp only [gU] at hfb
   generalize cs[k] = c at hps hmem hfb
   obtain ⟨b,f2,ro2,cells,q1,q2,q3,q4,q5,_⟩:=dM (SlAt.mono hc hkp) slcS scS hps
   have qp:=gQ pcS q4 q5
   repeat refine S.seq ?_
   refine S.skip ?_
   simp (disch:=first|omega|simp only [aA,aB]<;>omega|decide) only [rUz,↓reduceIte,reduceEqDiff,reduceAdd]
   repeat refine S.seq ?_
   refine S.block ?_
   repeat refine S.seq ?_
   refine S.region ?_
   simp (disch:=first|omega|simp only [aA,aB]<;>omega|decide) only [rUz,↓reduceIte,reduceEqDiff,reduceAdd,t8]
   repeat refine S.seq ?_
   refine S.region ?_
   simp (disch:=first|omega|simp only [aA,aB]<;>omega|decide) only [rUz,↓reduceIte,reduceEqDiff,reduceAdd,t0,t1,t8,q1,q3,qp]
   refine bC (fid:=99) (first:=#[]) (captured:=#[bG Bf]) (Post:=fun u _=>u = .bool (!(q c))) (by simp (disch:=first|omega|simp only [aA,aB]<;>omega|decide) only [rUz,↓reduceIte,reduceEqDiff,reduceAdd,t1]) (hoff _ _ _ rfl) (by simp (disch:=first|omega|simp only [aA,aB]<;>omega|decide) only [rUz,↓reduceIte,reduceEqDiff,reduceAdd]; exact closcS_y S hoff h Bf f ro G hG first c (q c) ((hkp.get hlt).trans hb) (fun h' hk'=>hq h' (hkp.trans hk') c hmem) (Nat.lt_of_lt_of_le hlt hkp.1)) ?_
   rintro u g hk2 rfl
   simp (disch:=first|omega|simp only [aA,aB]<;>omega|decide) only [rUz,↓reduceIte,reduceEqDiff,reduceAdd]
   cases hqp:q c with
   | true =>
    rw [hqp,cond_true] at hfb
    repeat refine S.seq ?_
    refine S.cond (v:=false) (by first|rfl|(simp (disch:=first|omega|simp only [aA,aB]<;>omega|decide) only [rUz,↓reduceIte,reduceEqDiff,reduceAdd,hqp,Bool.not_true]<;>rfl)) (fun e=>by cases e) (fun _=>?_)
    repeat refine S.seq ?_
    refine S.skip ?_
    simp (disch:=first|omega|simp only [aA,aB]<;>omega|decide) only [rUz,↓reduceIte,reduceEqDiff,reduceAdd]
    repeat refine S.seq ?_
    refine S.region ?_
    simp (disch:=first|omega|simp only [aA,aB]<;>omega|decide) only [rUz,↓reduceIte,reduceEqDiff,reduceAdd,t8]
    refine hn (k + 1) _ _ (by omega) ⟨by omega,hfb,hkp.trans hk2,?_,?_,?_,?_⟩
    all_goals (first|rfl|(simp (disch:=first|omega|simp only [aA,aB]<;>omega|decide) only [rUz,↓reduceIte,reduceEqDiff,reduceAdd,t0,t1,t7,t8]<;>rfl))
   | false =>
    rw [hqp,cond_false] at hfb
    repeat refine S.seq ?_
    refine S.cond (v:=true) (by first|rfl|(simp (disch:=first|omega|simp only [aA,aB]<;>omega|decide) only [rUz,↓reduceIte,reduceEqDiff,reduceAdd,hqp,Bool.not_false]<;>rfl)) (fun _=>?_) (fun e=>by cases e)
    repeat refine S.seq ?_
    refine S.region ?_
    simp (disch:=first|omega|simp only [aA,aB]<;>omega|decide) only [rUz,↓reduceIte,reduceEqDiff,reduceAdd,t8]
    refine S.ret ?_
    simp only [aJ,aF]
    refine he _ _ _ _ (fun e=>by cases e) ?_
    try simp only [aJ,aF]
    subst hF
    simp only [finish,aI]
    rw [show Tryz.f119.results.toList = [.tmp 4] from rfl]
    simp (disch:=first|omega|simp only [aA,aB]<;>omega|decide) only [bK,aY,aS,aT,aQ,aU,aO,upd_ne,aP,aW,result1]
    exact hK _ _ (hkp.trans hk2) (by rw [hfb])
  ·have hkn:k = cs.length:=by have:=of_decide_eq_false e; omega
   subst hkn
   rw [List.drop_of_length_le (Nat.le_refl _)] at hfb
   refine S.exit (he _ _ _ _ (fun e=>by cases e) ?_)
   simp (disch:=first|omega|simp only [aA,aB]<;>omega|decide) only [rUz,↓reduceIte,reduceEqDiff,reduceAdd]
   repeat refine S.seq ?_
   refine S.region ?_
   simp (disch:=first|omega|simp only [aA,aB]<;>omega|decide) only [rUz,↓reduceIte,reduceEqDiff,reduceAdd]
   refine S.ret ?_
   try simp only [aJ,aF]
   subst hF
   simp only [finish,aI]
   rw [show Tryz.f119.results.toList = [.tmp 4] from rfl]
   simp (disch:=first|omega|simp only [aA,aB]<;>omega|decide) only [bK,aY,aS,aT,aQ,aU,aO,upd_ne,aP,aW,result1]
   exact hK _ _ hkp (by rw [hfb]; rfl)
 ·refine ⟨Nat.zero_le _,rfl,Kp.refl,?_,?_,?_,?_⟩
  all_goals (first|rfl|(simp (disch:=first|omega|simp only [aA,aB]<;>omega|decide) only [rUz,↓reduceIte,reduceEqDiff,reduceAdd]<;>rfl))

theorem allcS_y (S:Ev.Steps Tryz.prog pr R) (hoff:Off pr) (h0:AHeap) (cv:Value) (cs:List (Sa)) (hc:SlAt h0 4 cv (cs.map cSa)) (hsz:(cs.length:Int) ≤ 1000000) (G:FuncId) (hG:offB G = true) (first:Array Value) (q:Sa → Bool)
  (hq:∀ h',Kp h0 h' → ∀ c,c ∈ cs → bD Tryz.prog R G (first.toList ++ [.agg ⟨cSa c⟩]) h' fun u _=>u = .bool (q c)) :
  bD Tryz.prog R 78 [cv,.func (.func G) first #[]] h0 fun u _=>u = .bool (cs.all q):=by
 refine aV (fn:=Tryz.f78) (c:=(Tryz.f78.body).getD .skip) (by kernel_rfl) rfl (by kernel_rfl) rfl (fun K hK=>?_)
 generalize hF:finish Tryz.prog Tryz.f78 K = KF
 simp only [Tryz.f78,Option.getD_some,bJ,aX,aZ,T.setK_eq,id]
 repeat refine S.seq ?_
 refine S.region ?_
 simp (disch:=first|omega|simp only [aA,aB]<;>omega|decide) only [rUz,↓reduceIte,reduceEqDiff,reduceAdd]
 repeat refine S.seq ?_
 refine S.region ?_
 simp (disch:=first|omega|simp only [aA,aB]<;>omega|decide) only [rUz,↓reduceIte,reduceEqDiff,reduceAdd]
 have hidx:=idxcS_y S hoff (h0.add [.func (.func G) first #[]]) cv cs (SlAt.mono hc Kp.refl.add) hsz h0.nx h0.nx false G hG first q (Nat.lt_succ_self _) (aP rfl) (fun h' hk=>hq h' (Kp.refl.add.trans hk))
 have hcf:bD Tryz.prog R 98 [cv,.func (.func 99) #[] #[bG h0.nx]] (h0.add [.func (.func G) first #[]]) fun u _=>u = .bool (!(cs.all q)):=by
  clear hK hF K KF
  refine aV (fn:=Tryz.f98) (c:=(Tryz.f98.body).getD .skip) (by kernel_rfl) rfl (by kernel_rfl) rfl (fun K hK=>?_)
  generalize hF:finish Tryz.prog Tryz.f98 K = KF
  simp only [Tryz.f98,Option.getD_some,bJ,aX,aZ,T.setK_eq,id]
  repeat refine S.seq ?_
  refine S.region ?_
  simp (disch:=first|omega|simp only [aA,aB]<;>omega|decide) only [rUz,↓reduceIte,reduceEqDiff,reduceAdd]
  repeat refine S.seq ?_
  refine S.region ?_
  simp (disch:=first|omega|simp only [aA,aB]<;>omega|decide) only [rUz,↓reduceIte,reduceEqDiff,reduceAdd]
  refine bC (fid:=119) (first:=#[]) (captured:=#[]) (Post:=fun u _=>u = iv (gU q cs 0)) rfl (hoff _ _ _ rfl) (by simp (disch:=first|omega|simp only [aA,aB]<;>omega|decide) only [rUz,↓reduceIte,reduceEqDiff,reduceAdd]; exact hidx) ?_
  rintro u g hk rfl
  simp (disch:=first|omega|simp only [aA,aB]<;>omega|decide) only [rUz,↓reduceIte,reduceEqDiff,reduceAdd,tN q cs 0 (Int.le_refl _)]
  refine S.ret ?_
  try simp only [aJ,aF]
  subst hF
  simp only [finish,aI]
  rw [show Tryz.f98.results.toList = [.tmp 4] from rfl]
  simp (disch:=first|omega|simp only [aA,aB]<;>omega|decide) only [bK,aY,aS,aT,aQ,aU,aO,upd_ne,aP,aW,result1]
  exact hK _ _ hk rfl
 refine bC (fid:=98) (first:=#[]) (captured:=#[]) (Post:=fun u _=>u = .bool (!(cs.all q))) rfl (hoff _ _ _ rfl) (by simp (disch:=first|omega|simp only [aA,aB]<;>omega|decide) only [rUz,↓reduceIte,reduceEqDiff,reduceAdd]; exact hcf) ?_
 rintro u g hk rfl
 simp (disch:=first|omega|simp only [aA,aB]<;>omega|decide) only [rUz,↓reduceIte,reduceEqDiff,reduceAdd,dX,Bool.not_not]
 refine S.ret ?_
 try simp only [aJ,aF]
 subst hF
 simp only [finish,aI]
 rw [show Tryz.f78.results.toList = [.tmp 4] from rfl]
 simp (disch:=first|omega|simp only [aA,aB]<;>omega|decide) only [bK,aY,aS,aT,aQ,aU,aO,upd_ne,aP,aW,result1]
 exact hK _ _ (Kp.refl.add.trans hk) rfl

theorem explains_y (S:Ev.Steps Tryz.prog pr R) (hoff:Off pr) (h0:AHeap) (Bc:Nat) (v cv:Value) (lf:List Int) (sv w:Value) (A L:List Sa) (hc:h0.bl.get Bc = some (.cells (crV v cv lf sv) Bc false)) (h6:lf.length = 6) (hlt:Bc < h0.nx) (hs:SlAt h0 4 sv (A.map cSa)) (hA:A.length ≤ 1000) (hw:SlAt h0 4 w (L.map cSa)) (hL:L.length ≤ 1000) :
  bD Tryz.prog R 55 [bG Bc,w] h0 fun u _=>u = .bool (L.all fun s=>decide (cnS s L ≤ cnS s A)):=by
 refine aV (fn:=Tryz.f55) (c:=(Tryz.f55.body).getD .skip) (by kernel_rfl) rfl (by kernel_rfl) rfl (fun K hK=>?_)
 generalize hF:finish Tryz.prog Tryz.f55 K = KF
 simp only [Tryz.f55,Option.getD_some,bJ,aX,aZ,T.setK_eq,id]
 have hsv:=rF hs
 repeat refine S.seq ?_
 refine S.region ?_
 simp (disch:=first|omega|simp only [aA,aB]<;>omega|decide) only [rUz,↓reduceIte,reduceEqDiff,reduceAdd]
 obtain ⟨B5,hB5⟩:∃ x,x = h0.nx:=⟨_,rfl⟩
 repeat refine S.seq ?_
 refine S.drawnM [(false,0),(true,1),(false,0),(false,4),(false,12),(false,28),(true,63),(false,127),(true,0),(true,511)] 256 [8] (by kernel_rfl) (by kernel_rfl) (by kernel_rfl) (by kernel_rfl) (by kernel_rfl) ?_
 generalize hJJ:(fun (t:T Value) (h:AHeap)=>_) = KJ
 suffices hJ:∀ t h a b,Kp h0 h → tget t 1 = w → tget t 5 = bG B5 → h.bl.get B5 = some (.cells (acV a b) B5 false) → TlAt h a L → TlAt h b A → KJ t h = true by
  clear hJJ hK
  have hkR:Kp h0 h0.res:=Kp.refl.res
  have f5:h0.res.fams.get B5 = some []:=by subst hB5; exact res_fe rfl
  have nR:h0.res.nx = B5 + 1:=by subst hB5; rfl
  have hcR:h0.res.bl.get Bc = some (.cells (crV v cv lf sv) Bc false):=(hkR.get hlt).trans hc
  have hne:Bc ≠ B5:=by omega
  simp (disch:=first|omega|simp only [aA,aB]<;>omega|decide) only [rUz,↓reduceIte,reduceEqDiff,reduceAdd,rMz,infoL,reduceSub]
  refine jD rfl ?_
  simp (disch:=first|omega|simp only [aA,aB]<;>omega|decide) only [rUz,↓reduceIte,reduceEqDiff,reduceAdd,rMz,infoL,reduceSub,res_bl,hc,aC fC3 lcS,qcS,cr8 h6]
  refine jD rfl ?_
  simp (disch:=first|omega|simp only [aA,aB]<;>omega|decide) only [rUz,↓reduceIte,reduceEqDiff,reduceAdd,rMz,infoL,reduceSub,res_bl,hc,aC fC3 lcS,qcS,cr8 h6]
  refine jD rfl ?_
  simp (disch:=first|omega|simp only [aA,aB]<;>omega|decide) only [rUz,↓reduceIte,reduceEqDiff,reduceAdd,rMz,infoL,reduceSub,res_bl,hc,aC fC3 lcS,qcS,cr8 h6]
  refine jD rfl ?_
  simp (disch:=first|omega|simp only [aA,aB]<;>omega|decide) only [rUz,↓reduceIte,reduceEqDiff,reduceAdd,rMz,infoL,reduceSub,res_bl,hc,aC fC3 lcS,qcS,cr8 h6]
  rw [← hB5]
  generalize h0.res = R0 at hkR f5 nR hcR ⊢
  have hltR:Bc < R0.nx:=Nat.lt_of_lt_of_le hlt hkR.1
  refine mZ rfl rfl ?_
  refine qY (fid:=77) (first:=#[]) (captured:=#[]) (Post:=fun u h=>∃ r,u = .map (some r) ∧ R0.nx ≤ r ∧ TlAt h r L) rfl rfl (by simp (disch:=first|omega|simp only [aA,aB]<;>omega|decide) only [rUz,↓reduceIte,reduceEqDiff,reduceAdd,rMz,infoL,reduceSub]) (hoff _ _ _ rfl) (by simp (disch:=first|omega|simp only [aA,aB]<;>omega|decide) only [rUz,↓reduceIte,reduceEqDiff,reduceAdd,rMz,infoL,reduceSub]; exact count_y S R0 w L (SlAt.mono hw hkR) hL) (Nat.le_of_ble_eq_true rfl) ?_
  rintro u g hkg ⟨a,rfl,hfa,hta⟩
  have hcg:=(hkg.get hltR).trans hcR
  refine ⟨?_,?_⟩
  ·try simp (disch:=first|decide|rfl) only [aK,aG,aH]
   rw [bF (v:=sv) (by simp (disch:=first|omega|simp only [aA,aB]<;>omega|decide) only [rUz,↓reduceIte,reduceEqDiff,reduceAdd,rDz,infoL,reduceSub,hcg,aC fC3 lcS,qcS,cr8 h6]) hsv]
   try simp (disch:=first|decide|rfl) only [aK,aG,aH]
  simp (disch:=first|omega|simp only [aA,aB]<;>omega|decide) only [rUz,↓reduceIte,reduceEqDiff,reduceAdd,rMz,infoL,reduceSub]
  refine mZ rfl rfl ?_
  refine qY (fid:=77) (first:=#[]) (captured:=#[]) (Post:=fun u h=>∃ r,u = .map (some r) ∧ g.nx ≤ r ∧ TlAt h r A) rfl rfl (by simp (disch:=first|omega|simp only [aA,aB]<;>omega|decide) only [rUz,↓reduceIte,reduceEqDiff,reduceAdd,rMz,infoL,reduceSub]) (hoff _ _ _ rfl) (by simp (disch:=first|omega|simp only [aA,aB]<;>omega|decide) only [rUz,↓reduceIte,reduceEqDiff,reduceAdd,rMz,infoL,reduceSub]; exact count_y S g sv A (SlAt.mono hs (hkR.trans hkg)) hA) (Nat.le_of_ble_eq_true rfl) ?_
  rintro u g2 hkg2 ⟨b,rfl,hfb,htb⟩
  refine ⟨?_,?_⟩
  ·try simp (disch:=first|decide|rfl) only [aK,aG,aH]
  have hta2:=hta.mono hkg2
  have hkk:=hkg.trans hkg2
  have hn5:B5 < R0.nx:=by omega
  have hab:a ≠ B5 ∧ b ≠ B5:=⟨by omega,by have:=hkg.1; omega⟩
  simp (disch:=first|omega|simp only [aA,aB]<;>omega|decide) only [rUz,↓reduceIte,reduceEqDiff,reduceAdd,rMz,infoL,reduceSub,fF,List.map_cons,List.map_nil,bAcV]
  refine mZ rfl rfl ?_
  refine dmW_alloc (r:=B5) (z:=.agg ⟨[.map none,.map none]⟩) rfl zAc ((hkk.fget hn5).trans f5) (Nat.le_of_ble_eq_true rfl) ?_ ?_
  ·have y1:(g2.putAt B5 [.map none,.map none]).bl.get Bc = some (.cells (crV v cv lf sv) Bc false):=by rw [iY hne]; exact (hkk.get hltR).trans hcR
   try simp (disch:=first|decide|rfl) only [aK,aG,aH]
   rw [bF (v:=sv) (by simp (disch:=first|omega|simp only [aA,aB]<;>omega|decide) only [rUz,↓reduceIte,reduceEqDiff,reduceAdd,rDz,infoL,reduceSub,y1,aC fC3 lcS,qcS,cr8 h6]) hsv]
   try simp (disch:=first|decide|rfl) only [aK,aG,aH]
  simp (disch:=first|omega|simp only [aA,aB]<;>omega|decide) only [rUz,↓reduceIte,reduceEqDiff,reduceAdd,rMz,infoL,reduceSub]
  refine mZ rfl rfl ?_
  refine dmW_none rfl rfl (aw_storeN (B:=B5) (ls:=acV a b) (by simp (disch:=first|omega|simp only [aA,aB]<;>omega|decide) only [rUz,↓reduceIte,reduceEqDiff,reduceAdd,rMz,infoL,reduceSub]) (by simp (disch:=first|omega|simp only [aA,aB]<;>omega|decide) only [rUz,↓reduceIte,reduceEqDiff,reduceAdd,rMz,infoL,reduceSub]) sAc (by omega) rfl (putAt_eq rfl) (tJ rfl) rfl) ?_ ?_
  ·try simp (disch:=first|decide|rfl) only [aK,aG,aH]
  simp (disch:=first|omega|simp only [aA,aB]<;>omega|decide) only [rUz,↓reduceIte,reduceEqDiff,reduceAdd,rMz,infoL,reduceSub]
  have hle:h0.nx ≤ B5:=by omega
  refine hJ _ _ a b ?_ ?_ ?_ ?_ ?_ ?_
  ·exact ((hkR.trans hkk).putAt hle).upd hle
  ·simp (disch:=first|omega|simp only [aA,aB]<;>omega|decide) only [rUz,↓reduceIte,reduceEqDiff,reduceAdd]
  ·simp (disch:=first|omega|simp only [aA,aB]<;>omega|decide) only [rUz,↓reduceIte,reduceEqDiff,reduceAdd]
  ·exact aO _ _ _
  ·obtain ⟨x1,M,x2,x3⟩:=hta2
   exact ⟨x1,M,by rw [upd_ne _ _ _ hab.1,iY hab.1]; exact x2,x3⟩
  ·obtain ⟨x1,M,x2,x3⟩:=htb
   exact ⟨x1,M,by rw [upd_ne _ _ _ hab.2,iY hab.2]; exact x2,x3⟩
 intro t h a b hk t1 t5 hb5 hta htb
 subst hJJ
 simp only [fM]
 repeat refine S.seq ?_
 refine S.region ?_
 simp (disch:=first|omega|simp only [aA,aB]<;>omega|decide) only [rUz,↓reduceIte,reduceEqDiff,reduceAdd,t1,t5,hb5,bT pAc (acV_len a b)]
 refine bC (fid:=78) (first:=#[]) (captured:=#[]) (Post:=fun u _=>u = .bool (L.all fun s=>decide (cnS s L ≤ cnS s A))) rfl (hoff _ _ _ rfl) (by simp (disch:=first|omega|simp only [aA,aB]<;>omega|decide) only [rUz,↓reduceIte,reduceEqDiff,reduceAdd]; exact allcS_y S hoff h w L (SlAt.mono hw hk) (by omega) 79 rfl #[.agg ⟨acV a b⟩] (fun s=>decide (cnS s L ≤ cnS s A)) (fun h' hk' s _=>isExplained_y S h' a b L A (hta.mono hk') (htb.mono hk') s)) ?_
 rintro u g hkg rfl
 simp (disch:=first|omega|simp only [aA,aB]<;>omega|decide) only [rUz,↓reduceIte,reduceEqDiff,reduceAdd]
 refine S.ret ?_
 try simp only [aJ,aF]
 subst hF
 simp only [finish,aI]
 rw [show Tryz.f55.results.toList = [.tmp 4] from rfl]
 simp (disch:=first|omega|simp only [aA,aB]<;>omega|decide) only [bK,aY,aS,aT,aQ,aU,aO,upd_ne,aP,aW,result1]
 exact hK _ _ (hk.trans hkg) rfl
def rQ (O:List Od) (L:List Sa):Int:=bif decide (dY O = 0) then (bif decide ((L.length:Int) ≤ 6) then 0 else 3) else dY O
theorem look_y (S:Ev.Steps Tryz.prog pr R) (hoff:Off pr) (h0:AHeap) (v w:Value) (O:List Od) (L:List Sa) (hb:PoAt h0 v O) (hw:SlAt h0 4 w (L.map cSa)) (h9:O.length ≤ 9) :
  bD Tryz.prog R 52 [.agg ⟨poV v⟩,w] h0 fun u _=>u = iv (rQ O L):=by
 refine aV (fn:=Tryz.f52) (c:=(Tryz.f52.body).getD .skip) (by kernel_rfl) rfl (by kernel_rfl) rfl (fun K hK=>?_)
 generalize hF:finish Tryz.prog Tryz.f52 K = KF
 simp only [Tryz.f52,Option.getD_some,bJ,aX,aZ,T.setK_eq,id]
 have hK':∀ n,n = rQ O L → ∀ g,Kp h0 g → K (iv n) g = true:=fun b e g hk=>hK _ _ hk (by rw [e])
 clear hK
 unfold rQ at hK'
 have lS:=fun t h1 o=>dQ hw iscS t h1 o
 repeat refine S.seq ?_
 refine S.region ?_
 simp (disch:=first|omega|simp only [aA,aB]<;>omega|decide) only [rUz,↓reduceIte,reduceEqDiff,reduceAdd]
 have hb1:(h0.add (poV v)).bl.get h0.nx = some (.cells (poV v) h0.nx false):=aP rfl
 have hk1:Kp h0 (h0.add (poV v)):=Kp.refl.add
 generalize h0.add (poV v) = H at hb1 hk1 ⊢
 generalize h0.nx = B2 at hb1 ⊢
 repeat refine S.seq ?_
 refine S.region ?_
 simp (disch:=first|omega|simp only [aA,aB]<;>omega|decide) only [rUz,↓reduceIte,reduceEqDiff,reduceAdd,hb1,bT pB (dR v)]
 refine bC (fid:=45) (first:=#[]) (captured:=#[]) (Post:=fun u _=>u = iv (dY O)) rfl (hoff _ _ _ rfl) (by simp (disch:=first|omega|simp only [aA,aB]<;>omega|decide) only [rUz,↓reduceIte,reduceEqDiff,reduceAdd]; exact checkPost_y S hoff H v O (hb.mono hk1) h9) ?_
 rintro u g hkg rfl
 simp (disch:=first|omega|simp only [aA,aB]<;>omega|decide) only [rUz,↓reduceIte,reduceEqDiff,reduceAdd]
 cases h1:decide (dY O = 0) with
 | false =>
  rw [h1,cond_false] at hK'
  repeat refine S.seq ?_
  refine S.region ?_
  simp (disch:=first|omega|simp only [aA,aB]<;>omega|decide) only [rUz,↓reduceIte,reduceEqDiff,reduceAdd,h1,Bool.not_false]
  repeat refine S.seq ?_
  refine S.cond (v:=true) (by first|rfl|(simp (disch:=first|omega|simp only [aA,aB]<;>omega|decide) only [rUz,↓reduceIte,reduceEqDiff,reduceAdd]<;>rfl)) (fun _=>?_) (fun e=>by cases e)
  repeat refine S.seq ?_
  refine S.region ?_
  simp (disch:=first|omega|simp only [aA,aB]<;>omega|decide) only [rUz,↓reduceIte,reduceEqDiff,reduceAdd]
  refine S.ret ?_
  try simp only [aJ,aF]
  subst hF
  simp only [finish,aI]
  rw [show Tryz.f52.results.toList = [.tmp 4] from rfl]
  simp (disch:=first|omega|simp only [aA,aB]<;>omega|decide) only [bK,aY,aS,aT,aQ,aU,aO,upd_ne,aP,aW,result1]
  exact hK' _ rfl _ (hk1.trans hkg)
 | true =>
 rw [h1,cond_true] at hK'
 repeat refine S.seq ?_
 refine S.region ?_
 simp (disch:=first|omega|simp only [aA,aB]<;>omega|decide) only [rUz,↓reduceIte,reduceEqDiff,reduceAdd,h1,Bool.not_true]
 repeat refine S.seq ?_
 refine S.cond (v:=false) (by first|rfl|(simp (disch:=first|omega|simp only [aA,aB]<;>omega|decide) only [rUz,↓reduceIte,reduceEqDiff,reduceAdd]<;>rfl)) (fun e=>by cases e) (fun _=>?_)
 repeat refine S.seq ?_
 refine S.skip ?_
 simp (disch:=first|omega|simp only [aA,aB]<;>omega|decide) only [rUz,↓reduceIte,reduceEqDiff,reduceAdd]
 cases h2:decide ((L.length:Int) ≤ 6) with
 | false =>
  rw [h2,cond_false] at hK'
  repeat refine S.seq ?_
  refine S.region ?_
  simp (disch:=first|omega|simp only [aA,aB]<;>omega|decide) only [rUz,↓reduceIte,reduceEqDiff,reduceAdd,lS,gtB,h2,Bool.not_false]
  repeat refine S.seq ?_
  refine S.cond (v:=true) (by first|rfl|(simp (disch:=first|omega|simp only [aA,aB]<;>omega|decide) only [rUz,↓reduceIte,reduceEqDiff,reduceAdd]<;>rfl)) (fun _=>?_) (fun e=>by cases e)
  repeat refine S.seq ?_
  refine S.region ?_
  simp (disch:=first|omega|simp only [aA,aB]<;>omega|decide) only [rUz,↓reduceIte,reduceEqDiff,reduceAdd]
  refine S.ret ?_
  try simp only [aJ,aF]
  subst hF
  simp only [finish,aI]
  rw [show Tryz.f52.results.toList = [.tmp 4] from rfl]
  simp (disch:=first|omega|simp only [aA,aB]<;>omega|decide) only [bK,aY,aS,aT,aQ,aU,aO,upd_ne,aP,aW,result1]
  exact hK' _ rfl _ (hk1.trans hkg)
 | true =>
 rw [h2,cond_true] at hK'
 repeat refine S.seq ?_
 refine S.region ?_
 simp (disch:=first|omega|simp only [aA,aB]<;>omega|decide) only [rUz,↓reduceIte,reduceEqDiff,reduceAdd,lS,gtB,h2,Bool.not_true]
 repeat refine S.seq ?_
 refine S.cond (v:=false) (by first|rfl|(simp (disch:=first|omega|simp only [aA,aB]<;>omega|decide) only [rUz,↓reduceIte,reduceEqDiff,reduceAdd]<;>rfl)) (fun e=>by cases e) (fun _=>?_)
 repeat refine S.seq ?_
 refine S.skip ?_
 simp (disch:=first|omega|simp only [aA,aB]<;>omega|decide) only [rUz,↓reduceIte,reduceEqDiff,reduceAdd]
 repeat refine S.seq ?_
 refine S.region ?_
 simp (disch:=first|omega|simp only [aA,aB]<;>omega|decide) only [rUz,↓reduceIte,reduceEqDiff,reduceAdd]
 refine S.ret ?_
 try simp only [aJ,aF]
 subst hF
 simp only [finish,aI]
 rw [show Tryz.f52.results.toList = [.tmp 4] from rfl]
 simp (disch:=first|omega|simp only [aA,aB]<;>omega|decide) only [bK,aY,aS,aT,aQ,aU,aO,upd_ne,aP,aW,result1]
 exact hK' _ rfl _ (hk1.trans hkg)
end Go.Proofs.Po
