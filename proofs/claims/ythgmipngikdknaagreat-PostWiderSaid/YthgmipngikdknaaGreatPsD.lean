import Derived.Test.YthgmipngikdknaaGreatPrC
import Derived.Test.YthgmipngikdknaaGreatPhA
import Derived.Test.YthgmipngikdknaaGreatPoT
import Derived.Test.YthgmipngikdknaaGreatPsB
import Derived.Test.YthgmipngikdknaaGreatPtA
import Derived.Test.YthgmipngikdknaaGreatPfA
/- PostCertain. -/
namespace Go.Proofs.Po
open Go Go.Ev Go.RowKit
set_option linter.unusedSimpArgs false
variable {pr:Prim} {R:ExT}
theorem aw_storeC {P:Program} {call:CallT} {t:T Value} {h h':AHeap} {x y:Operand} {a ty:TypeId} {pos:String} {af:Array Edge} {g:Option (Nat × Bool)} {dst:Option Tmp} {B s off:Nat} {l:List Value} (hx:ev P t x = .pointer (some ⟨B,off,none⟩)) (hy:ev P t y = .agg ⟨l⟩) (hs:bH P a = some s) (hls:l.length = s)
  (hst:∀ K:AHeap → Bool,gY h B off l K = K h') (K:KV):bI P call t h ⟨dst,.store a x y,ty,pos,af,g⟩ K = K undef h':=by
 have h2:(okV (.agg ⟨l⟩) && Nat.beq (Value.cells (.agg ⟨l⟩)).size s) = true:=by
  rw [show (Value.cells (.agg ⟨l⟩)).size = l.length from rfl,hls,Nat.beq_refl]; rfl
 have hc:(Value.cells (.agg ⟨l⟩)).toList = l:=(rfl)
 simp only [bI,mW,hx,hy,hs,h2,cond_true,hc,hst]
/-! ## Orders of which the minutes are known -/
theorem bA1c (p:Option Addr) (n c:Nat):fG Tryz.prog 24 [(0,.slice p n c)] = some (.agg ⟨poV (.slice p n c)⟩):=by kernel_rfl
theorem brRc (a b:Int):fG Tryz.prog 45 [(0,iv a),(1,iv b)] = some (.agg ⟨c2 (a,b)⟩):=by kernel_rfl
end Go.Proofs.Po

/- Some of the sales; a truth explains them. -/
namespace Go.Ev
open Go.RowKit
section
variable {P:Program} {t:T Value} {h:AHeap} {dst:Option Tmp} {ty a b:TypeId} {pos:String} {af:Array Edge} {g:Option (Nat × Bool)} {x y:Operand} {i j:Int}
end
end Go.Ev
namespace Go.Proofs.Po
open Go Go.Ev Go.RowKit
set_option linter.unusedSimpArgs false
variable {pr:Prim} {R:ExT}
theorem wf_u8 {n:Int} (h:(Lit.int .u8 n).wf = true):0 ≤ n ∧ n ≤ 255:=by
 simp only [Lit.wf,Bool.and_eq_true,decide_eq_true_eq] at h; exact h
/-! ## A truth that plays so explains them -/
theorem can_some {O:List Od} {L:List Sa} (h:∃ t,t ∈ dW O ∧ expZ O L t = true):canZ O L = true:=List.any_eq_true.2 h
theorem look_0 {O:List Od} (hv:Val O) {L:List Sa} (hL:L.length ≤ 6):rQ O L = 0:=by
 unfold rQ
 rw [decide_eq_true (nM.2 hv),cond_true,decide_eq_true (by omega:(L.length:Int) ≤ 6),cond_true]
/-! ## Bounds -/
theorem fmin_le:∀ (l:List Int) (a:Int),l.foldl min2 a ≤ a ∧ ∀ x,x ∈ l → l.foldl min2 a ≤ x
 | [],a=>⟨Int.le_refl _,fun _ h=>by cases h⟩
 | y :: l,a=>by
  obtain ⟨i1,i2⟩:=fmin_le l (min2 a y)
  have h1:min2 a y ≤ a ∧ min2 a y ≤ y:=by unfold min2; split<;>omega
  rw [List.foldl_cons]
  refine ⟨by omega,fun x hx=>?_⟩
  rcases List.mem_cons.1 hx with rfl|hx
  ·omega
  ·exact i2 x hx
theorem fmax_ge:∀ (l:List Int) (a:Int),a ≤ l.foldl max2 a ∧ ∀ x,x ∈ l → x ≤ l.foldl max2 a
 | [],a=>⟨Int.le_refl _,fun _ h=>by cases h⟩
 | y :: l,a=>by
  obtain ⟨i1,i2⟩:=fmax_ge l (max2 a y)
  have h1:a ≤ max2 a y ∧ y ≤ max2 a y:=by unfold max2; split<;>omega
  rw [List.foldl_cons]
  refine ⟨by omega,fun x hx=>?_⟩
  rcases List.mem_cons.1 hx with rfl|hx
  ·omega
  ·exact i2 x hx
theorem minL_le {l:List Int} {x:Int} (h:x ∈ l):minL l ≤ x:=by
 cases l with
 | nil=>cases h
 | cons a l =>
  have:=fmin_le l a
  show l.foldl min2 a ≤ x
  rcases List.mem_cons.1 h with rfl|h
  ·exact this.1
  ·exact this.2 x h
theorem maxL_ge {l:List Int} {x:Int} (h:x ∈ l):x ≤ maxL l:=by
 cases l with
 | nil=>cases h
 | cons a l =>
  have:=fmax_ge l a
  show x ≤ l.foldl max2 a
  rcases List.mem_cons.1 h with rfl|h
  ·exact this.1
  ·exact this.2 x h
theorem bd_in {O:List Od} (hv:Val O) (q:Sa → Int) (j:Nat) {t0:List Int} (h0:lV O t0 = true):(bdQ q O j).1 ≤ fqZ q (j:Int) (dI O t0).2 ∧ fqZ q (j:Int) (dI O t0).2 ≤ (bdQ q O j).2:=by
 obtain ⟨t,ht,hp⟩:=(kY hv).2 _ h0
 have hm:fqZ q (j:Int) (dI O t0).2 ∈ o6 q O j (dW O).length:=by
  unfold o6
  rw [List.take_of_length_le (Nat.le_refl _)]
  exact List.mem_map.2 ⟨t,ht,by rw [hp]⟩
 exact ⟨minL_le hm,maxL_ge hm⟩
end Go.Proofs.Po

/- PostTruth. -/
namespace Go.Proofs.Po
open Go Go.Ev Go.RowKit
set_option linter.unusedSimpArgs false
variable {pr:Prim} {R:ExT}
end Go.Proofs.Po

/- Orders whose minutes are wider: what a post plays, its bounds, its sure orders, what must be left (nothing of the program in it). -/
namespace Go.Proofs.Po
open Go Go.Ev Go.RowKit
set_option linter.unusedSimpArgs false
/-- The same orders, but for their minutes. -/
structure SameO (O X:List Od):Prop where
 len:X.length = O.length
 b:∀ j,(od X j).b = (od O j).b
 l:∀ j,(od X j).l = (od O j).l
 n:∀ j,(od X j).n = (od O j).n
theorem play_same {O X:List Od} (h:SameO O X) (t:List Int):dI X t = dI O t:=by
 have hat:∀ j p,oM (od X j) p = oM (od O j) p:=fun j p=>by unfold oM; rw [h.b,h.l]
 have hop:∀ a r,oppB (od X a) (od X r) = oppB (od O a) (od O r):=fun a r=>by unfold oppB; rw [h.b,h.b,h.l,hat]
 have hcan:qE X = qE O:=by funext lf a r; unfold qE; rw [hop]
 have hbet:betB X = betB O:=by funext r b; unfold betB; rw [h.l,hat]
 have hacc:accB X = accB O:=by
  funext r o
  cases o with
  | none=>rfl
  | some b=>show betB X r b = betB O r b; rw [hbet]
 have hst:stepP X = stepP O:=by funext lf a r acc; unfold stepP; rw [hcan,hacc]
 have hpk:∀ (lf:List Int) (a:Nat) (l:List Nat) (acc:Option Nat),fZ X lf a l acc = fZ O lf a l acc:=by
  intro lf a l
  induction l with
  | nil=>intro acc; rfl
  | cons r l ih=>intro acc; unfold fZ; rw [hst]; exact ih _
 have hbs:bsZ X = bsZ O:=by funext a r; unfold bsZ; rw [h.b]
 have hsa:iM X = iM O:=by funext lf a r; unfold iM; rw [hbs,h.l]
 have hdr:jO X = jO O:=by funext lf a r; unfold jO; rw [hbs]
 have hco:∀ (came:List Nat) (a f:Nat) (st:ST),iO X came a f st = iO O came a f st:=by
  intro came a f
  induction f with
  | zero=>intro st; rfl
  | succ f ih =>
   intro st
   unfold iO
   rw [hpk]
   cases fZ O st.1 a came none with
   | none=>rfl
   | some r=>rw [hdr,hsa]; exact ih _
 have hru:∀ (l came:List Nat) (st:ST),runZ X l came st = runZ O l came st:=by
  intro l
  induction l with
  | nil=>intro came st; rfl
  | cons a l ih=>intro came st; unfold runZ; rw [hco]; exact ih _ _
 have hle:iP X X.length = iP O O.length:=by
  unfold iP
  rw [h.len]
  congr 1
  funext j
  rw [h.n]
 unfold dI
 rw [hru,hle]
/-- Wider minutes. -/
structure WiderO (O X:List Od):Prop where
 same:SameO O X
 lo:∀ j,(od X j).lo ≤ (od O j).lo
 hi:∀ j,(od O j).hi ≤ (od X j).hi
theorem od_at {O:List Od} {j:Nat} (h:j < O.length):O[j] = od O j:=by
 have:=jB h
 rw [List.getElem?_eq_getElem h] at this
 exact Option.some.inj this
theorem uA {O X:List Od} (w:WiderO O X) {t:List Int} (h:lV O t = true):lV X t = true:=by
 obtain ⟨h1,h2⟩:=nU.1 h
 refine nU.2 ⟨by rw [w.same.len,h1],fun i a b=>?_⟩
 have hi:i < O.length:=by rw [← w.same.len]; exact a
 have:=h2 i hi b
 rw [od_at hi] at this
 rw [od_at a]
 have:=w.lo i
 have:=w.hi i
 omega
theorem fmin_mem:∀ (l:List Int) (a:Int),l.foldl min2 a = a ∨ l.foldl min2 a ∈ l
 | [],a=>.inl rfl
 | y :: l,a=>by
  rw [List.foldl_cons]
  have h1:min2 a y = a ∨ min2 a y = y:=by unfold min2; split<;>simp
  rcases fmin_mem l (min2 a y) with h|h
  ·rw [h]
   rcases h1 with h1|h1
   ·exact .inl h1
   ·exact .inr (by simp [h1])
  ·exact .inr (by simp [h])
theorem fmax_mem:∀ (l:List Int) (a:Int),l.foldl max2 a = a ∨ l.foldl max2 a ∈ l
 | [],a=>.inl rfl
 | y :: l,a=>by
  rw [List.foldl_cons]
  have h1:max2 a y = a ∨ max2 a y = y:=by unfold max2; split<;>simp
  rcases fmax_mem l (max2 a y) with h|h
  ·rw [h]
   rcases h1 with h1|h1
   ·exact .inl h1
   ·exact .inr (by simp [h1])
  ·exact .inr (by simp [h])
theorem minL_mem {l:List Int} (h:l ≠ []):minL l ∈ l:=by
 cases l with
 | nil=>exact absurd rfl h
 | cons a l =>
  show l.foldl min2 a ∈ a :: l
  rcases fmin_mem l a with e|e
  ·rw [e]; simp
  ·simp [e]
theorem maxL_mem {l:List Int} (h:l ≠ []):maxL l ∈ l:=by
 cases l with
 | nil=>exact absurd rfl h
 | cons a l =>
  show l.foldl max2 a ∈ a :: l
  rcases fmax_mem l a with e|e
  ·rw [e]; simp
  ·simp [e]
theorem lst_mem {O:List Od} {q:Sa → Int} {j:Nat} {x:Int} (h:x ∈ o6 q O j (dW O).length):∃ t,t ∈ dW O ∧ fqZ q (j:Int) (dI O t).2 = x:=by
 unfold o6 at h
 rw [List.take_of_length_le (Nat.le_refl _)] at h
 exact List.mem_map.1 h
theorem lst_ne {O:List Od} (hv:Val O) (q:Sa → Int) (j:Nat):o6 q O j (dW O).length ≠ []:=by
 unfold o6
 rw [List.take_of_length_le (Nat.le_refl _)]
 intro e
 exact all_ne hv (List.map_eq_nil_iff.1 e)
/-- The bounds are what some truth asks. -/
theorem bd_lo {O:List Od} (hv:Val O) (q:Sa → Int) (j:Nat):∃ t,t ∈ dW O ∧ fqZ q (j:Int) (dI O t).2 = (bdQ q O j).1:=lst_mem (minL_mem (lst_ne hv q j))
theorem bd_hi {O:List Od} (hv:Val O) (q:Sa → Int) (j:Nat):∃ t,t ∈ dW O ∧ fqZ q (j:Int) (dI O t).2 = (bdQ q O j).2:=lst_mem (maxL_mem (lst_ne hv q j))
theorem bd_wider {O X:List Od} (hv:Val O) (hx:Val X) (w:WiderO O X) (q:Sa → Int) (j:Nat):(bdQ q X j).1 ≤ (bdQ q O j).1 ∧ (bdQ q O j).2 ≤ (bdQ q X j).2:=by
 obtain ⟨t,t1,t2⟩:=bd_lo hv q j
 obtain ⟨u,u1,u2⟩:=bd_hi hv q j
 have a:=bd_in hx q j (uA w ((kY hv).1 t t1))
 have b:=bd_in hx q j (uA w ((kY hv).1 u u1))
 rw [play_same w.same,t2] at a
 rw [play_same w.same,u2] at b
 exact ⟨a.1,b.2⟩
theorem bd_num {O:List Od} (hv:Val O) {j:Nat} (hj:j < O.length):(bdQ qN O j).1 ≤ (od O j).n:=by
 obtain ⟨t,t1,t2⟩:=bd_lo hv qN j
 have k:=sq_play hv (tru_of hv ((kY hv).1 t t1))
 have f:=k.fil j hj
 rw [← t2,show fqZ qN (j:Int) (dI O t).2 = fnZ (j:Int) (dI O t).2 from fqZ_n _ _,f]
 have:=(k.ok.b j).1
 omega
/-- No order is surely filled at wider minutes that is not so at narrower ones. -/
theorem sure_wider {O X:List Od} (hv:Val O) (hx:Val X) (w:WiderO O X):(xY X).length ≤ (xY O).length:=by
 have key:∀ (n i:Nat),i + n = O.length → (xX X (X.drop i) i).length ≤ (xX O (O.drop i) i).length:=by
  intro n
  induction n with
  | zero =>
   intro i hi
   rw [List.drop_of_length_le (by rw [w.same.len]; omega)]
   exact Nat.zero_le _
  | succ n ih =>
   intro i hi
   have h1:i < O.length:=by omega
   have h2:i < X.length:=by rw [w.same.len]; exact h1
   rw [List.drop_eq_getElem_cons h1,List.drop_eq_getElem_cons h2,od_at h1,od_at h2]
   have:=ih (i + 1) (by omega)
   simp only [xX]
   have hn:=w.same.n i
   have hb:=bd_wider hv hx w qN i
   have hm:=bd_num hv h1
   cases e1:decide ((bdQ qN X i).1 = (od X i).n) with
   | true =>
    have e3:=of_decide_eq_true e1
    rw [decide_eq_true (by omega:(bdQ qN O i).1 = (od O i).n),cond_true,cond_true,List.length_cons,List.length_cons]
    omega
   | false =>
    rw [cond_false]
    cases decide ((bdQ qN O i).1 = (od O i).n) with
    | true=>rw [cond_true,List.length_cons]; omega
    | false=>rw [cond_false]; omega
 exact key O.length 0 (by omega)
theorem can_wider {O X:List Od} (hv:Val O) (hx:Val X) (w:WiderO O X) {L:List Sa} (h:canZ O L = true):canZ X L = true:=by
 obtain ⟨t,t1,t2⟩:=List.any_eq_true.1 h
 obtain ⟨u,u1,u2⟩:=(kY hx).2 _ (uA w ((kY hv).1 t t1))
 refine List.any_eq_true.2 ⟨u,u1,?_⟩
 unfold expZ at t2 ⊢
 rw [u2,play_same w.same]
 exact t2
/-! ## What must be left -/
theorem smF_len {e:Nat}:∀ (n i:Nat) (x:List Int),x ∈ smF e n i → i ≤ x.length
 | 0,_,_,h=>by cases h
 | n + 1,i,x,h=>by
  rcases List.mem_append.1 h with h|h
  ·rw [vF i 0 x h]; exact Nat.le_refl _
  ·have:=smF_len n (i + 1) x h; omega
theorem smF_pw {e:Nat}:∀ (n i:Nat),(smF e n i).Pairwise fun a b=>a.length ≤ b.length
 | 0,_=>List.Pairwise.nil
 | n + 1,i=>by
  refine List.pairwise_append.2 ⟨?_,smF_pw n (i + 1),fun a ha b hb=>?_⟩
  ·refine List.pairwise_iff_forall_sublist.2 fun {a b} hs=>?_
   have ha:a ∈ chZ e i 0:=hs.subset (by simp)
   have hb:b ∈ chZ e i 0:=hs.subset (by simp)
   rw [vF i 0 a ha,vF i 0 b hb]; exact Nat.le_refl _
  ·rw [vF i 0 a ha]
   have:=smF_len n (i + 1) b hb; omega
theorem find_mono {l:List (List Int)} {p p':List Int → Bool} (hpp:∀ y,p y = true → p' y = true):l.Pairwise (fun a b=>a.length ≤ b.length) → ∀ {x:List Int},l.find? p = some x → ∃ x',l.find? p' = some x' ∧ x'.length ≤ x.length:=by
 induction l with
 | nil=>intro _ x h; cases h
 | cons a l ih =>
  intro hp x h
  obtain ⟨h1,h2⟩:=List.pairwise_cons.1 hp
  rw [List.find?_cons] at h ⊢
  cases e':p' a with
  | true =>
   refine ⟨a,rfl,?_⟩
   cases e:p a with
   | true=>rw [e] at h; cases h; exact Nat.le_refl _
   | false=>rw [e] at h; exact h1 x (List.mem_of_find?_eq_some h)
  | false =>
   have e:p a = false:=by
    cases e:p a with
    | true=>rw [hpp a e] at e'; cases e'
    | false=>rfl
   rw [e] at h
   exact ih h2 h
theorem chZ_full {e:Nat}:∀ (n f:Nat),f + n ≤ e → ((List.range' f n).map fun j:Nat=>(j:Int)) ∈ chZ e n f
 | 0,f,_=>by unfold chZ; simp
 | n + 1,f,h=>by
  unfold chZ
  refine List.mem_flatMap.2 ⟨f,List.mem_range'_1.2 ⟨Nat.le_refl _,by omega⟩,?_⟩
  rw [List.range'_succ,List.map_cons]
  exact List.mem_map.2 ⟨_,chZ_full n (f + 1) (by omega),rfl⟩
theorem othG_all {α:Type} {p:Nat → Bool}:∀ (l:List α) (i:Nat),(∀ j,i ≤ j → j < i + l.length → p j = true) → kP p l i = []
 | [],_,_=>rfl
 | x :: l,i,h=>by
  unfold kP
  rw [h i (Nat.le_refl _) (by rw [List.length_cons]; omega),cond_true]
  exact othG_all l (i + 1) fun j h1 h2=>h j (by omega) (by rw [List.length_cons]; omega)
theorem smF_mem {e:Nat} {x:List Int}:∀ (n i k:Nat),i ≤ k → k < i + n → x ∈ chZ e k 0 → x ∈ smF e n i
 | 0,i,k,h1,h2,_=>by omega
 | n + 1,i,k,h1,h2,h=>by
  by_cases e0:i = k
  ·subst e0; exact List.mem_append.2 (.inl h)
  ·exact List.mem_append.2 (.inr (smF_mem n (i + 1) k (by omega) (by omega) h))
/-- Something can always be left. -/
theorem leave_ex {O:List Od} (hv:Val O) (L:List Sa):∃ x,(smZ L.length L.length).find? (lvQ O L) = some x:=by
 cases hf:(smZ L.length L.length).find? (lvQ O L) with
 | some x=>exact ⟨x,rfl⟩
 | none =>
  exfalso
  have hm:((List.range' 0 L.length).map fun j:Nat=>(j:Int)) ∈ smZ L.length L.length:=smF_mem _ 0 L.length (Nat.zero_le _) (by omega) (chZ_full _ 0 (by omega))
  refine List.find?_eq_none.1 hf _ hm ?_
  unfold lvQ lvO
  rw [othG_all L 0 fun j h1 h2=>by
   unfold kZ hasI
   refine List.any_eq_true.2 ⟨(j:Int),List.mem_map.2 ⟨j,List.mem_range'_1.2 ⟨h1,h2⟩,rfl⟩,decide_eq_true (by omega)⟩]
  obtain ⟨t,ht⟩:=List.exists_mem_of_ne_nil _ (all_ne hv)
  exact can_some ⟨t,ht,rfl⟩
theorem leave_wider {O X:List Od} (hv:Val O) (hx:Val X) (w:WiderO O X) (L:List Sa):∃ x y,(smZ L.length L.length).find? (lvQ O L) = some x ∧ (smZ L.length L.length).find? (lvQ X L) = some y ∧ y.length ≤ x.length:=by
 obtain ⟨x,h⟩:=leave_ex hv L
 obtain ⟨y,h1,h2⟩:=find_mono (p':=lvQ X L) (fun y hy=>can_wider hv hx w hy) (smF_pw _ _) h
 exact ⟨x,y,h,h1,h2⟩
end Go.Proofs.Po

/- PostWider: the post with one order's minutes wider. -/
namespace Go.Ev
open Go.RowKit
variable {P:Program} {t t':T Value}
theorem xZ {b:Builtin} {j:Nat} {c0 v r:Value} {a c:TypeId} {dst:Option Tmp} {ty:TypeId} {pos:String} {af:Array Edge} {g:Option (Nat × Bool)} (h2:tget t j = v) (h4:tget t' j = v)
  (hr:ground P t' ⟨dst,.call ⟨.builtin b,#[.const c0,.tmp j],#[a,c]⟩,ty,pos,af,g⟩ = some r):ground P t ⟨dst,.call ⟨.builtin b,#[.const c0,.tmp j],#[a,c]⟩,ty,pos,af,g⟩ = some r:=by
 rw [← hr]
 refine qX (fun cs b e=>by cases e) fun x hx=>?_
 simp only [Op.operands,Call.operands] at hx
 have:x = .const c0 ∨ x = .tmp j:=by simpa using hx
 rcases this with rfl|rfl
 ·simp only [ev]
 ·simp only [ev,h2,h4]
end Go.Ev
namespace Go.Proofs.Po
open Go Go.Ev Go.RowKit
set_option linter.unusedSimpArgs false
variable {pr:Prim} {R:ExT}
def wdO (x:Od) (lo hi:Int):Od:=⟨x.b,x.l,x.n,lo,hi⟩
theorem rows_wd {l:List Od} {i:Nat} {x:Od} {p:I2} (hi:l[i]? = some x):((l.map cOd).flatten.take (i * 5 + 3) ++ c2 p ++ (l.map cOd).flatten.drop (i * 5 + 3 + (c2 p).length)) = ((l.set i (wdO x p.1 p.2)).map cOd).flatten:=by
 obtain ⟨hlt,he⟩:=List.getElem?_eq_some_iff.1 hi
 rw [← uV (cv:=cOd) (n:=5) xM l i (wdO x p.1 p.2) hlt]
 have hm:(l.map cOd)[i]? = some (cOd x):=by rw [List.getElem?_map,hi]; rfl
 have hsz:∀ c,c ∈ l.map cOd → c.length = 5:=fun c hc=>by obtain ⟨z,_,rfl⟩:=List.mem_map.1 hc; rfl
 obtain ⟨q1,_⟩:=flat_part hsz hm
 have e3:((l.map cOd).flatten.drop (i * 5)).take 3 = [.bool x.b,iv x.l,iv x.n]:=by
  have:((l.map cOd).flatten.drop (i * 5)).take 3 = (((l.map cOd).flatten.drop (i * 5)).take 5).take 3:=by rw [List.take_take]; rfl
  rw [this,q1]; rfl
 rw [List.take_add,e3]
 show (l.map cOd).flatten.take (i * 5) ++ [.bool x.b,iv x.l,iv x.n] ++ [iv p.1,iv p.2] ++ (l.map cOd).flatten.drop (i * 5 + 3 + 2) = (l.map cOd).flatten.take (i * 5) ++ [.bool x.b,iv x.l,iv x.n,iv p.1,iv p.2] ++ (l.map cOd).flatten.drop (i * 5 + 5)
 rw [Nat.add_assoc,List.append_assoc ((l.map cOd).flatten.take (i * 5))]
 rfl
theorem od_set {O:List Od} {k:Nat} {y:Od} (hk:k < O.length) (j:Nat):od (O.set k y) j = if j = k then y else od O j:=by
 unfold od
 rw [List.getD_eq_getElem?_getD,List.getD_eq_getElem?_getD,List.getElem?_set]
 by_cases e:k = j
 ·subst e; rw [if_pos rfl,if_pos hk,if_pos rfl]; rfl
 ·rw [if_neg e,if_neg (fun q=>e q.symm)]
theorem wd_wider {O:List Od} (hv:Val O) {k:Nat} {x:Od} (hx:O[k]? = some x) {lo hi:Int} (h0:0 ≤ lo) (h1:lo ≤ x.lo) (h2:x.hi ≤ hi) (h3:hi ≤ 30):Val (O.set k (wdO x lo hi)) ∧ WiderO O (O.set k (wdO x lo hi)):=by
 have hk:=(List.getElem?_eq_some_iff.1 hx).1
 have hox:od O k = x:=by have:=jB hk; rw [hx] at this; exact (Option.some.inj this).symm
 have key:=fun j=>od_set (y:=wdO x lo hi) hk j
 have ok:=hv.ok x (List.mem_of_getElem? hx)
 have:=ok.m1
 refine ⟨⟨by rw [List.length_set]; exact hv.l1,by rw [List.length_set]; exact hv.l6,fun y hy=>?_⟩,⟨⟨List.length_set,fun j=>?_,fun j=>?_,fun j=>?_⟩,fun j=>?_,fun j=>?_⟩⟩
 ·rcases List.mem_or_eq_of_mem_set hy with h|rfl
  ·exact hv.ok y h
  ·exact ⟨ok.l1,ok.l2,ok.n1,ok.n2,h0,by show lo ≤ hi; omega,h3⟩
 all_goals
  rw [key]
  split
  ·rename_i e
   subst e
   rw [hox]
   first|rfl|exact h1|exact h2
  ·first|rfl|exact Int.le_refl _
structure ICw (n:Nat) (G:AHeap) (fv mv gv nv:Value) (i:Nat) (t:T Value) (h:AHeap):Prop where
 hh:h = G
 t11:tget t 11 = fv
 t12:tget t 12 = mv
 t14:tget t 14 = gv
 t15:tget t 15 = nv
 t25:tget t 25 = iv (i:Int)
 hi:i ≤ n
end Go.Proofs.Po
