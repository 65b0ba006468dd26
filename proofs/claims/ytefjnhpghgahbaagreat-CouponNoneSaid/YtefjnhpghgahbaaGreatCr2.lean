import Derived.Test.YtefjnhpghgahbaaGreatCr1
/- A truth by the program is one by the reference: between the days of registration splits alone change the units. -/
namespace Go.Proofs.Cp
open Go Go.Ev

theorem regG_rg (cl:List R2) (d:Int):∀ (n:Nat) (k:Int),regG cl d n k = -1 ∨ (k ≤ regG cl d n k ∧ regG cl d n k < k + n ∧ d ≤ regG cl d n k)
 | 0,k=>.inl rfl
 | n + 1,k=>by
  unfold regG
  cases h:(decide (d ≤ k) && openB cl k) with
  | true =>
   rw [Bool.and_eq_true,decide_eq_true_eq] at h
   simp only [cond_true]
   exact .inr ⟨Int.le_refl _,by omega,h.1⟩
  | false =>
   simp only [cond_false]
   rcases regG_rg cl d n (k + 1) with h1|⟨h1,h2,h3⟩
   ·exact .inl h1
   ·exact .inr ⟨by omega,by omega,h3⟩
theorem regP_rg (cl:List R2) (d:Int):regP cl d = -1 ∨ (0 ≤ regP cl d ∧ d ≤ regP cl d ∧ regP cl d ≤ 11):=by
 rcases regG_rg cl d 12 0 with h|⟨h1,h2,h3⟩
 ·exact .inl h
 ·exact .inr ⟨h1,h3,by unfold regP; omega⟩
theorem addA_get {l:List Int} {i:Nat} (hi:i < l.length) (u:Int) (j:Nat):(addA l i u).getD j 0 = l.getD j 0 + (if i = j then u else 0):=by
 unfold addA
 rw [List.getD_eq_getElem?_getD,List.getElem?_set]
 by_cases h:i = j
 ·subst h
  rw [if_pos rfl,if_pos hi,if_pos rfl]; rfl
 ·rw [if_neg h,if_neg h,Int.add_zero,List.getD_eq_getElem?_getD]
theorem aftL_get {l:List Int} (hl:l.length = 4) {hs:Int} {x:Tr} (hx:Tok hs x) (h4:hs ≤ 4) (u:Int) (i:Nat):(aftL l x u).getD i 0 = (l.getD i 0 + (if x.bu = (i:Int) then u else 0)) - (if x.se = (i:Int) then u else 0):=by
 have:=hx.s0
 have:=hx.s1
 have:=hx.b0
 have:=hx.b1
 unfold aftL
 rw [addA_get (by rw [addA_len]; omega),addA_get (by omega)]
 have e1:(x.se.toNat = i) = (x.se = (i:Int)):=propext ⟨fun h=>by omega,fun h=>by omega⟩
 have e2:(x.bu.toNat = i) = (x.bu = (i:Int)):=propext ⟨fun h=>by omega,fun h=>by omega⟩
 simp only [e1,e2]
 split <;> split <;> omega
theorem by_eq (cl:List R2) (day s d:Int):byQ day (s,regP cl d) = inB (regP cl d) 0 day:=by
 rw [Bool.eq_iff_iff,inB_iff]
 unfold byQ
 rw [Bool.and_eq_true,Bool.not_eq_true',decide_eq_false_iff_not,decide_eq_true_eq]
 have:=regP_rg cl d
 show (¬ regP cl d = -1 ∧ regP cl d ≤ day) ↔ _
 omega
theorem holdG_get {c:Co} (hv:Val c) (day:Int) (i:Nat):∀ (tr:List Tr) (a b l:List Int),(∀ x,x ∈ tr → Tok c.hs x) → l.length = 4 → (holdG c day (byQ day) tr (datesL c a b) l).getD i 0 = heldG c day i tr a b (l.getD i 0)
 | [],_,_,_,_,_=>by rw [holdG_nil,heldG_nil]
 | x :: r,[],b,l,_,_=>by
  unfold datesL holdG heldG; rfl
 | x :: r,s :: a,[],l,_,_=>by
  unfold datesL holdG heldG; rfl
 | x :: r,s :: a,d :: b,l,ht,hl=>by
  show (holdG c day (byQ day) r (datesL c a b) (bif byQ day (s,regP c.cl d) then aftL l x (facU c x.sh s day) else l)).getD i 0 = heldG c day i r a b (addT c day i x s d (l.getD i 0))
  rw [by_eq]
  unfold addT
  cases inB (regP c.cl d) 0 day with
  | true =>
   simp only [cond_true]
   rw [holdG_get hv day i r a b _ (fun y hy=>ht y (by simp [hy])) (by rw [aftL_len]; exact hl),aftL_get hl (ht x (by simp)) hv.h4,units_eq hv]
  | false =>
   simp only [cond_false]
   exact holdG_get hv day i r a b _ (fun y hy=>ht y (by simp [hy])) hl
theorem hold0_get (c:Co) (day:Int) (i:Nat):∀ k,k ≤ 4 → (hold0 c day k).getD i 0 = if i < k then facU c (c.held.getD i 0) (-1) day else 0
 | 0,_=>by
  rw [if_neg (Nat.not_lt_zero _)]
  show [0,0,0,0].getD i 0 = (0:Int)
  match i with
  | 0|1|2|3|n + 4=>rfl
 | k + 1,hk=>by
  rw [hold0,List.getD_eq_getElem?_getD,List.getElem?_set]
  by_cases h:k = i
  ·subst h
   rw [if_pos rfl,if_pos (by rw [hold0_len]; omega),if_pos (by omega)]; rfl
  ·rw [if_neg h,← List.getD_eq_getElem?_getD,hold0_get c day i k (by omega)]
   by_cases h2:i < k
   ·rw [if_pos h2,if_pos (by omega)]
   ·rw [if_neg h2,if_neg (by omega)]
theorem heldG_off {c:Co} (day:Int) {i:Nat} (hi:c.hs ≤ i):∀ (tr:List Tr) (a b:List Int) (n:Int),(∀ x,x ∈ tr → Tok c.hs x) → heldG c day i tr a b n = n
 | [],_,_,_,_=>heldG_nil _ _ _ _ _ _
 | x :: r,[],b,n,_=>by unfold heldG; rfl
 | x :: r,s :: a,[],n,_=>by unfold heldG; rfl
 | x :: r,s :: a,d :: b,n,ht=>by
  rw [heldG,heldG_off day hi r a b _ (fun y hy=>ht y (by simp [hy]))]
  have hx:=ht x (by simp)
  have:=hx.s1
  have:=hx.b1
  unfold addT
  rw [if_neg (by omega:¬ x.bu = (i:Int)),if_neg (by omega:¬ x.se = (i:Int)),Int.add_zero,Int.sub_zero]
  cases inB (regP c.cl d) 0 day <;> rfl
def endH (c:Co) (a b:List Int) (k:Int) (i:Nat):Int:=heldG c k i c.tr a b (facU c (c.held.getD i 0) (-1) k)
theorem facU_zero (c:Co) (a b:Int):facU c 0 a b = 0:=by
 unfold facU
 rw [Int.zero_mul,Int.zero_mul,Int.zero_tdiv]
theorem getD_off {l:List Int} {i:Nat} (h:¬ i < l.length):l.getD i 0 = 0:=by
 rw [List.getD_eq_getElem?_getD,List.getElem?_eq_none (by omega)]; rfl
theorem toks {c:Co} (hv:Val c):∀ x,x ∈ c.tr → Tok c.hs x:=fun x hx=>Tok.of (hv.tok x hx)
theorem hold_end {c:Co} (hv:Val c) (a b:List Int) (day:Int) (i:Nat):(holdP c (datesL c a b) day (byQ day)).getD i 0 = endH c a b day i:=by
 unfold holdP endH
 have hl:=hv.held
 have h4:=hv.h4
 rw [holdG_get hv day i c.tr a b _ (toks hv) (hold0_len _ _ _),hold0_get c day i _ (by omega)]
 by_cases h:i < c.held.length
 ·rw [if_pos h]
 ·rw [if_neg h,getD_off h,facU_zero]
theorem held_end {c:Co} (hv:Val c) (a b:List Int) (day:Int) (i:Nat):(heldL c a b day).getD i 0 = endH c a b day i:=by
 have hl:=hv.held
 rw [List.getD_eq_getElem?_getD]
 unfold heldL
 rw [heldFrom_get,Nat.zero_add]
 unfold endH
 by_cases h:i < c.held.length
 ·rw [List.getElem?_eq_getElem h,List.getD_eq_getElem?_getD,List.getElem?_eq_getElem h]
  show heldH c a b day i c.held[i] = _
  unfold heldH
  rw [units_eq hv]; rfl
 ·rw [List.getElem?_eq_none (by omega),getD_off h,facU_zero,heldG_off day (by omega) _ _ _ _ (toks hv)]; rfl
theorem posL_iff {l:List Int}:posL l = true ↔ ∀ i,0 ≤ l.getD i 0:=by
 unfold posL
 rw [List.all_eq_true]
 constructor
 ·intro h i
  rw [List.getD_eq_getElem?_getD]
  cases e:l[i]? with
  | none=>exact Int.le_refl _
  | some y =>
   have:=h y (List.mem_of_getElem? e)
   rw [Bool.not_eq_true',decide_eq_false_iff_not] at this
   show 0 ≤ y
   omega
 ·intro h x hx
  obtain ⟨i,hi⟩:=List.getElem?_of_mem hx
  have:=h i
  rw [List.getD_eq_getElem?_getD,hi] at this
  rw [Bool.not_eq_true',decide_eq_false_iff_not]
  have h2:0 ≤ x:=this
  omega
theorem pos_hold {c:Co} (hv:Val c) (a b:List Int) (day:Int):posL (holdP c (datesL c a b) day (byQ day)) = true ↔ ∀ i,0 ≤ endH c a b day i:=by
 rw [posL_iff]
 exact ⟨fun h i=>by rw [← hold_end hv]; exact h i,fun h i=>by rw [hold_end hv]; exact h i⟩
theorem pos_held {c:Co} (hv:Val c) (a b:List Int) (day:Int):posL (heldL c a b day) = true ↔ ∀ i,0 ≤ endH c a b day i:=by
 rw [posL_iff]
 exact ⟨fun h i=>by rw [← held_end hv]; exact h i,fun h i=>by rw [held_end hv]; exact h i⟩
theorem nn_of {X Y D N:Int} (h:X * D = Y * N) (hD:1 ≤ D) (hN:1 ≤ N) (hY:0 ≤ Y):0 ≤ X:=by
 by_cases hx:0 ≤ X
 ·exact hx
 ·have h1:X * D ≤ -1 * D:=Int.mul_le_mul_of_nonneg_right (by omega) (by omega)
  have h2:0 ≤ Y * N:=Int.mul_nonneg hY (by omega)
  omega
theorem held_step {c:Co} (hv:Val c) (k:Int) (i:Nat):∀ (tr:List Tr) (a b:List Int) (n n':Int),(∀ x,x ∈ tr → Tok c.hs x) → datG tr a b = true → (∀ d,d ∈ b → regP c.cl d ≠ k + 1) →
  n' * (overP c.sp k (k + 1)).2 = n * (overP c.sp k (k + 1)).1 → heldG c (k + 1) i tr a b n' * (overP c.sp k (k + 1)).2 = heldG c k i tr a b n * (overP c.sp k (k + 1)).1
 | [],_,_,_,_,_,_,_,h=>by rw [heldG_nil,heldG_nil]; exact h
 | x :: r,[],b,n,n',_,_,_,h=>by unfold heldG; exact h
 | x :: r,s :: a,[],n,n',_,_,_,h=>by unfold heldG; exact h
 | x :: r,s :: a,d :: b,n,n',ht,hd,hr,h=>by
  rw [datG,Bool.and_eq_true] at hd
  rw [heldG,heldG]
  refine held_step hv k i r a b _ _ (fun y hy=>ht y (by simp [hy])) hd.2 (fun e he=>hr e (by simp [he])) ?_
  have hne:=hr d (by simp)
  have hin:inB (regP c.cl d) 0 (k + 1) = inB (regP c.cl d) 0 k:=by
   rw [Bool.eq_iff_iff,inB_iff,inB_iff]; omega
  unfold addT
  rw [hin,units_eq hv,units_eq hv]
  cases hi:inB (regP c.cl d) 0 k with
  | false=>exact h
  | true =>
   rw [inB_iff] at hi
   have h1:=dat_facts (ht x (by simp)) hd.1
   have h2:=regP_rg c.cl d
   have hx:=facU_step hv x.sh (a:=s) (k:=k) (by omega)
   simp only [cond_true]
   split <;> split <;> simp only [Int.sub_mul,Int.add_mul,Int.zero_mul,h,hx]
theorem heldG_first {c:Co} (i:Int):∀ (tr:List Tr) (a b:List Int) (n:Int),heldG c (-1) i tr a b n = n
 | [],_,_,_=>heldG_nil _ _ _ _ _ _
 | x :: r,[],b,n=>by unfold heldG; rfl
 | x :: r,s :: a,[],n=>by unfold heldG; rfl
 | x :: r,s :: a,d :: b,n=>by
  rw [heldG,heldG_first i r a b]
  unfold addT
  have:inB (regP c.cl d) 0 (-1) = false:=by
   cases h:inB (regP c.cl d) 0 (-1) with
   | false=>rfl
   | true=>rw [inB_iff] at h; omega
  rw [this]; rfl
theorem end_first {c:Co} (hv:Val c) (a b:List Int) (i:Nat):0 ≤ endH c a b (-1) i:=by
 unfold endH
 rw [heldG_first,facU_none _ (Int.le_refl _)]
 rw [List.getD_eq_getElem?_getD]
 cases e:c.held[i]? with
 | none=>show 0 ≤ 720 * (0:Int); omega
 | some y =>
  have:=hv.hok y (List.mem_of_getElem? e)
  show 0 ≤ 720 * y
  omega
theorem mem_dates {c:Co}:∀ {a b:List Int} {d:Int},a.length = b.length → d ∈ b → ∃ s,(s,regP c.cl d) ∈ datesL c a b
 | _,[],_,_,h=>by cases h
 | [],_ :: _,_,hl,_=>by simp at hl
 | s :: a,e :: b,d,hl,h=>by
  rcases List.mem_cons.1 h with rfl|h
  ·exact ⟨s,List.mem_cons_self ..⟩
  ·obtain ⟨s',hs⟩:=mem_dates (c:=c) (a:=a) (b:=b) (by simpa using hl) h
   exact ⟨s',List.mem_cons_of_mem _ hs⟩
theorem dates_reg {c:Co}:∀ {a b:List Int} {p:R2},p ∈ datesL c a b → ∃ d,p.2 = regP c.cl d
 | [],_,_,h=>by unfold datesL at h; cases h
 | _ :: _,[],_,h=>by unfold datesL at h; cases h
 | s :: a,e :: b,p,h=>by
  have h':p ∈ (s,regP c.cl e) :: datesL c a b:=h
  rcases List.mem_cons.1 h' with rfl|h2
  ·exact ⟨e,rfl⟩
  ·exact dates_reg h2
theorem truG_iff {c:Co} {a b:List Int}:∀ (n:Nat) (k:Int),truG c a b n k = true ↔ ∀ j,k ≤ j → j < k + n → posL (heldL c a b j) = true
 | 0,k=>⟨fun _ j h1 h2=>by omega,fun _=>rfl⟩
 | n + 1,k=>by
  rw [truG,Bool.and_eq_true,truG_iff n (k + 1)]
  constructor
  ·rintro ⟨h1,h2⟩ j hj hj2
   by_cases h:j = k
   ·subst h; exact h1
   ·exact h2 j (by omega) (by omega)
  ·intro h
   exact ⟨h k (Int.le_refl _) (by omega),fun j h1 h2=>h j (by omega) (by omega)⟩
theorem tru_eq {c:Co} (hv:Val c) {a b:List Int} (hd:datedB c a b = true):truC c (datesL c a b) = truG c a b 12 0:=by
 rw [datedB,Bool.and_eq_true] at hd
 obtain ⟨hl,hg⟩:=hd
 obtain ⟨la,lb⟩:=lens_iff.1 hl
 rw [Bool.eq_iff_iff,truG_iff]
 unfold truC
 rw [List.all_eq_true]
 constructor
 ·intro h
  have key:∀ m:Nat,∀ i,0 ≤ endH c a b ((m:Int) - 1) i:=by
   intro m
   induction m with
   | zero=>exact fun i=>end_first hv a b i
   | succ m ih =>
    intro i
    rw [show ((m + 1:Nat):Int) - 1 = ((m:Int) - 1) + 1 from by omega]
    by_cases hex:∃ d,d ∈ b ∧ regP c.cl d = (m:Int) - 1 + 1
    ·obtain ⟨d,hdb,hr⟩:=hex
     obtain ⟨s,hs⟩:=mem_dates (c:=c) (la.trans lb.symm) hdb
     have hk:=h _ hs
     unfold okD at hk
     simp only [hr] at hk
     rw [decide_eq_false (by omega),Bool.false_or] at hk
     exact (pos_hold hv a b _).1 hk i
    ·have hr:=over_room hv.sok hv.sl ((m:Int) - 1) ((m:Int) - 1 + 1)
     refine nn_of (held_step hv ((m:Int) - 1) i c.tr a b _ _ (toks hv) hg (fun d hdb he=>hex ⟨d,hdb,he⟩) (facU_step hv _ (by omega))) hr.2.2.1 hr.1 (ih i)
  intro j h0 h1
  rw [pos_held hv]
  have:=key (j + 1).toNat
  rwa [show ((j + 1).toNat:Int) - 1 = j from by omega] at this
 ·intro h p hp
  obtain ⟨d,hr⟩:=dates_reg hp
  unfold okD
  rw [hr]
  rcases regP_rg c.cl d with h1|⟨h1,_,h3⟩
  ·rw [decide_eq_true h1]; rfl
  ·rw [(pos_hold hv a b _).2 ((pos_held hv a b _).1 (h _ h1 (by omega))),Bool.or_true]
theorem follow_eq (c:Co) (a b:List Int):followZ c a b = askedZ c a b:=by
 unfold followZ askedZ truthB
 by_cases hz:faultZ c = 0
 ·rw [if_pos hz,if_pos hz]
  cases hd:datedB c a b with
  | false=>rfl
  | true =>
   rw [tru_eq (Val.of_fault hz) hd,Bool.true_and]
 ·rw [if_neg hz,if_neg hz]
end Go.Proofs.Cp
