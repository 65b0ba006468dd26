import Derived.Test.YthgmipngikdknaaGreatPoU
import Derived.Test.YthgmipngikdknaaGreatPwA
/- What holds of all sales: prices, numbers, what is filled, that no two orders that cross are left. Pure. -/
namespace Go.Proofs.Po
set_option linter.unusedSimpArgs false
/-- A fair sale. -/
def SaleOk (O:List Od) (s:Sa):Prop:=∃ b e:Nat,s.bu = (b:Int) ∧ s.se = (e:Int) ∧ b < O.length ∧ e < O.length ∧ (od O b).b = true ∧ (od O e).b = false ∧ 1 ≤ s.nu ∧ s.nu ≤ 20 ∧ (od O e).l ≤ s.pr ∧ s.pr ≤ (od O b).l ∧ (s.pr = (od O b).l ∨ s.pr = (od O e).l)
theorem sale_ok {O:List Od} {lf:List Int} {a r:Nat} (hl:LfOk lf) (hc:qE O lf a r = true) (ha:a < O.length) (hr:r < O.length):SaleOk O (iM O lf a r):=by
 obtain ⟨p1,p2,p3,p4⟩:=vH hc
 obtain ⟨m1,m2,m3⟩:=min2_b p1 p2
 have:=hl.b a
 unfold iM bsZ
 unfold oM at p4
 cases hb:(od O r).b with
 | true =>
  rw [hb] at p3
  rw [p3] at p4
  have p4:=of_decide_eq_true p4
  exact ⟨r,a,rfl,rfl,hr,ha,hb,p3,by show 1 ≤ min2 _ _; omega,by show min2 _ _ ≤ 20; omega,p4,Int.le_refl _,.inl rfl⟩
 | false =>
  rw [hb] at p3
  rw [p3] at p4
  have p4:=of_decide_eq_true p4
  exact ⟨a,r,rfl,rfl,ha,hr,p3,hb,by show 1 ≤ min2 _ _; omega,by show min2 _ _ ≤ 20; omega,Int.le_refl _,p4,.inr rfl⟩
theorem hit_sale (O:List Od) (lf:List Int) (a r j:Nat):hitB (iM O lf a r) (j:Int) = decide (j = a ∨ j = r):=by
 unfold hitB iM
 rw [Bool.eq_iff_iff]
 simp only [Bool.or_eq_true,decide_eq_true_eq]
 rcases bs_cases O a r with e|e<;>rw [e]<;>simp only []<;>omega
/-- How many have something left. -/
def x9 (lf:List Int):Nat → Nat
 | 0=>0
 | n + 1=>x9 lf n + if 0 < lg lf n then 1 else 0
theorem pos_mono {lf lf':List Int}:∀ n,(∀ j,j < n → 0 < lg lf' j → 0 < lg lf j) → x9 lf' n ≤ x9 lf n
 | 0,_=>Nat.le_refl _
 | n + 1,h=>by
  have ih:=pos_mono n fun j hj=>h j (by omega)
  have:=h n (by omega)
  unfold x9
  by_cases h1:0 < lg lf' n
  ·rw [if_pos h1,if_pos (this h1)]; omega
  ·rw [if_neg h1]; omega
theorem pos_less {lf lf':List Int} {i:Nat}:∀ n,(∀ j,j < n → 0 < lg lf' j → 0 < lg lf j) → i < n → 0 < lg lf i → ¬ 0 < lg lf' i → x9 lf' n + 1 ≤ x9 lf n
 | 0,_,hi,_,_=>absurd hi (Nat.not_lt_zero _)
 | n + 1,h,hi,p,q=>by
  have:=h n (by omega)
  unfold x9
  by_cases e:i = n
  ·subst e
   have ih:=pos_mono i fun j hj=>h j (by omega)
   rw [if_neg q,if_pos p]; omega
  ·have ih:=pos_less n (fun j hj=>h j (by omega)) (by omega) p q
   by_cases h1:0 < lg lf' n
   ·rw [if_pos h1,if_pos (this h1)]; omega
   ·rw [if_neg h1]; omega
theorem pos_le (lf:List Int):∀ n,x9 lf n ≤ n
 | 0=>Nat.le_refl _
 | n + 1=>by
  have:=pos_le lf n
  unfold x9
  by_cases h1:0 < lg lf n
  ·rw [if_pos h1]; omega
  ·rw [if_neg h1]; omega
/-- What holds after every step. -/
structure SQ (O:List Od) (st:ST):Prop where
 ok:LfOk st.1
 sl:∀ s,s ∈ st.2 → SaleOk O s
 fil:∀ j,j < O.length → fnZ (j:Int) st.2 = (od O j).n - lg st.1 j
 cnt:st.2.length + x9 st.1 O.length ≤ O.length
theorem sq_step {O:List Od} {st:ST} {a r:Nat} (h6:O.length ≤ 6) (k:SQ O st) (hc:qE O st.1 a r = true) (ha:a < O.length) (hr:r < O.length):SQ O (jO O st.1 a r,st.2 ++ [iM O st.1 a r]):=by
 have hne:=can_ne hc
 obtain ⟨p1,p2,_,_⟩:=vH hc
 obtain ⟨m1,m2,m3⟩:=min2_b p1 p2
 have hg:=drop_get (O:=O) k.ok.len (by omega:a < 6) (by omega:r < 6) hne
 refine ⟨(drop_ok k.ok (by omega) (by omega) hc).1,fun s hs=>?_,fun j hj=>?_,?_⟩
 ·rcases List.mem_append.1 hs with hs|hs
  ·exact k.sl s hs
  ·simp at hs; subst hs; exact sale_ok k.ok hc ha hr
 ·show fnZ (j:Int) (st.2 ++ [iM O st.1 a r]) = (od O j).n - lg (jO O st.1 a r) j
  rw [fnZ_snoc,hit_sale,k.fil j hj,hg]
  have hn:(iM O st.1 a r).nu = min2 (lg st.1 a) (lg st.1 r):=rfl
  by_cases h:j = a ∨ j = r
  ·rw [if_pos h,decide_eq_true h,cond_true,hn]; omega
  ·rw [if_neg h,decide_eq_false h,cond_false]; omega
 ·show (st.2 ++ [iM O st.1 a r]).length + x9 (jO O st.1 a r) O.length ≤ O.length
  have hm:∀ j,j < O.length → 0 < lg (jO O st.1 a r) j → 0 < lg st.1 j:=fun j _ h=>by
   rw [hg] at h
   by_cases e:j = a ∨ j = r
   ·rw [if_pos e] at h; omega
   ·rw [if_neg e] at h; exact h
  have hcn:=k.cnt
  rw [List.length_append]
  have hx:x9 (jO O st.1 a r) O.length + 1 ≤ x9 st.1 O.length:=by
   by_cases q:lg st.1 r < lg st.1 a
   ·refine pos_less _ hm hr p2 ?_
    rw [hg,if_pos (.inr rfl)]; unfold min2; rw [if_pos q]; omega
   ·refine pos_less _ hm ha p1 ?_
    rw [hg,if_pos (.inl rfl)]; unfold min2; rw [if_neg q]; omega
  show st.2.length + 1 + _ ≤ _
  omega
theorem pick_in {O:List Od} {lf:List Int} {a r:Nat} {l:List Nat} (h:fZ O lf a l none = some r):r ∈ l ∧ qE O lf a r = true:=by
 rcases qF h with e|e
 ·cases e
 ·exact e
theorem sq_come {O:List Od} {came:List Nat} {a:Nat} (h6:O.length ≤ 6) (ha:a < O.length) (hc:∀ r,r ∈ came → r < O.length):∀ (f:Nat) (st:ST),SQ O st → SQ O (iO O came a f st)
 | 0,_,h=>h
 | f + 1,st,h=>by
  cases hp:fZ O st.1 a came none with
  | none=>rw [show iO O came a (f + 1) st = st from come_none hp _]; exact h
  | some r =>
   obtain ⟨hr,hcb⟩:=pick_in hp
   rw [come_some hp]
   exact sq_come h6 ha hc f _ (sq_step h6 h hcb ha (hc r hr))
theorem sq_run {O:List Od} (h6:O.length ≤ 6):∀ (l came:List Nat) (st:ST),(∀ a,a ∈ l → a < O.length) → (∀ r,r ∈ came → r < O.length) → SQ O st → SQ O (runZ O l came st)
 | [],_,_,_,_,h=>h
 | a :: l,came,st,hl,hc,h=>by
  rw [runZ]
  have ha:=hl a (by simp)
  refine sq_run h6 l _ _ (fun x hx=>hl x (by simp [hx])) (fun r hr=>?_) (sq_come h6 ha hc 20 st h)
  rcases List.mem_append.1 hr with hr|hr
  ·exact hc r hr
  ·simp at hr; omega
/-! ## No two that cross are left -/
end Go.Proofs.Po

/- All sales of a truth: what holds at the end. Pure. -/
namespace Go.Proofs.Po
set_option linter.unusedSimpArgs false
theorem atM_has {m:Int}:∀ {l:List Int} {k i:Nat},l[i]? = some m → (m,k + i) ∈ atM m l k
 | [],k,i,h=>by simp at h
 | a :: r,k,0,h=>by
  obtain rfl:a = m:=by simpa using h
  unfold atM
  rw [decide_eq_true rfl,cond_true]
  simp
 | a :: r,k,i + 1,h=>by
  have ih:=atM_has (l:=r) (k:=k + 1) (i:=i) (by simpa using h)
  rw [show k + (i + 1) = k + 1 + i by omega]
  unfold atM
  cases decide (a = m) with
  | true=>rw [cond_true]; exact List.mem_cons_of_mem _ ih
  | false=>rw [cond_false]; exact ih
theorem cmU_has {t:List Int} {i:Nat} {x:Int} (hx:t[i]? = some x) (h0:0 ≤ x):∀ {j:Nat},x < (j:Int) → (x,i) ∈ cmU t j
 | 0,h=>by omega
 | j + 1,h=>by
  unfold cmU
  by_cases e:x = (j:Int)
  ·subst e
   have:=atM_has (k:=0) hx
   rw [Nat.zero_add] at this
   exact List.mem_append.2 (.inr this)
  ·exact List.mem_append.2 (.inl (cmU_has hx h0 (by omega)))
theorem sq_start {O:List Od} (hv:Val O):SQ O (iP O O.length,[]):=by
 have h6:=hv.l6
 refine ⟨left0_ok hv,(fun s hs=>by cases hs),fun j hj=>?_,?_⟩
 ·show (0:Int) = _
  rw [left0_get _ _ _ (by omega),if_pos hj]; omega
 ·show 0 + x9 (iP O O.length) O.length ≤ O.length
  have:=pos_le (iP O O.length) O.length
  omega
theorem sq_play {O:List Od} {t:List Int} (hv:Val O) (ht:Tru O t):SQ O (dI O t):=by
 unfold dI
 exact sq_run hv.l6 _ _ _ (fun a ha=>by have:=ord_lt ha; have:=ht.len; omega) (fun r hr=>by cases hr) (sq_start hv)
theorem sales_six {O:List Od} {t:List Int} (hv:Val O) (ht:Tru O t):(dI O t).2.length ≤ 6:=by
 have:=(sq_play hv ht).cnt
 have:=hv.l6
 omega
theorem sales_saok {O:List Od} {t:List Int} (hv:Val O) (ht:Tru O t):∀ s,s ∈ (dI O t).2 → SaOk s:=fun s hs=>by
 obtain ⟨b,e,_,_,hb,he,_,_,n1,n2,p1,p2,_⟩:=(sq_play hv ht).sl s hs
 have h1:=(hv.ok _ (List.mem_of_getElem? (jB he))).l1
 have h2:=(hv.ok _ (List.mem_of_getElem? (jB hb))).l2
 exact ⟨by omega,n2,by omega,by omega⟩
end Go.Proofs.Po

/- One more order, that comes after all others. Pure. -/
namespace Go.Proofs.Po
set_option linter.unusedSimpArgs false
section
variable {O:List Od} {m:Od} {lf lf':List Int}
end
end Go.Proofs.Po
