import Derived.Test.YthgmipngikdknaaGreatPp4
/- All sales of a truth: what holds at the end. Pure. -/
namespace Go.Proofs.Po
set_option linter.unusedSimpArgs false
theorem atM_has {m:Int}:∀ {l:List Int} {k i:Nat},l[i]? = some m → (m,k + i) ∈ atM m l k
  | [],k,i,h=>by simp at h
  | a :: r,k,0,h=>by
    obtain rfl:a = m:=by simpa using h
    unfold atM
    rw [decide_eq_true rfl,cond_true]
    simp
  | a :: r,k,i + 1,h=>by
    have ih:=atM_has (l:=r) (k:=k + 1) (i:=i) (by simpa using h)
    rw [show k + (i + 1) = k + 1 + i by omega]
    unfold atM
    cases decide (a = m) with
    | true=>rw [cond_true]; exact List.mem_cons_of_mem _ ih
    | false=>rw [cond_false]; exact ih
theorem cmU_has {t:List Int} {i:Nat} {x:Int} (hx:t[i]? = some x) (h0:0 ≤ x):∀ {j:Nat},x < (j:Int) → (x,i) ∈ cmU t j
  | 0,h=>by omega
  | j + 1,h=>by
    unfold cmU
    by_cases e:x = (j:Int)
    · subst e
      have:=atM_has (k:=0) hx
      rw [Nat.zero_add] at this
      exact List.mem_append.2 (.inr this)
    · exact List.mem_append.2 (.inl (cmU_has hx h0 (by omega)))
theorem sq_start {O:List Od} (hv:Val O):SQ O (left0 O O.length,[]):=by
  have h6:=hv.l6
  refine ⟨left0_ok hv,(fun s hs=>by cases hs),fun j hj=>?_,?_⟩
  · show (0:Int) = _
    rw [left0_get _ _ _ (by omega),if_pos hj]; omega
  · show 0 + posN (left0 O O.length) O.length ≤ O.length
    have:=pos_le (left0 O O.length) O.length
    omega
theorem sq_play {O:List Od} {t:List Int} (hv:Val O) (ht:Tru O t):SQ O (playZ O t):=by
  unfold playZ
  exact sq_run hv.l6 _ _ _ (fun a ha=>by have:=ord_lt ha; have:=ht.len; omega) (fun r hr=>by cases hr) (sq_start hv)
theorem sales_six {O:List Od} {t:List Int} (hv:Val O) (ht:Tru O t):(playZ O t).2.length ≤ 6:=by
  have:=(sq_play hv ht).cnt
  have:=hv.l6
  omega
theorem sales_saok {O:List Od} {t:List Int} (hv:Val O) (ht:Tru O t):∀ s,s ∈ (playZ O t).2 → SaOk s:=fun s hs=>by
  obtain ⟨b,e,_,_,hb,he,_,_,n1,n2,p1,p2,_⟩:=(sq_play hv ht).sl s hs
  have h1:=(hv.ok _ (List.mem_of_getElem? (od_get he))).l1
  have h2:=(hv.ok _ (List.mem_of_getElem? (od_get hb))).l2
  exact ⟨by omega,n2,by omega,by omega⟩
end Go.Proofs.Po
