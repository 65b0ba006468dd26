import Derived.Test.YthgmipngikdknaaGreatPp2
/- What the reference does with the same orders (nothing of the program in it). -/
namespace Go.Proofs.Po
open Go Go.Ev
theorem atM_get {m:Int} {y:AR}:∀ {l:List Int} {k:Nat},y ∈ atM m l k → ∃ i,y.2 = k + i ∧ l[i]? = some m ∧ y.1 = m
  | [],k,h=>by simp [atM] at h
  | a :: r,k,h=>by
    unfold atM at h
    have ih:y ∈ atM m r (k + 1) → ∃ i,y.2 = k + i ∧ (a :: r)[i]? = some m ∧ y.1 = m:=fun h=>by
      obtain ⟨i,h1,h2,h3⟩:=atM_get h
      exact ⟨i + 1,by omega,by simpa using h2,h3⟩
    cases hd:decide (a = m) with
    | true =>
      rw [hd,cond_true] at h
      rcases List.mem_cons.1 h with rfl|h
      · exact ⟨0,rfl,by simp [of_decide_eq_true hd],rfl⟩
      · exact ih h
    | false=>rw [hd,cond_false] at h; exact ih h
theorem atM_pw (m:Int):∀ (l:List Int) (k:Nat),(atM m l k).Pairwise fun x y=>x.2 ≠ y.2
  | [],_=>List.Pairwise.nil
  | a :: r,k=>by
    have ih:=atM_pw m r (k + 1)
    unfold atM
    cases decide (a = m) with
    | true =>
      rw [cond_true,List.pairwise_cons]
      refine ⟨fun y hy=>?_,ih⟩
      obtain ⟨i,h1,_⟩:=atM_get hy
      show k ≠ y.2; omega
    | false=>exact ih
theorem cmU_get {t:List Int} {y:AR}:∀ {j:Nat},y ∈ cmU t j → t[y.2]? = some y.1
  | 0,h=>by simp [cmU] at h
  | j + 1,h=>by
    unfold cmU at h
    rcases List.mem_append.1 h with h|h
    · exact cmU_get h
    · obtain ⟨i,h1,h2,h3⟩:=atM_get h
      rw [h1,Nat.zero_add,h3]; exact h2
theorem cmU_pw (t:List Int):∀ j,(cmU t j).Pairwise fun x y=>x.2 ≠ y.2
  | 0=>List.Pairwise.nil
  | j + 1=>by
    unfold cmU
    rw [List.pairwise_append]
    refine ⟨cmU_pw t j,atM_pw _ _ _,fun x hx y hy e=>?_⟩
    have h1:=cmU_get hx
    have h2:=(cmU_mem hx).1
    obtain ⟨i,h3,h4,h5⟩:=atM_get hy
    rw [Nat.zero_add] at h3
    rw [e,h3,h4] at h1
    injection h1 with h1
    omega
/-! ## The same steps -/
theorem ext_lg {x y:List Int} (hx:x.length = 6) (hy:y.length = 6) (h:∀ j,j < 6 → lg x j = lg y j):x = y:=by
  apply List.ext_getElem?
  intro j
  by_cases hj:j < 6
  · rw [lg_get (by omega),lg_get (by omega),h j hj]
  · rw [List.getElem?_eq_none (by omega),List.getElem?_eq_none (by omega)]
end Go.Proofs.Po
