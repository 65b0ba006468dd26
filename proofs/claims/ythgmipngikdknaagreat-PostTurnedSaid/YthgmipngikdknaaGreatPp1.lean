import Derived.Test.YthgmipngikdknaaGreatPo9
/- The order in which orders come (nothing of the program in it). -/
namespace Go.Proofs.Po
open Go Go.Ev
/-- An arrival: the minute, the order. -/
abbrev AR:=Int × Nat
def ltA (x y:AR):Bool:=decide (x.1 < y.1) || (decide (x.1 = y.1) && decide (x.2 < y.2))
theorem ltA_t {x y:AR}:ltA x y = true ↔ x.1 < y.1 ∨ (x.1 = y.1 ∧ x.2 < y.2):=by
  unfold ltA; rw [Bool.or_eq_true,Bool.and_eq_true,decide_eq_true_eq,decide_eq_true_eq,decide_eq_true_eq]
theorem ltA_f {x y:AR}:ltA x y = false ↔ ¬ (x.1 < y.1 ∨ (x.1 = y.1 ∧ x.2 < y.2)):=by
  rw [← ltA_t,Bool.not_eq_true]
def insA (x:AR):List AR → List AR
  | []=>[x]
  | y :: r=>bif ltA x y then x :: y :: r else y :: insA x r
theorem insA_len (x:AR):∀ l,(insA x l).length = l.length + 1
  | []=>rfl
  | y :: r=>by
    unfold insA
    cases ltA x y with
    | true=>rfl
    | false=>show (insA x r).length + 1 = _; rw [insA_len x r]; rfl
theorem insA_mem {x b:AR}:∀ {l},b ∈ insA x l → b = x ∨ b ∈ l
  | [],h=>by simp [insA] at h; exact .inl h
  | y :: r,h=>by
    unfold insA at h
    cases hl:ltA x y with
    | true=>rw [hl,cond_true] at h; simpa using h
    | false =>
      rw [hl,cond_false] at h
      rcases List.mem_cons.1 h with h|h
      · exact .inr (by simp [h])
      · rcases insA_mem h with h|h
        · exact .inl h
        · exact .inr (by simp [h])
theorem insA_app {x:AR} {B:List AR} (hB:∀ b,b ∈ B → ltA x b = true):∀ A,insA x (A ++ B) = insA x A ++ B
  | []=>by
    cases B with
    | nil=>rfl
    | cons b r=>show insA x (b :: r) = [x] ++ b :: r; unfold insA; rw [hB b (by simp)]; rfl
  | a :: A=>by
    show insA x (a :: (A ++ B)) = _
    unfold insA
    cases ltA x a with
    | true=>rfl
    | false=>show a :: insA x (A ++ B) = a :: insA x A ++ B; rw [insA_app hB A]; rfl
theorem insA_end {x:AR}:∀ {A:List AR},(∀ a,a ∈ A → ltA x a = false) → insA x A = A ++ [x]
  | [],_=>rfl
  | a :: A,h=>by
    unfold insA
    rw [h a (by simp),cond_false,insA_end fun b hb=>h b (by simp [hb])]
    rfl
def Sorted (l:List AR):Prop:=l.Pairwise fun a b=>ltA b a = false
theorem insA_sorted {x:AR}:∀ {l:List AR},Sorted l → Sorted (insA x l)
  | [],_=>by unfold insA Sorted; simp
  | y :: r,h=>by
    unfold Sorted at h
    rw [List.pairwise_cons] at h
    unfold insA
    cases hl:ltA x y with
    | true =>
      rw [cond_true]
      unfold Sorted
      rw [List.pairwise_cons,List.pairwise_cons]
      refine ⟨fun b hb=>?_,h⟩
      have h1:=ltA_t.1 hl
      rw [ltA_f]
      rcases List.mem_cons.1 hb with rfl|hb
      · omega
      · have:=ltA_f.1 (h.1 b hb); omega
    | false =>
      rw [cond_false]
      unfold Sorted
      rw [List.pairwise_cons]
      refine ⟨fun b hb=>?_,insA_sorted h.2⟩
      rcases insA_mem hb with rfl|hb
      · exact hl
      · exact h.1 b hb
/-- Where the last of a sorted list is not beyond x, none is. -/
theorem sorted_last {x y:AR} {P:List AR} (h:Sorted (P ++ [y])) (hy:ltA x y = false):∀ a,a ∈ P ++ [y] → ltA x a = false:=by
  intro a ha
  rcases List.mem_append.1 ha with ha|ha
  · unfold Sorted at h
    rw [List.pairwise_append] at h
    have h1:=ltA_f.1 (h.2.2 a ha y (by simp))
    have h2:=ltA_f.1 hy
    rw [ltA_f]; omega
  · simp at ha; subst ha; exact hy
/-! ## Minute by minute -/
def atM (m:Int):List Int → Nat → List AR
  | [],_=>[]
  | a :: r,k=>bif decide (a = m) then (m,k) :: atM m r (k + 1) else atM m r (k + 1)
theorem atM_mem {m:Int} {y:AR}:∀ {l:List Int} {k:Nat},y ∈ atM m l k → y.1 = m ∧ y.2 < k + l.length
  | [],k,h=>by simp [atM] at h
  | a :: r,k,h=>by
    unfold atM at h
    have ih:y ∈ atM m r (k + 1) → y.1 = m ∧ y.2 < k + (a :: r).length:=fun h=>by
      have:=atM_mem h
      rw [List.length_cons]; omega
    cases hd:decide (a = m) with
    | true =>
      rw [hd,cond_true] at h
      rcases List.mem_cons.1 h with rfl|h
      · rw [List.length_cons]; exact ⟨rfl,by show k < _; omega⟩
      · exact ih h
    | false=>rw [hd,cond_false] at h; exact ih h
theorem atM_snoc (m x:Int):∀ (l:List Int) (k:Nat),atM m (l ++ [x]) k = atM m l k ++ bif decide (x = m) then [(m,k + l.length)] else []
  | [],k=>by
    show atM m [x] k = [] ++ _
    unfold atM
    cases decide (x = m) <;> rfl
  | a :: r,k=>by
    show atM m (a :: (r ++ [x])) k = _
    unfold atM
    rw [atM_snoc m x r (k + 1),show k + (a :: r).length = k + 1 + r.length from by rw [List.length_cons]; omega]
    cases decide (a = m) <;> rfl
def cmU (t:List Int):Nat → List AR
  | 0=>[]
  | j + 1=>cmU t j ++ atM (j:Int) t 0
theorem cmU_mem {t:List Int} {y:AR}:∀ {j:Nat},y ∈ cmU t j → y.1 < (j:Int) ∧ y.2 < t.length
  | 0,h=>by simp [cmU] at h
  | j + 1,h=>by
    unfold cmU at h
    rcases List.mem_append.1 h with h|h
    · have:=cmU_mem h; omega
    · have:=atM_mem h; omega
theorem cmU_snoc {t:List Int} {x:Int} (hx:0 ≤ x):∀ j:Nat,cmU (t ++ [x]) j = bif decide (x < (j:Int)) then insA (x,t.length) (cmU t j) else cmU t j
  | 0=>by rw [decide_eq_false (by omega)]; rfl
  | j + 1=>by
    have ih:=cmU_snoc (t:=t) hx j
    show cmU (t ++ [x]) j ++ atM (j:Int) (t ++ [x]) 0 = bif _ then insA _ (cmU t j ++ atM (j:Int) t 0) else cmU t j ++ atM (j:Int) t 0
    rw [ih,atM_snoc]
    by_cases h1:x < (j:Int)
    · have d1:decide (x < (j:Int)) = true:=decide_eq_true h1
      have d2:decide (x < ((j + 1:Nat):Int)) = true:=decide_eq_true (by omega)
      have d3:decide (x = (j:Int)) = false:=decide_eq_false (by omega)
      rw [d1,d2,d3,cond_true,cond_true,cond_false,List.append_nil,insA_app]
      intro b hb
      have:=atM_mem hb
      rw [ltA_t]; exact .inl (by show x < b.1; omega)
    · have d1:decide (x < (j:Int)) = false:=decide_eq_false h1
      by_cases h2:x = (j:Int)
      · have d2:decide (x < ((j + 1:Nat):Int)) = true:=decide_eq_true (by omega)
        have d3:decide (x = (j:Int)) = true:=decide_eq_true h2
        rw [d1,d2,d3,cond_false,cond_true,cond_true,insA_end,Nat.zero_add,h2,List.append_assoc]
        intro a ha
        rw [ltA_f]
        rcases List.mem_append.1 ha with ha|ha
        · have:=cmU_mem ha; show ¬ (x < a.1 ∨ (x = a.1 ∧ _)); omega
        · have:=atM_mem ha; show ¬ (x < a.1 ∨ (x = a.1 ∧ t.length < a.2)); omega
      · have d2:decide (x < ((j + 1:Nat):Int)) = false:=decide_eq_false (by omega)
        have d3:decide (x = (j:Int)) = false:=decide_eq_false h2
        rw [d1,d2,d3,cond_false,cond_false,cond_false,List.append_nil]
def cmZ (t:List Int):List AR:=cmU t 31
theorem cmZ_snoc {t:List Int} {x:Int} (h0:0 ≤ x) (h1:x ≤ 30):cmZ (t ++ [x]) = insA (x,t.length) (cmZ t):=by
  have d:decide (x < ((31:Nat):Int)) = true:=decide_eq_true (by omega)
  unfold cmZ
  rw [cmU_snoc h0,d,cond_true]
theorem cmU_nil:∀ j,cmU [] j = []
  | 0=>rfl
  | j + 1=>by unfold cmU; rw [cmU_nil j]; rfl
theorem take_snoc {α:Type} {t:List α} {k:Nat} (hk:k < t.length):t.take (k + 1) = t.take k ++ [t[k]]:=by
  rw [List.take_add_one,List.getElem?_eq_getElem hk]; rfl
structure CmOk (t:List Int) (k:Nat):Prop where
  len:(cmZ (t.take k)).length = k
  sorted:Sorted (cmZ (t.take k))
theorem cm_ok {t:List Int} (h:∀ x,x ∈ t → 0 ≤ x ∧ x ≤ 30):∀ k,k ≤ t.length → CmOk t k
  | 0,_=>by
    have e:cmZ (t.take 0) = []:=by rw [List.take_zero]; exact cmU_nil 31
    exact ⟨by rw [e]; rfl,by rw [e]; exact List.Pairwise.nil⟩
  | k + 1,hk=>by
    obtain ⟨i1,i2⟩:=cm_ok h k (by omega)
    have hb:=h t[k] (List.getElem_mem (by omega))
    have e:cmZ (t.take (k + 1)) = insA (t[k],(t.take k).length) (cmZ (t.take k)):=by rw [take_snoc (by omega),cmZ_snoc hb.1 hb.2]
    exact ⟨by rw [e,insA_len,i1],by rw [e]; exact insA_sorted i2⟩
theorem cm_step {t:List Int} (h:∀ x,x ∈ t → 0 ≤ x ∧ x ≤ 30) {k:Nat} (hk:k < t.length):cmZ (t.take (k + 1)) = insA (t[k],k) (cmZ (t.take k)):=by
  have hb:=h t[k] (List.getElem_mem (by omega))
  have hl:(t.take k).length = k:=by rw [List.length_take]; omega
  rw [take_snoc (by omega),cmZ_snoc hb.1 hb.2,hl]
/-- The orders of a truth as they come. -/
def ordZ (t:List Int):List Nat:=(cmZ t).map fun x=>x.2
theorem ord_lt {t:List Int} {a:Nat} (h:a ∈ ordZ t):a < t.length:=by
  obtain ⟨y,hy,rfl⟩:=List.mem_map.1 h
  exact (cmU_mem hy).2
end Go.Proofs.Po
