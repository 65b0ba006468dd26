
/- The parts of a sum: what a program that gives the pence that are left to the greatest remainders comes to. No program in it. -/
namespace Go.Proofs.Mg

def sumL (l : List Int) : Int := l.foldr (· + ·) 0
theorem sumL_nil : sumL [] = 0 := rfl
theorem sumL_cons (a : Int) (l : List Int) : sumL (a :: l) = a + sumL l := rfl
theorem sumL_app : ∀ (l m : List Int), sumL (l ++ m) = sumL l + sumL m
  | [], m => by rw [List.nil_append, sumL_nil, Int.zero_add]
  | a :: l, m => by rw [List.cons_append, sumL_cons, sumL_cons, sumL_app l m, Int.add_assoc]
theorem sumL_snoc (l : List Int) (a : Int) : sumL (l ++ [a]) = sumL l + a := by rw [sumL_app, sumL_cons, sumL_nil, Int.add_zero]
theorem sumL_set : ∀ (l : List Int) (j : Nat) (x : Int), j < l.length → sumL (l.set j x) = sumL l + x - l.getD j 0
  | [], _, _, h => by simp at h
  | a :: l, 0, x, _ => by simp only [List.set_cons_zero, sumL_cons, List.getD_cons_zero]; omega
  | a :: l, j + 1, x, h => by
    simp only [List.set_cons_succ, sumL_cons, List.getD_cons_succ]
    rw [sumL_set l j x (by simpa using h)]; omega
theorem sumL_le : ∀ (l : List Int), (∀ i, l.getD i 0 ≤ 0) → sumL l ≤ 0
  | [], _ => Int.le_refl _
  | a :: l, h => by
    have h0 := h 0
    simp only [List.getD_cons_zero] at h0
    have h1 := sumL_le l fun i => by simpa using h (i + 1)
    rw [sumL_cons]; omega
theorem sumL_nn : ∀ (l : List Int), (∀ i, 0 ≤ l.getD i 0) → 0 ≤ sumL l ∧ ∀ i, l.getD i 0 ≤ sumL l
  | [], _ => ⟨Int.le_refl _, fun i => by simp [sumL_nil]⟩
  | a :: l, h => by
    have h0 := h 0
    simp only [List.getD_cons_zero] at h0
    obtain ⟨h1, h2⟩ := sumL_nn l fun i => by simpa using h (i + 1)
    rw [sumL_cons]
    refine ⟨by omega, fun i => ?_⟩
    cases i with
    | zero => simp only [List.getD_cons_zero]; omega
    | succ i => simp only [List.getD_cons_succ]; have := h2 i; omega
theorem getD_set (l : List Int) (j i : Nat) (x : Int) : (l.set j x).getD i 0 = if i = j ∧ j < l.length then x else l.getD i 0 := by
  simp only [List.getD_eq_getElem?_getD, List.getElem?_set]
  by_cases h : j = i
  · subst h
    by_cases h2 : j < l.length
    · simp [h2]
    · simp [h2]
  · rw [if_neg h, if_neg (fun e => h e.1.symm)]
theorem getD_map (l : List Int) (f : Int → Int) (hf : f 0 = 0) (i : Nat) : (l.map f).getD i 0 = f (l.getD i 0) := by
  simp only [List.getD_eq_getElem?_getD, List.getElem?_map]
  cases l[i]? with
  | none => simp [hf]
  | some x => rfl
theorem ext_getD {l m : List Int} (h : l.length = m.length) (k : ∀ i, i < l.length → l.getD i 0 = m.getD i 0) : l = m := by
  refine List.ext_getElem h fun i h1 h2 => ?_
  have := k i h1
  simpa [List.getD_eq_getElem?_getD, List.getElem?_eq_getElem h1, List.getElem?_eq_getElem h2] using this

/-! ## The first of the greatest numbers -/
/-- Whether all numbers are at most this one. -/
def topB (l : List Int) (n : Int) : Bool := l.all fun x => decide (x ≤ n)
/-- The index of the first of the greatest numbers; 0 if there is none. -/
def greatG (l : List Int) : List Int → Nat → Nat
  | [], _ => 0
  | n :: r, k => bif topB l n then k else greatG l r (k + 1)
def great (l : List Int) : Nat := greatG l l 0
theorem topB_iff {l : List Int} {n : Int} (hn : 0 ≤ n) : topB l n = true ↔ ∀ i, l.getD i 0 ≤ n := by
  unfold topB
  rw [List.all_eq_true]
  constructor
  · intro h i
    rw [List.getD_eq_getElem?_getD]
    cases e : l[i]? with
    | none => exact hn
    | some x => exact of_decide_eq_true (h x (List.mem_of_getElem? e))
  · intro h x hx
    obtain ⟨i, hi⟩ := List.mem_iff_getElem?.1 hx
    have := h i
    rw [List.getD_eq_getElem?_getD, hi] at this
    exact decide_eq_true this
theorem exists_top : ∀ (l : List Int), l ≠ [] → ∃ i, i < l.length ∧ ∀ x, x ∈ l → x ≤ l.getD i 0
  | [], h => absurd rfl h
  | [a], _ => ⟨0, Nat.zero_lt_one, fun x hx => by simp at hx; subst hx; exact Int.le_refl _⟩
  | a :: b :: l, _ => by
    obtain ⟨i, hi, k⟩ := exists_top (b :: l) (by simp)
    by_cases h : (b :: l).getD i 0 ≤ a
    · refine ⟨0, by simp, fun x hx => ?_⟩
      rw [List.getD_cons_zero]
      rcases List.mem_cons.1 hx with rfl | hx
      · exact Int.le_refl _
      · have := k x hx; omega
    · refine ⟨i + 1, by simpa using hi, fun x hx => ?_⟩
      rw [List.getD_cons_succ]
      rcases List.mem_cons.1 hx with rfl | hx
      · omega
      · exact k x hx
theorem greatG_spec (l : List Int) : ∀ (r : List Int) (k : Nat), (∃ i, i < r.length ∧ topB l (r.getD i 0) = true) → ∃ i, i < r.length ∧ greatG l r k = k + i ∧ topB l (r.getD i 0) = true ∧ ∀ j, j < i → topB l (r.getD j 0) = false
  | [], _, ⟨i, h, _⟩ => by simp at h
  | n :: r, k, ⟨i, h1, h2⟩ => by
    unfold greatG
    cases e : topB l n with
    | true => exact ⟨0, by simp, by simp, by simpa using e, fun j hj => by omega⟩
    | false =>
      cases i with
      | zero => simp at h2; rw [h2] at e; cases e
      | succ i =>
        obtain ⟨j, a, b, c, d⟩ := greatG_spec l r (k + 1) ⟨i, by simpa using h1, by simpa using h2⟩
        refine ⟨j + 1, by simpa using a, by rw [cond_false, b]; omega, by simpa using c, fun m hm => ?_⟩
        cases m with
        | zero => simpa using e
        | succ m => simpa using d m (by omega)
theorem great_spec {l : List Int} (h : l ≠ []) : great l < l.length ∧ topB l (l.getD (great l) 0) = true ∧ ∀ j, j < great l → topB l (l.getD j 0) = false := by
  obtain ⟨i, h1, h2⟩ := exists_top l h
  obtain ⟨j, a, b, c, d⟩ := greatG_spec l l 0 ⟨i, h1, by unfold topB; rw [List.all_eq_true]; exact fun x hx => decide_eq_true (h2 x hx)⟩
  have hj : great l = j := by unfold great; rw [b]; omega
  rw [hj]
  exact ⟨a, c, d⟩

/-! ## How many -/
def cnt (s : Nat → Bool) : Nat → Nat
  | 0 => 0
  | n + 1 => cnt s n + (bif s n then 1 else 0)
theorem cnt_le {s s' : Nat → Bool} : ∀ {n : Nat}, (∀ i, i < n → s i = true → s' i = true) → cnt s n ≤ cnt s' n
  | 0, _ => Nat.le_refl _
  | n + 1, h => by
    have h1 := cnt_le (n := n) fun i hi => h i (by omega)
    have h2 := h n (by omega)
    unfold cnt
    cases e : s n with
    | false => rw [cond_false]; omega
    | true => rw [h2 e, cond_true]; omega
theorem cnt_upd {s : Nat → Bool} {j : Nat} (hj : s j = false) : ∀ {n : Nat}, cnt (fun i => s i || decide (i = j)) n = cnt s n + (if j < n then 1 else 0)
  | 0 => rfl
  | n + 1 => by
    unfold cnt
    rw [cnt_upd hj]
    by_cases h : n = j
    · subst h
      rw [hj, if_neg (Nat.lt_irrefl _), if_pos (Nat.lt_succ_self _)]
      simp
    · have h1 : decide (n = j) = false := decide_eq_false h
      rw [h1, Bool.or_false]
      by_cases h2 : j < n
      · rw [if_pos h2, if_pos (by omega)]; omega
      · rw [if_neg h2, if_neg (by omega)]; omega
theorem cnt_lt {s s' : Nat → Bool} {n j : Nat} (hj : j < n) (h1 : s j = false) (h2 : s' j = true) (h : ∀ i, i < n → s i = true → s' i = true) : cnt s n < cnt s' n := by
  have h3 := cnt_upd (n := n) h1
  have h4 : cnt (fun i => s i || decide (i = j)) n ≤ cnt s' n := cnt_le fun i hi e => by
    rw [Bool.or_eq_true, decide_eq_true_eq] at e
    rcases e with e | rfl
    · exact h i hi e
    · exact h2
  rw [if_pos hj] at h3
  omega

/-! ## The rounds -/
/-- Whether the one of the first index comes before the other. -/
def prec (r : List Int) (i k : Nat) : Bool := decide (r.getD k 0 < r.getD i 0) || decide (r.getD i 0 = r.getD k 0) && decide (i < k)
theorem prec_asymm {r : List Int} {i k : Nat} (h : prec r i k = true) : prec r k i = false := by
  cases e : prec r k i with
  | false => rfl
  | true =>
    simp only [prec, Bool.or_eq_true, Bool.and_eq_true, decide_eq_true_eq] at h e
    omega
theorem prec_irrefl (r : List Int) (i : Nat) : prec r i i = false := by
  simp [prec]
def round (x : List Int × List Int) : List Int × List Int := (x.1.set (great x.2) (x.1.getD (great x.2) 0 + 1), x.2.set (great x.2) 0)
def rounds : Nat → List Int × List Int → List Int × List Int
  | 0, x => x
  | n + 1, x => rounds n (round x)
structure InvR (b r : List Int) (T : Int) (left m : Nat) (x : List Int × List Int) (s : Nat → Bool) : Prop where
  l1 : x.1.length = b.length
  l2 : x.2.length = b.length
  lr : r.length = b.length
  nn : ∀ i, 0 ≤ r.getD i 0 ∧ r.getD i 0 < T
  g1 : ∀ i, i < b.length → x.1.getD i 0 = b.getD i 0 + (bif s i then 1 else 0)
  g2 : ∀ i, x.2.getD i 0 = bif s i then 0 else r.getD i 0
  pos : ∀ i, s i = true → i < b.length ∧ 0 < r.getD i 0
  pr : ∀ i k, i < b.length → k < b.length → s i = true → s k = false → prec r i k = true
  cn : cnt s b.length = m
  le : m ≤ left
  sm : T * ((left : Int) - m) ≤ sumL x.2
  s1 : sumL x.1 = sumL b + m
theorem invR_round {b r : List Int} {T : Int} {left m : Nat} {x : List Int × List Int} {s : Nat → Bool} (h : InvR b r T left m x s) (hm : m < left) (hT : 0 < T) :
    great x.2 < b.length ∧ 0 < x.2.getD (great x.2) 0 ∧ s (great x.2) = false ∧ InvR b r T left (m + 1) (round x) fun i => s i || decide (i = great x.2) := by
  have hs := h.sm
  have hs1 : T ≤ T * ((left : Int) - m) := by
    have : T * 1 ≤ T * ((left : Int) - m) := Int.mul_le_mul_of_nonneg_left (by omega) (by omega)
    omega
  have hne : x.2 ≠ [] := fun e => by rw [e, sumL_nil] at hs; omega
  obtain ⟨a, b1, c⟩ := great_spec hne
  have hg2 := h.g2
  have hn2 : ∀ i, 0 ≤ x.2.getD i 0 := fun i => by
    rw [hg2 i]
    cases s i with
    | true => exact Int.le_refl _
    | false => exact (h.nn i).1
  rw [topB_iff (hn2 _)] at b1
  have hp : 0 < x.2.getD (great x.2) 0 := by
    by_cases hz : x.2.getD (great x.2) 0 ≤ 0
    · have := sumL_le x.2 fun i => by have := b1 i; omega
      omega
    · omega
  have hj : s (great x.2) = false := by
    cases e : s (great x.2) with
    | false => rfl
    | true =>
      have := hg2 (great x.2)
      rw [e, cond_true] at this
      omega
  have hjr : x.2.getD (great x.2) 0 = r.getD (great x.2) 0 := by rw [hg2, hj, cond_false]
  obtain ⟨j, hJ⟩ : ∃ j, j = great x.2 := ⟨_, rfl⟩
  have hrd : round x = (x.1.set j (x.1.getD j 0 + 1), x.2.set j 0) := by rw [hJ]; rfl
  rw [hrd, ← hJ]
  rw [← hJ] at a b1 c hp hj hjr
  clear hJ hrd
  have hjb : j < b.length := by rw [← h.l2]; exact a
  have hj1 : j < x.1.length := by rw [h.l1]; exact hjb
  refine ⟨hjb, hp, hj, ?_⟩
  have hsj : ∀ i, i ≠ j → (s i || decide (i = j)) = s i := fun i e => by rw [decide_eq_false e, Bool.or_false]
  have hsjj : (s j || decide (j = j)) = true := by rw [decide_eq_true rfl, Bool.or_true]
  exact {
    l1 := by show (x.1.set _ _).length = _; rw [List.length_set]; exact h.l1
    l2 := by show (x.2.set _ _).length = _; rw [List.length_set]; exact h.l2
    lr := h.lr
    nn := h.nn
    g1 := fun i hi => by
      show (x.1.set _ _).getD i 0 = _
      rw [getD_set]
      by_cases e : i = j
      · subst e
        rw [if_pos ⟨rfl, hj1⟩, h.g1 _ hi]
        simp [hj]
      · rw [if_neg fun q => e q.1, h.g1 _ hi, hsj i e]
    g2 := fun i => by
      show (x.2.set _ _).getD i 0 = _
      rw [getD_set]
      by_cases e : i = j
      · subst e
        rw [if_pos ⟨rfl, a⟩, hsjj, cond_true]
      · rw [if_neg fun q => e q.1, hg2, hsj i e]
    pos := fun i hi => by
      by_cases e : i = j
      · subst e
        exact ⟨hjb, by rw [← hjr]; exact hp⟩
      · rw [hsj i e] at hi
        exact h.pos i hi
    pr := fun i k hi hk h1 h2 => by
      have ek : k ≠ j := fun e => by subst e; rw [hsjj] at h2; cases h2
      rw [hsj k ek] at h2
      by_cases e : i = j
      · subst e
        have hk1 := b1 k
        rw [hg2 k, h2, cond_false, hjr] at hk1
        unfold prec
        rw [Bool.or_eq_true, Bool.and_eq_true, decide_eq_true_eq, decide_eq_true_eq, decide_eq_true_eq]
        by_cases hq : r.getD k 0 < r.getD i 0
        · exact .inl hq
        · refine .inr ⟨by omega, ?_⟩
          by_cases hik : i < k
          · exact hik
          · have hki : k < i := by omega
            have := c k hki
            have ht : topB x.2 (x.2.getD k 0) = true := by
              rw [topB_iff (hn2 k)]
              intro m
              have hm1 := b1 m
              rw [hg2 k, h2, cond_false]
              rw [hjr] at hm1
              omega
            rw [ht] at this; cases this
      · rw [hsj i e] at h1
        exact h.pr i k hi hk h1 h2
    cn := by rw [cnt_upd hj, h.cn, if_pos hjb]
    le := hm
    sm := by
      show _ ≤ sumL (x.2.set _ _)
      rw [sumL_set _ _ _ a, hjr]
      have h1 := (h.nn j).2
      have h2 : T * ((left : Int) - ((m + 1 : Nat) : Int)) = T * ((left : Int) - m) - T := by
        rw [Int.natCast_add, Int.mul_sub, Int.mul_sub, Int.mul_add]
        simp only [Int.natCast_one, Int.mul_one]
        omega
      rw [h2]
      omega
    s1 := by
      show sumL (x.1.set _ _) = _
      rw [sumL_set _ _ _ hj1, h.s1]
      omega }
theorem invR_rounds {b r : List Int} {T : Int} {left : Nat} (hT : 0 < T) : ∀ (n m : Nat) (x : List Int × List Int) (s : Nat → Bool), InvR b r T left m x s → m + n = left → ∃ s', InvR b r T left left (rounds n x) s'
  | 0, m, x, s, h, e => ⟨s, by rw [Nat.add_zero] at e; subst e; exact h⟩
  | n + 1, m, x, s, h, e => by
    obtain ⟨_, _, _, h'⟩ := invR_round h (by omega) hT
    exact invR_rounds hT n (m + 1) (round x) _ h' (by omega)
/-! ## The parts -/
def base (l : List Int) (sum T : Int) : List Int := l.map fun a => (a * sum).tdiv T
def rest (l : List Int) (sum T : Int) : List Int := l.map fun a => (a * sum).tmod T
def leftN (l : List Int) (sum : Int) : Nat := (sum - sumL (base l sum (sumL l))).toNat
def partsP (l : List Int) (sum : Int) : List Int := (rounds (leftN l sum) (base l sum (sumL l), rest l sum (sumL l))).1
theorem sum_divmod (sum T : Int) : ∀ (l : List Int), T * sumL (base l sum T) + sumL (rest l sum T) = sumL l * sum
  | [] => by simp [base, rest, sumL_nil]
  | a :: l => by
    have h := sum_divmod sum T l
    simp only [base, rest, List.map_cons, sumL_cons] at h ⊢
    have h2 := Int.mul_tdiv_add_tmod (a * sum) T
    rw [Int.mul_add, Int.add_mul]
    omega
structure Amts (l : List Int) (sum : Int) : Prop where
  nn : ∀ i, 0 ≤ l.getD i 0
  T : 0 < sumL l
  s0 : 0 ≤ sum
  sT : sum ≤ sumL l
theorem invR_start {l : List Int} {sum : Int} (h : Amts l sum) : InvR (base l sum (sumL l)) (rest l sum (sumL l)) (sumL l) (leftN l sum) 0 (base l sum (sumL l), rest l sum (sumL l)) fun _ => false where
  l1 := rfl
  l2 := by simp [base, rest]
  lr := by simp [base, rest]
  nn := fun i => by
    have h0 : 0 ≤ l.getD i 0 * sum := Int.mul_nonneg (h.nn i) h.s0
    rw [rest, getD_map _ _ (by simp)]
    exact ⟨Int.tmod_nonneg _ h0, Int.tmod_lt_of_pos _ h.T⟩
  g1 := fun i _ => by simp
  g2 := fun i => rfl
  pos := fun i e => by cases e
  pr := fun i k _ _ e => by cases e
  cn := by
    generalize (base l sum (sumL l)).length = n
    induction n with
    | zero => rfl
    | succ n ih => unfold cnt; rw [ih]; rfl
  le := Nat.zero_le _
  s1 := by simp
  sm := by
    have h1 := sum_divmod sum (sumL l) l
    have h2 : 0 ≤ sumL (rest l sum (sumL l)) := (sumL_nn _ fun i => by
      rw [rest, getD_map _ _ (by simp)]
      exact Int.tmod_nonneg _ (Int.mul_nonneg (h.nn i) h.s0)).1
    have h3 : sumL (rest l sum (sumL l)) = sumL l * (sum - sumL (base l sum (sumL l))) := by rw [Int.mul_sub]; omega
    show sumL l * ((leftN l sum : Int) - ((0 : Nat) : Int)) ≤ sumL (rest l sum (sumL l))
    rw [h3]
    refine Int.mul_le_mul_of_nonneg_left ?_ (by have := h.T; omega)
    unfold leftN
    have h4 : 0 ≤ sum - sumL (base l sum (sumL l)) := by
      by_cases hz : 0 ≤ sum - sumL (base l sum (sumL l))
      · exact hz
      · have h5 : sumL l * (sum - sumL (base l sum (sumL l))) ≤ sumL l * (-1) := Int.mul_le_mul_of_nonneg_left (by omega) (by have := h.T; omega)
        have := h.T
        omega
    omega
/-- The pence that are left are no more than would be lacking. -/
theorem left_nn {l : List Int} {sum : Int} (h : Amts l sum) : (leftN l sum : Int) = sum - sumL (base l sum (sumL l)) := by
  have h1 := sum_divmod sum (sumL l) l
  have h2 : 0 ≤ sumL (rest l sum (sumL l)) := (sumL_nn _ fun i => by
    rw [rest, getD_map _ _ (by simp)]
    exact Int.tmod_nonneg _ (Int.mul_nonneg (h.nn i) h.s0)).1
  have h3 : sumL (rest l sum (sumL l)) = sumL l * (sum - sumL (base l sum (sumL l))) := by rw [Int.mul_sub]; omega
  unfold leftN
  by_cases hz : 0 ≤ sum - sumL (base l sum (sumL l))
  · omega
  · have h5 : sumL l * (sum - sumL (base l sum (sumL l))) ≤ sumL l * (-1) := Int.mul_le_mul_of_nonneg_left (by omega) (by have := h.T; omega)
    have := h.T
    omega
end Go.Proofs.Mg

/- The parts of a sum: as the ranks of the remainders say; what they have. No program in it. -/
namespace Go.Proofs.Mg

theorem inv_end {l : List Int} {sum : Int} (h : Amts l sum) : ∃ s, InvR (base l sum (sumL l)) (rest l sum (sumL l)) (sumL l) (leftN l sum) (leftN l sum) (rounds (leftN l sum) (base l sum (sumL l), rest l sum (sumL l))) s :=
  invR_rounds h.T _ 0 _ _ (invR_start h) (Nat.zero_add _)
/-- How many come before. -/
def befN (r : List Int) (i : Nat) : Nat := cnt (fun k => prec r k i) r.length
theorem chosen_iff {b r : List Int} {T : Int} {left : Nat} {x : List Int × List Int} {s : Nat → Bool} (h : InvR b r T left left x s) {i : Nat} (hi : i < b.length) : s i = decide (befN r i < left) := by
  have hl := h.lr
  have hc := h.cn
  unfold befN
  rw [hl]
  cases e : s i with
  | true =>
    have : cnt (fun k => prec r k i) b.length < cnt s b.length := cnt_lt hi (prec_irrefl r i) e fun k hk hp => by
      cases e2 : s k with
      | true => rfl
      | false =>
        have := prec_asymm (h.pr i k hi hk e e2)
        rw [this] at hp; cases hp
    rw [eq_comm, decide_eq_true_eq]; omega
  | false =>
    have : cnt s b.length ≤ cnt (fun k => prec r k i) b.length := cnt_le fun k hk hp => h.pr k i hk hi hp e
    rw [eq_comm, decide_eq_false_iff_not]; omega
/-- The parts as the ranks say: k of them are done. -/
def partsK (l : List Int) (sum : Int) (k : Nat) : List Int := (List.range l.length).map fun i => (base l sum (sumL l)).getD i 0 + (if i < k ∧ befN (rest l sum (sumL l)) i < leftN l sum then 1 else 0)
theorem partsK_len (l : List Int) (sum : Int) (k : Nat) : (partsK l sum k).length = l.length := by simp [partsK]
theorem partsK_get (l : List Int) (sum : Int) (k : Nat) {i : Nat} (hi : i < l.length) : (partsK l sum k).getD i 0 = (base l sum (sumL l)).getD i 0 + (if i < k ∧ befN (rest l sum (sumL l)) i < leftN l sum then 1 else 0) := by
  rw [partsK, List.getD_eq_getElem?_getD, List.getElem?_map, List.getElem?_range hi]
  rfl
theorem partsK_zero (l : List Int) (sum : Int) : partsK l sum 0 = base l sum (sumL l) := by
  refine ext_getD (by simp [partsK, base]) fun i hi => ?_
  rw [partsK_get _ _ _ (by simpa [partsK_len] using hi), if_neg (by omega), Int.add_zero]
theorem partsK_succ (l : List Int) (sum : Int) {k : Nat} (hk : k < l.length) : partsK l sum (k + 1) = if befN (rest l sum (sumL l)) k < leftN l sum then (partsK l sum k).set k ((partsK l sum k).getD k 0 + 1) else partsK l sum k := by
  have e1 : ∀ i, i < l.length → i ≠ k → (partsK l sum (k + 1)).getD i 0 = (partsK l sum k).getD i 0 := fun i hi hik => by
    rw [partsK_get _ _ _ hi, partsK_get _ _ _ hi]
    congr 1
    by_cases h : i < k
    · by_cases h2 : befN (rest l sum (sumL l)) i < leftN l sum
      · rw [if_pos ⟨by omega, h2⟩, if_pos ⟨h, h2⟩]
      · rw [if_neg (fun q => h2 q.2), if_neg (fun q => h2 q.2)]
    · rw [if_neg (by omega), if_neg (by omega)]
  have e2 : (partsK l sum k).getD k 0 = (base l sum (sumL l)).getD k 0 := by rw [partsK_get _ _ _ hk, if_neg (by omega), Int.add_zero]
  by_cases h : befN (rest l sum (sumL l)) k < leftN l sum
  · rw [if_pos h]
    refine ext_getD (by simp [partsK_len]) fun i hi => ?_
    rw [partsK_len] at hi
    rw [getD_set]
    by_cases e : i = k
    · subst e
      rw [if_pos ⟨rfl, by rw [partsK_len]; exact hk⟩, e2, partsK_get _ _ _ hi, if_pos ⟨Nat.lt_succ_self _, h⟩]
    · rw [if_neg fun q => e q.1, e1 i hi e]
  · rw [if_neg h]
    refine ext_getD (by simp [partsK_len]) fun i hi => ?_
    rw [partsK_len] at hi
    by_cases e : i = k
    · subst e
      rw [e2, partsK_get _ _ _ hi, if_neg (fun q => h q.2), Int.add_zero]
    · exact e1 i hi e
theorem parts_eq {l : List Int} {sum : Int} (h : Amts l sum) : partsP l sum = partsK l sum l.length := by
  obtain ⟨s, hs⟩ := inv_end h
  have hb : (base l sum (sumL l)).length = l.length := by simp [base]
  refine ext_getD (by rw [partsK_len]; exact hs.l1.trans hb) fun i hi => ?_
  have hi' : i < (base l sum (sumL l)).length := by rw [← hs.l1]; exact hi
  have hil : i < l.length := by omega
  rw [partsK_get _ _ _ hil]
  show (rounds (leftN l sum) (base l sum (sumL l), rest l sum (sumL l))).1.getD i 0 = _
  rw [hs.g1 i hi', chosen_iff hs hi']
  congr 1
  by_cases h2 : befN (rest l sum (sumL l)) i < leftN l sum
  · rw [decide_eq_true h2, if_pos ⟨hil, h2⟩]; rfl
  · rw [decide_eq_false h2, if_neg fun q => h2 q.2]; rfl
/-- What the parts have. -/
structure PartsOk (l : List Int) (sum : Int) (p : List Int) : Prop where
  len : p.length = l.length
  sm : sumL p = sum
  nn : ∀ i, i < l.length → 0 ≤ p.getD i 0
  le : ∀ i, i < l.length → p.getD i 0 ≤ l.getD i 0
  up : ∀ i, i < l.length → p.getD i 0 * sumL l - l.getD i 0 * sum < sumL l
  dn : ∀ i, i < l.length → l.getD i 0 * sum - p.getD i 0 * sumL l < sumL l
  mono : ∀ i k, i < l.length → k < l.length → l.getD k 0 < l.getD i 0 → p.getD k 0 ≤ p.getD i 0
theorem parts_ok {l : List Int} {sum : Int} (h : Amts l sum) : PartsOk l sum (partsP l sum) := by
  obtain ⟨s, hs⟩ := inv_end h
  have hb : (base l sum (sumL l)).length = l.length := by simp [base]
  have hT := h.T
  have hdm : ∀ i, sumL l * (base l sum (sumL l)).getD i 0 + (rest l sum (sumL l)).getD i 0 = l.getD i 0 * sum := fun i => by
    rw [rest, base, getD_map _ _ (by simp), getD_map _ _ (by simp)]
    exact Int.mul_tdiv_add_tmod ..
  have hq0 : ∀ i, 0 ≤ (base l sum (sumL l)).getD i 0 := fun i => by
    rw [base, getD_map _ _ (by simp)]
    exact Int.tdiv_nonneg (Int.mul_nonneg (h.nn i) h.s0) (by omega)
  have hg : ∀ i, i < l.length → (partsP l sum).getD i 0 = (base l sum (sumL l)).getD i 0 + (bif s i then 1 else 0) := fun i hi => hs.g1 i (by omega)
  have hup : ∀ i, i < l.length → (partsP l sum).getD i 0 * sumL l - l.getD i 0 * sum < sumL l := fun i hi => by
    rw [hg i hi, ← hdm i, Int.add_mul, Int.mul_comm (sumL l)]
    have hr := (hs.nn i).1
    cases e : s i with
    | true => have := (hs.pos i e).2; rw [cond_true, Int.one_mul]; omega
    | false => rw [cond_false, Int.zero_mul]; omega
  have hdn : ∀ i, i < l.length → l.getD i 0 * sum - (partsP l sum).getD i 0 * sumL l < sumL l := fun i hi => by
    rw [hg i hi, ← hdm i, Int.add_mul, Int.mul_comm (sumL l)]
    have hr := (hs.nn i).2
    cases e : s i with
    | true => rw [cond_true, Int.one_mul]; omega
    | false => rw [cond_false, Int.zero_mul]; omega
  refine ⟨hs.l1.trans hb, ?_, fun i hi => ?_, fun i hi => ?_, hup, hdn, fun i k hi hk hlt => ?_⟩
  · have h1 := hs.s1
    have h2 := left_nn h
    show sumL (rounds (leftN l sum) (base l sum (sumL l), rest l sum (sumL l))).1 = sum
    omega
  · rw [hg i hi]
    have := hq0 i
    cases s i with
    | true => rw [cond_true]; omega
    | false => rw [cond_false]; omega
  · have h1 := hup i hi
    have h2 : l.getD i 0 * sum ≤ l.getD i 0 * sumL l := Int.mul_le_mul_of_nonneg_left h.sT (h.nn i)
    have h3 : (partsP l sum).getD i 0 * sumL l < (l.getD i 0 + 1) * sumL l := by rw [Int.add_mul, Int.one_mul]; omega
    have := Int.lt_of_mul_lt_mul_right h3 (by omega)
    omega
  · rw [hg i hi, hg k hk]
    have di := hdm i
    have dk := hdm k
    have h1 : l.getD k 0 * sum ≤ l.getD i 0 * sum := Int.mul_le_mul_of_nonneg_right (by omega) h.s0
    have h2 : l.getD k 0 * sum + sum ≤ l.getD i 0 * sum := by
      have : (l.getD k 0 + 1) * sum ≤ l.getD i 0 * sum := Int.mul_le_mul_of_nonneg_right (by omega) h.s0
      rw [Int.add_mul, Int.one_mul] at this
      exact this
    have hi1 := hs.nn i
    have hk1 := hs.nn k
    have h0 := h.s0
    generalize (base l sum (sumL l)).getD i 0 = qi at di
    generalize (base l sum (sumL l)).getD k 0 = qk at dk
    have hqq : qk ≤ qi := by
      by_cases hlt2 : qi < qk
      · have h4 : sumL l * (qi + 1) ≤ sumL l * qk := Int.mul_le_mul_of_nonneg_left (by omega) (by omega)
        rw [Int.mul_add, Int.mul_one] at h4
        omega
      · omega
    cases ei : s i with
    | true => cases s k <;> simp <;> omega
    | false =>
      cases ek : s k with
      | false => simpa using hqq
      | true =>
        have hp := hs.pr k i (by omega) (by omega) ek ei
        have hpos := (hs.pos k ek).2
        unfold prec at hp
        rw [Bool.or_eq_true, Bool.and_eq_true, decide_eq_true_eq, decide_eq_true_eq, decide_eq_true_eq] at hp
        have hlt3 : qk ≠ qi := fun e => by
          subst e
          by_cases hs0 : sum = 0
          · have hz : l.getD k 0 * sum = 0 := by rw [hs0, Int.mul_zero]
            have hz2 : 0 ≤ sumL l * qk := Int.mul_nonneg (by omega) (by have := hk1.2; by_cases hq : 0 ≤ qk; exact hq; exact absurd (Int.mul_le_mul_of_nonneg_left (by omega : qk ≤ -1) (by omega : 0 ≤ sumL l)) (by omega))
            omega
          · omega
        simp
        omega
end Go.Proofs.Mg
