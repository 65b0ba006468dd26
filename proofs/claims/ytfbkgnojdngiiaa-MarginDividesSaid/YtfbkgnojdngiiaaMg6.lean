import Derived.Test.YtfbkgnojdngiiaaMg5
/- The parts, or the error, by the words of the document. -/
namespace Go.Proofs.Mg
open Go Go.Ev
set_option linter.unusedSimpArgs false
variable {pr : Prim} {R : ExT}
abbrev i1 (l : List Int) : List (List Value) := l.map fun n => [iv n]
structure IRa (cv : Value) (cs : List Int) (sum : Int) (H : AHeap) (k : Nat) (t : T Value) (h : AHeap) : Prop where
  hh : h = H
  t0 : tget t 0 = cv
  t1 : tget t 1 = iv sum
  t6 : tget t 6 = iv (sumL (cs.take k))
  t7 : tget t 7 = iv (k : Int)
  hm : monB cs = monB (cs.drop k)
  hb : ∀ x, x ∈ cs.take k → 0 ≤ x ∧ x ≤ 100000
  hk : k ≤ cs.length
structure IRb (cv : Value) (cs : List Int) (sum : Int) (H : AHeap) (k : Nat) (t : T Value) (h : AHeap) : Prop where
  kp : Kp H h
  ex : ∃ v F, App H.nx h 1 v (i1 ((base cs sum (sumL cs)).take k)) F ∧ tget t 8 = v
  t0 : tget t 0 = cv
  t1 : tget t 1 = iv sum
  t6 : tget t 6 = iv (sumL cs)
  t9 : tget t 9 = iv (sum - sumL ((base cs sum (sumL cs)).take k))
  t10 : tget t 10 = iv (k : Int)
  hk : k ≤ cs.length
structure IRc (cv : Value) (cs : List Int) (sum : Int) (H : AHeap) (b F : Nat) (k : Nat) (t : T Value) (h : AHeap) : Prop where
  kp : Kp H h
  own : OwnF H.nx h b F (partsK cs sum k)
  t0 : tget t 0 = cv
  t1 : tget t 1 = iv sum
  t6 : tget t 6 = iv (sumL cs)
  t8 : tget t 8 = .slice (some ⟨b, 0, none⟩) cs.length cs.length
  t9 : tget t 9 = iv (leftN cs sum : Int)
  t11 : tget t 11 = iv (k : Int)
  hk : k ≤ cs.length
structure IRd (cv : Value) (cs : List Int) (sum : Int) (H : AHeap) (b k : Nat) (m : Nat) (t : T Value) (h : AHeap) : Prop where
  hh : h = H
  t0 : tget t 0 = cv
  t1 : tget t 1 = iv sum
  t6 : tget t 6 = iv (sumL cs)
  t8 : tget t 8 = .slice (some ⟨b, 0, none⟩) cs.length cs.length
  t9 : tget t 9 = iv (leftN cs sum : Int)
  t11 : tget t 11 = iv (k : Int)
  t12 : tget t 12 = iv (cnt (fun j => prec (rest cs sum (sumL cs)) j k) m : Int)
  t13 : tget t 13 = iv (m : Int)
  hm : m ≤ cs.length
theorem monB_cons (a : Int) (l : List Int) : monB (a :: l) = (inB a 0 100000 && monB l) := rfl
theorem cnt_bnd (s : Nat → Bool) : ∀ n, cnt s n ≤ n
  | 0 => Nat.le_refl _
  | n + 1 => by
    have := cnt_bnd s n
    unfold cnt
    cases s n <;> simp <;> omega
set_option maxHeartbeats 16000000 in
theorem refParts_y (S : Ev.Steps Try.prog pr R) (hoff : Off pr) (h0 : AHeap) (cv : Value) (cs : List Int) (hc : IAt h0 cv cs) (hsz : cs.length ≤ 9) (sum : Int) :
    Brings Try.prog R 12 [cv, iv sum] h0 fun u h => PartsAt 0 cs sum u h := by
  refine brings_of (fn := Try.f12) (c := (Try.f12.body).getD .skip) (by kernel_rfl) rfl (by kernel_rfl) rfl (fun K hK => ?_)
  generalize hF : finish Try.prog Try.f12 K = KF
  simp only [Try.f12, Option.getD_some, argsT, setArgs, fV1_eq, T.setK_eq, id]
  have hlen := fun t h1 o => iv_len hc t h1 o
  have hbad : ∀ n : Int, faultP cs sum = n → n ≠ 0 → ∀ g, Kp h0 g → K (.tuple ⟨[nl, iv n]⟩) g = true := fun n hn hz g hk => hK _ _ hk ⟨nl, by rw [hn], by rw [if_neg (by omega)]; exact nlAt g⟩
  have hgood : faultP cs sum = 0 → ∀ v g, Kp h0 g → IAt g v (partsP cs sum) → K (.tuple ⟨[v, iv 0]⟩) g = true := fun hz v g hk hv => hK _ _ hk ⟨v, by rw [hz], by rw [if_pos hz]; exact hv⟩
  clear hK
  repeat refine S.seq ?_
  refine S.region ?_
  simp (disch := first | omega | (simp only [add_nx, upd_nx] <;> omega) | decide) only [rUz, ↓reduceIte, Nat.reduceEqDiff, Nat.reduceAdd]
  cases h1 : decide (4 < (cs.length : Int)) with
  | true =>
    repeat refine S.seq ?_
    refine S.region ?_
    simp (disch := first | omega | (simp only [add_nx, upd_nx] <;> omega) | decide) only [rUz, ↓reduceIte, Nat.reduceEqDiff, Nat.reduceAdd, hlen, h1]
    repeat refine S.seq ?_
    refine S.cond (v := true) (by first | rfl | (simp (disch := first | omega | (simp only [add_nx, upd_nx] <;> omega) | decide) only [rUz, ↓reduceIte, Nat.reduceEqDiff, Nat.reduceAdd] <;> rfl)) (fun _ => ?_) (fun e => by cases e)
    repeat refine S.seq ?_
    refine S.region ?_
    simp (disch := first | omega | (simp only [add_nx, upd_nx] <;> omega) | decide) only [rUz, ↓reduceIte, Nat.reduceEqDiff, Nat.reduceAdd]
    refine S.ret ?_
    try simp only [seqK_ret, blockK_ret]
    subst hF
    simp only [finish, endMarks]
    rw [show Try.f12.results.toList = [.tmp 4, .tmp 5] from rfl]
    simp (disch := first | omega | (simp only [add_nx, upd_nx] <;> omega) | decide) only [resA, ev_tmp, tget_ne, tget_eq, get_ne, get_eq, upd_eq, upd_ne, ag_eq, ag_ne, result1]
    exact hbad 3 (by rw [faultP, h1]; rfl) (by omega) _ Kp.refl
  | false =>
  have h1' := of_decide_eq_false h1
  repeat refine S.seq ?_
  refine S.region ?_
  simp (disch := first | omega | (simp only [add_nx, upd_nx] <;> omega) | decide) only [rUz, ↓reduceIte, Nat.reduceEqDiff, Nat.reduceAdd, hlen, h1]
  repeat refine S.seq ?_
  refine S.cond (v := false) (by first | rfl | (simp (disch := first | omega | (simp only [add_nx, upd_nx] <;> omega) | decide) only [rUz, ↓reduceIte, Nat.reduceEqDiff, Nat.reduceAdd] <;> rfl)) (fun e => by cases e) (fun _ => ?_)
  repeat refine S.seq ?_
  refine S.skip ?_
  simp (disch := first | omega | (simp only [add_nx, upd_nx] <;> omega) | decide) only [rUz, ↓reduceIte, Nat.reduceEqDiff, Nat.reduceAdd]
  repeat refine S.seq ?_
  refine S.region ?_
  simp (disch := first | omega | (simp only [add_nx, upd_nx] <;> omega) | decide) only [rUz, ↓reduceIte, Nat.reduceEqDiff, Nat.reduceAdd]
  repeat refine S.seq ?_
  refine S.region ?_
  simp (disch := first | omega | (simp only [add_nx, upd_nx] <;> omega) | decide) only [rUz, ↓reduceIte, Nat.reduceEqDiff, Nat.reduceAdd]
  repeat refine S.seq ?_
  refine S.block ?_
  refine S.loop (ι := Nat) (IRa cv cs sum h0) (fun k => cs.length - k) ?_ 0 _ _ ?_
  rotate_left
  · refine ⟨rfl, ?_, ?_, ?_, ?_, rfl, fun x hx => by simp at hx, Nat.zero_le _⟩
    all_goals (first | rfl | (simp (disch := first | omega | (simp only [add_nx, upd_nx] <;> omega) | decide) only [rUz, ↓reduceIte, Nat.reduceEqDiff, Nat.reduceAdd]; done) | (simp (disch := first | omega | (simp only [add_nx, upd_nx] <;> omega) | decide) only [rUz, ↓reduceIte, Nat.reduceEqDiff, Nat.reduceAdd]; rfl))
  intro k t h ⟨hh, t0, t1, t6, t7, hm, hb, hk⟩ K' hn he
  subst hh
  repeat refine S.seq ?_
  refine S.region ?_
  simp (disch := first | omega | (simp only [add_nx, upd_nx] <;> omega) | decide) only [rUz, ↓reduceIte, Nat.reduceEqDiff, Nat.reduceAdd, t0, t7, hlen]
  repeat refine S.seq ?_
  refine S.cond (v := decide ((k : Int) < (cs.length : Int))) (by first | rfl | (simp (disch := first | omega | (simp only [add_nx, upd_nx] <;> omega) | decide) only [rUz, ↓reduceIte, Nat.reduceEqDiff, Nat.reduceAdd] <;> rfl)) (fun e => ?_) (fun e => ?_)
  · have hkn : k < cs.length := by have := of_decide_eq_true e; omega
    obtain ⟨b1, f1, w1, q1, q2, q3, q4⟩ := hc.idx slI s3' hkn
    have hs := sumL_take cs hkn
    have hb1 := sumL_bnd (by omega) hb
    have hl : ((cs.take k).length : Int) ≤ 4 := by rw [List.length_take]; omega
    have htk : cs.take (k + 1) = cs.take k ++ [cs[k]] := by rw [List.take_add_one, List.getElem?_eq_getElem hkn, Option.toList_some]
    rw [List.drop_eq_getElem_cons hkn, monB_cons] at hm
    generalize cs[k] = z at q4 hs hm htk
    generalize hS : sumL (cs.take k) = s at t6 hs hb1
    generalize (cs.take k).length = m at hb1 hl
    repeat refine S.seq ?_
    refine S.skip ?_
    simp (disch := first | omega | (simp only [add_nx, upd_nx] <;> omega) | decide) only [rUz, ↓reduceIte, Nat.reduceEqDiff, Nat.reduceAdd]
    repeat refine S.seq ?_
    refine S.block ?_
    repeat refine S.seq ?_
    refine S.region ?_
    simp (disch := first | omega | (simp only [add_nx, upd_nx] <;> omega) | decide) only [rUz, ↓reduceIte, Nat.reduceEqDiff, Nat.reduceAdd, t0, t7, q1, q3, p3, q4]
    refine wr_brings (fid := 36) (first := #[]) (captured := #[]) (Post := fun v g => v = .bool (inB z 0 100000) ∧ g = h) rfl (hoff _ _ _ rfl) (by simp (disch := first | omega | (simp only [add_nx, upd_nx] <;> omega) | decide) only [rUz, ↓reduceIte, Nat.reduceEqDiff, Nat.reduceAdd]; exact in_y S h z 0 100000) ?_
    rintro u g - ⟨rfl, rfl⟩
    cases hz : inB z 0 100000 with
    | false =>
      rw [hz, Bool.false_and] at hm
      simp (disch := first | omega | (simp only [add_nx, upd_nx] <;> omega) | decide) only [rUz, ↓reduceIte, Nat.reduceEqDiff, Nat.reduceAdd, un_not, hz, Bool.not_false]
      repeat refine S.seq ?_
      refine S.cond (v := true) (by first | rfl | (simp (disch := first | omega | (simp only [add_nx, upd_nx] <;> omega) | decide) only [rUz, ↓reduceIte, Nat.reduceEqDiff, Nat.reduceAdd] <;> rfl)) (fun _ => ?_) (fun e => by cases e)
      repeat refine S.seq ?_
      refine S.region ?_
      simp (disch := first | omega | (simp only [add_nx, upd_nx] <;> omega) | decide) only [rUz, ↓reduceIte, Nat.reduceEqDiff, Nat.reduceAdd]
      refine S.ret ?_
      simp only [seqK_ret, blockK_ret]
      refine he _ _ _ _ (fun e => by cases e) ?_
      try simp only [seqK_ret, blockK_ret]
      subst hF
      simp only [finish, endMarks]
      rw [show Try.f12.results.toList = [.tmp 4, .tmp 5] from rfl]
      simp (disch := first | omega | (simp only [add_nx, upd_nx] <;> omega) | decide) only [resA, ev_tmp, tget_ne, tget_eq, get_ne, get_eq, upd_eq, upd_ne, ag_eq, ag_ne, result1]
      exact hbad 1 (by rw [faultP, h1, hm]; rfl) (by omega) _ Kp.refl
    | true =>
      rw [hz, Bool.true_and] at hm
      have hz' := inB_iff.1 hz
      simp (disch := first | omega | (simp only [add_nx, upd_nx] <;> omega) | decide) only [rUz, ↓reduceIte, Nat.reduceEqDiff, Nat.reduceAdd, un_not, hz, Bool.not_true]
      repeat refine S.seq ?_
      refine S.cond (v := false) (by first | rfl | (simp (disch := first | omega | (simp only [add_nx, upd_nx] <;> omega) | decide) only [rUz, ↓reduceIte, Nat.reduceEqDiff, Nat.reduceAdd] <;> rfl)) (fun e => by cases e) (fun _ => ?_)
      repeat refine S.seq ?_
      refine S.skip ?_
      simp (disch := first | omega | (simp only [add_nx, upd_nx] <;> omega) | decide) only [rUz, ↓reduceIte, Nat.reduceEqDiff, Nat.reduceAdd]
      repeat refine S.seq ?_
      refine S.region ?_
      simp (disch := first | omega | (simp only [add_nx, upd_nx] <;> omega) | decide) only [rUz, ↓reduceIte, Nat.reduceEqDiff, Nat.reduceAdd, t0, t6, t7, q1, q3, p3, q4]
      repeat refine S.seq ?_
      refine S.region ?_
      simp (disch := first | omega | (simp only [add_nx, upd_nx] <;> omega) | decide) only [rUz, ↓reduceIte, Nat.reduceEqDiff, Nat.reduceAdd, t7]
      refine hn (k + 1) _ _ (by omega) ⟨rfl, ?_, ?_, ?_, ?_, hm, fun x hx => ?_, by omega⟩
      rotate_right
      · rw [htk, List.mem_append, List.mem_singleton] at hx
        rcases hx with hx | rfl
        · exact hb x hx
        · exact hz'
      all_goals (first | rfl | (simp (disch := first | omega | (simp only [add_nx, upd_nx] <;> omega) | decide) only [rUz, ↓reduceIte, Nat.reduceEqDiff, Nat.reduceAdd, t0, t1, hs]; done) | (simp (disch := first | omega | (simp only [add_nx, upd_nx] <;> omega) | decide) only [rUz, ↓reduceIte, Nat.reduceEqDiff, Nat.reduceAdd, t0, t1, hs]; rfl))
  have hkn : k = cs.length := by have := of_decide_eq_false e; omega
  subst hkn
  rw [List.take_of_length_le (Nat.le_refl _)] at t6 hb
  rw [List.drop_of_length_le (Nat.le_refl _)] at hm
  have hmt : monB cs = true := hm
  have hsb := sumL_bnd (by omega) hb
  have hsb2 : sumL cs ≤ 400000 := by omega
  refine S.exit (he _ _ _ _ (fun e => by cases e) ?_)
  simp (disch := first | omega | (simp only [add_nx, upd_nx] <;> omega) | decide) only [rUz, ↓reduceIte, Nat.reduceEqDiff, Nat.reduceAdd]
  clear hn he K' e hm t7 hk
  by_cases h2 : sumL cs = 0
  · have hd : decide (sumL cs = 0) = true := decide_eq_true h2
    repeat refine S.seq ?_
    refine S.region ?_
    simp (disch := first | omega | (simp only [add_nx, upd_nx] <;> omega) | decide) only [rUz, ↓reduceIte, Nat.reduceEqDiff, Nat.reduceAdd, t6, hd]
    repeat refine S.seq ?_
    refine S.cond (v := true) (by first | rfl | (simp (disch := first | omega | (simp only [add_nx, upd_nx] <;> omega) | decide) only [rUz, ↓reduceIte, Nat.reduceEqDiff, Nat.reduceAdd] <;> rfl)) (fun _ => ?_) (fun e => by cases e)
    repeat refine S.seq ?_
    refine S.region ?_
    simp (disch := first | omega | (simp only [add_nx, upd_nx] <;> omega) | decide) only [rUz, ↓reduceIte, Nat.reduceEqDiff, Nat.reduceAdd]
    refine S.ret ?_
    try simp only [seqK_ret, blockK_ret]
    subst hF
    simp only [finish, endMarks]
    rw [show Try.f12.results.toList = [.tmp 4, .tmp 5] from rfl]
    simp (disch := first | omega | (simp only [add_nx, upd_nx] <;> omega) | decide) only [resA, ev_tmp, tget_ne, tget_eq, get_ne, get_eq, upd_eq, upd_ne, ag_eq, ag_ne, result1]
    exact hbad 1 (by rw [faultP, h1, hmt, decide_eq_false (by omega : ¬ 0 < sumL cs)]; rfl) (by omega) _ Kp.refl
  have hd : decide (sumL cs = 0) = false := decide_eq_false h2
  have hd0 : decide (0 < sumL cs) = true := decide_eq_true (by omega)
  repeat refine S.seq ?_
  refine S.region ?_
  simp (disch := first | omega | (simp only [add_nx, upd_nx] <;> omega) | decide) only [rUz, ↓reduceIte, Nat.reduceEqDiff, Nat.reduceAdd, t6, hd]
  repeat refine S.seq ?_
  refine S.cond (v := false) (by first | rfl | (simp (disch := first | omega | (simp only [add_nx, upd_nx] <;> omega) | decide) only [rUz, ↓reduceIte, Nat.reduceEqDiff, Nat.reduceAdd] <;> rfl)) (fun e => by cases e) (fun _ => ?_)
  repeat refine S.seq ?_
  refine S.skip ?_
  simp (disch := first | omega | (simp only [add_nx, upd_nx] <;> omega) | decide) only [rUz, ↓reduceIte, Nat.reduceEqDiff, Nat.reduceAdd]
  repeat refine S.seq ?_
  refine S.region ?_
  simp (disch := first | omega | (simp only [add_nx, upd_nx] <;> omega) | decide) only [rUz, ↓reduceIte, Nat.reduceEqDiff, Nat.reduceAdd, t1, t6]
  refine wr_brings (fid := 36) (first := #[]) (captured := #[]) (Post := fun v g => v = .bool (inB sum 0 (sumL cs)) ∧ g = h) rfl (hoff _ _ _ rfl) (by simp (disch := first | omega | (simp only [add_nx, upd_nx] <;> omega) | decide) only [rUz, ↓reduceIte, Nat.reduceEqDiff, Nat.reduceAdd]; exact in_y S h sum 0 (sumL cs)) ?_
  rintro u g - ⟨rfl, rfl⟩
  cases h3 : inB sum 0 (sumL cs) with
  | false =>
    simp (disch := first | omega | (simp only [add_nx, upd_nx] <;> omega) | decide) only [rUz, ↓reduceIte, Nat.reduceEqDiff, Nat.reduceAdd, un_not, h3, Bool.not_false]
    repeat refine S.seq ?_
    refine S.cond (v := true) (by first | rfl | (simp (disch := first | omega | (simp only [add_nx, upd_nx] <;> omega) | decide) only [rUz, ↓reduceIte, Nat.reduceEqDiff, Nat.reduceAdd] <;> rfl)) (fun _ => ?_) (fun e => by cases e)
    repeat refine S.seq ?_
    refine S.region ?_
    simp (disch := first | omega | (simp only [add_nx, upd_nx] <;> omega) | decide) only [rUz, ↓reduceIte, Nat.reduceEqDiff, Nat.reduceAdd]
    refine S.ret ?_
    try simp only [seqK_ret, blockK_ret]
    subst hF
    simp only [finish, endMarks]
    rw [show Try.f12.results.toList = [.tmp 4, .tmp 5] from rfl]
    simp (disch := first | omega | (simp only [add_nx, upd_nx] <;> omega) | decide) only [resA, ev_tmp, tget_ne, tget_eq, get_ne, get_eq, upd_eq, upd_ne, ag_eq, ag_ne, result1]
    exact hbad 2 (by rw [faultP, h1, hmt, hd0, h3]; rfl) (by omega) _ Kp.refl
  | true =>
  have hz : faultP cs sum = 0 := by rw [faultP, h1, hmt, hd0, h3]; rfl
  obtain ⟨_, hmm, ha⟩ := faultP0 hz
  have hT := ha.T
  have hs0 := ha.s0
  have hsT := ha.sT
  have lb : (base cs sum (sumL cs)).length = cs.length := by simp [base]
  have lr : (rest cs sum (sumL cs)).length = cs.length := by simp [rest]
  have hbb : ∀ x, x ∈ base cs sum (sumL cs) → 0 ≤ x ∧ x ≤ 100000 := fun x hx => by
    obtain ⟨i, hi, rfl⟩ := List.mem_iff_getElem.1 hx
    have hi' : i < cs.length := by omega
    obtain ⟨_, m3, m4⟩ := amts_bnd ha hmm hi'
    have : (base cs sum (sumL cs))[i] = (cs[i] * sum).tdiv (sumL cs) := by simp [base]
    omega
  simp (disch := first | omega | (simp only [add_nx, upd_nx] <;> omega) | decide) only [rUz, ↓reduceIte, Nat.reduceEqDiff, Nat.reduceAdd, un_not, h3, Bool.not_true]
  repeat refine S.seq ?_
  refine S.cond (v := false) (by first | rfl | (simp (disch := first | omega | (simp only [add_nx, upd_nx] <;> omega) | decide) only [rUz, ↓reduceIte, Nat.reduceEqDiff, Nat.reduceAdd] <;> rfl)) (fun e => by cases e) (fun _ => ?_)
  repeat refine S.seq ?_
  refine S.skip ?_
  simp (disch := first | omega | (simp only [add_nx, upd_nx] <;> omega) | decide) only [rUz, ↓reduceIte, Nat.reduceEqDiff, Nat.reduceAdd]
  repeat refine S.seq ?_
  refine S.region ?_
  simp (disch := first | omega | (simp only [add_nx, upd_nx] <;> omega) | decide) only [rUz, ↓reduceIte, Nat.reduceEqDiff, Nat.reduceAdd]
  repeat refine S.seq ?_
  refine S.region ?_
  simp (disch := first | omega | (simp only [add_nx, upd_nx] <;> omega) | decide) only [rUz, ↓reduceIte, Nat.reduceEqDiff, Nat.reduceAdd, t1]
  repeat refine S.seq ?_
  refine S.region ?_
  simp (disch := first | omega | (simp only [add_nx, upd_nx] <;> omega) | decide) only [rUz, ↓reduceIte, Nat.reduceEqDiff, Nat.reduceAdd]
  repeat refine S.seq ?_
  refine S.block ?_
  refine S.loop (ι := Nat) (IRb cv cs sum g) (fun k => cs.length - k) ?_ 0 _ _ ?_
  rotate_left
  · refine ⟨Kp.refl, ⟨nl, 0, .inl ⟨rfl, rfl⟩, ?_⟩, ?_, ?_, ?_, ?_, ?_, Nat.zero_le _⟩
    all_goals (first | rfl | (simp (disch := first | omega | (simp only [add_nx, upd_nx] <;> omega) | decide) only [rUz, ↓reduceIte, Nat.reduceEqDiff, Nat.reduceAdd, t0, t1, t6, List.take_zero, sumL_nil, Int.sub_zero]; done) | (simp (disch := first | omega | (simp only [add_nx, upd_nx] <;> omega) | decide) only [rUz, ↓reduceIte, Nat.reduceEqDiff, Nat.reduceAdd, t0, t1, t6, List.take_zero, sumL_nil, Int.sub_zero]; rfl))
  clear t0 t1 t6
  clear t
  intro k t h ⟨hkp, ⟨v, F, hap, t8⟩, t0, t1, t6, t9, t10, hk⟩ K' hn he
  have hnx := hkp.1
  repeat refine S.seq ?_
  refine S.region ?_
  simp (disch := first | omega | (simp only [add_nx, upd_nx] <;> omega) | decide) only [rUz, ↓reduceIte, Nat.reduceEqDiff, Nat.reduceAdd, t0, t10, hlen]
  repeat refine S.seq ?_
  refine S.cond (v := decide ((k : Int) < (cs.length : Int))) (by first | rfl | (simp (disch := first | omega | (simp only [add_nx, upd_nx] <;> omega) | decide) only [rUz, ↓reduceIte, Nat.reduceEqDiff, Nat.reduceAdd] <;> rfl)) (fun e => ?_) (fun e => ?_)
  · have hkn : k < cs.length := by have := of_decide_eq_true e; omega
    obtain ⟨b1, f1, w1, q1, q2, q3, q4⟩ := (hc.mono hkp).idx slI s3' hkn
    obtain ⟨⟨m1, m2⟩, m3, m4⟩ := amts_bnd ha hmm hkn
    have hkb : k < (base cs sum (sumL cs)).length := by omega
    have g6 : (base cs sum (sumL cs))[k] = (cs[k] * sum).tdiv (sumL cs) := by simp [base]
    have htk : (base cs sum (sumL cs)).take (k + 1) = (base cs sum (sumL cs)).take k ++ [(base cs sum (sumL cs))[k]] := by rw [List.take_add_one, List.getElem?_eq_getElem hkb, Option.toList_some]
    have hst := sumL_take _ hkb
    have hb1 := sumL_bnd (by omega) (take_bnd hbb k)
    have hl : (((base cs sum (sumL cs)).take k).length : Int) ≤ 4 := by rw [List.length_take]; omega
    rw [g6] at htk hst
    clear g6
    generalize cs[k] = a at q4 m1 m2 m3 m4 htk hst
    generalize hD : a * sum = D at m1 m2 m3 m4 htk hst
    obtain ⟨q, hq⟩ : ∃ q, q = D.tdiv (sumL cs) := ⟨_, rfl⟩
    have hD2 : D ≤ 40000000000 := by omega
    have hi1 : i1 ((base cs sum (sumL cs)).take (k + 1)) = i1 ((base cs sum (sumL cs)).take k) ++ [[iv q]] := by rw [htk, i1, List.map_append, ← hq]; rfl
    have hln : ((base cs sum (sumL cs)).take (k + 1)).length = k + 1 := by rw [List.length_take]; omega
    have hgk : ∀ (hlt : k < ((base cs sum (sumL cs)).take (k + 1)).length), ((base cs sum (sumL cs)).take (k + 1))[k] = q := fun hlt => by
      have : ((base cs sum (sumL cs)).take (k + 1))[k]? = some q := by rw [htk, ← hq, List.getElem?_append_right (by rw [List.length_take]; omega), List.length_take, Nat.min_eq_left (by omega), Nat.sub_self]; rfl
      rw [List.getElem?_eq_getElem hlt] at this
      exact Option.some.inj this
    rw [← hq] at m3 m4 hst
    generalize hL : (base cs sum (sumL cs)).take k = L at hap t9 hi1 hst hb1 hl
    have hLl : L.length = k := by rw [← hL, List.length_take]; omega
    clear htk hL
    repeat refine S.seq ?_
    refine S.skip ?_
    simp (disch := first | omega | (simp only [add_nx, upd_nx] <;> omega) | decide) only [rUz, ↓reduceIte, Nat.reduceEqDiff, Nat.reduceAdd]
    repeat refine S.seq ?_
    refine S.block ?_
    repeat refine S.seq ?_
    refine S.region ?_
    simp (disch := first | omega | (simp only [add_nx, upd_nx] <;> omega) | decide) only [rUz, ↓reduceIte, Nat.reduceEqDiff, Nat.reduceAdd, t0, t1, t6, t8, t10, q1, q3, p3, q4, hD, w_buildSlice, w_append]
    refine optR_of' (bin_quo (i := D) (j := sumL cs) (by simp (disch := first | omega | (simp only [add_nx, upd_nx] <;> omega) | decide) only [rUz, ↓reduceIte, Nat.reduceEqDiff, Nat.reduceAdd]) (by simp (disch := first | omega | (simp only [add_nx, upd_nx] <;> omega) | decide) only [rUz, ↓reduceIte, Nat.reduceEqDiff, Nat.reduceAdd]) (by omega) (by omega) (by omega)) ?_
    rw [← hq]
    clear hq
    simp (disch := first | omega | (simp only [add_nx, upd_nx] <;> omega) | decide) only [rUz, ↓reduceIte, Nat.reduceEqDiff, Nat.reduceAdd, w_buildSlice, w_append]
    refine wr_lit1 slI s3' z3 rfl (by omega) (u := iv q) (l := [iv q]) (by simp (disch := first | omega | (simp only [add_nx, upd_nx] <;> omega) | decide) only [rUz, ↓reduceIte, Nat.reduceEqDiff, Nat.reduceAdd]) rfl rfl ?_
    simp (disch := first | omega | (simp only [add_nx, upd_nx] <;> omega) | decide) only [rUz, ↓reduceIte, Nat.reduceEqDiff, Nat.reduceAdd, w_append]
    refine wr_append slI uI (v := v) (bx := h.nx) (cx := 1) (by simp (disch := first | omega | (simp only [add_nx, upd_nx] <;> omega) | decide) only [rUz, ↓reduceIte, Nat.reduceEqDiff, Nat.reduceAdd]) (by simp (disch := first | omega | (simp only [add_nx, upd_nx] <;> omega) | decide) only [rUz, ↓reduceIte, Nat.reduceEqDiff, Nat.reduceAdd]) (hap.mono Kp.refl.add) (by show g.nx ≤ h.nx + 1; omega) s3' rfl (by omega) (ag_eq rfl) nI (by rw [List.length_map]; show _ < 1000000; omega) ?_
    intro v3 h3 F3 x1 x2 x3 x4 x5
    rw [← hi1] at x1
    have hkp3 : Kp g h3 := x2.kp (Nat.le_refl _) hkp.add
    have hia : IAt h3 v3 ((base cs sum (sumL cs)).take (k + 1)) := SlAt.ints x1.at
    obtain ⟨b3, f3, w3, r1, r2, r3, r4⟩ := hia.idx slI s3' (i := k) (by omega)
    rw [hgk] at r4
    simp (disch := first | omega | (simp only [add_nx, upd_nx] <;> omega) | decide) only [rUz, ↓reduceIte, Nat.reduceEqDiff, Nat.reduceAdd]
    repeat refine S.seq ?_
    refine S.region ?_
    simp (disch := first | omega | (simp only [add_nx, upd_nx] <;> omega) | decide) only [rUz, ↓reduceIte, Nat.reduceEqDiff, Nat.reduceAdd, t9, t10, r1, r3, p3, r4]
    repeat refine S.seq ?_
    refine S.region ?_
    simp (disch := first | omega | (simp only [add_nx, upd_nx] <;> omega) | decide) only [rUz, ↓reduceIte, Nat.reduceEqDiff, Nat.reduceAdd, t10]
    refine hn (k + 1) _ _ (by omega) ⟨hkp3, ⟨v3, F3, x1, ?_⟩, ?_, ?_, ?_, ?_, ?_, by omega⟩
    rotate_left 4
    · simp (disch := first | omega | (simp only [add_nx, upd_nx] <;> omega) | decide) only [rUz, ↓reduceIte, Nat.reduceEqDiff, Nat.reduceAdd]
      rw [hst]
      congr 1
      omega
    · all_goals (first | rfl | (simp (disch := first | omega | (simp only [add_nx, upd_nx] <;> omega) | decide) only [rUz, ↓reduceIte, Nat.reduceEqDiff, Nat.reduceAdd]; done) | (simp (disch := first | omega | (simp only [add_nx, upd_nx] <;> omega) | decide) only [rUz, ↓reduceIte, Nat.reduceEqDiff, Nat.reduceAdd]; rfl))
    all_goals (first | rfl | (simp (disch := first | omega | (simp only [add_nx, upd_nx] <;> omega) | decide) only [rUz, ↓reduceIte, Nat.reduceEqDiff, Nat.reduceAdd, t0, t1, t6]; done) | (simp (disch := first | omega | (simp only [add_nx, upd_nx] <;> omega) | decide) only [rUz, ↓reduceIte, Nat.reduceEqDiff, Nat.reduceAdd, t0, t1, t6]; rfl))
  have hkn : k = cs.length := by have := of_decide_eq_false e; omega
  subst hkn
  rw [show List.take cs.length (base cs sum (sumL cs)) = base cs sum (sumL cs) from by rw [← lb]; exact List.take_of_length_le (Nat.le_refl _)] at t9 hap
  rw [← left_nn ha] at t9
  have hne : cs ≠ [] := fun e => by rw [e, sumL_nil] at hT; omega
  obtain ⟨b, rfl, own⟩ := App.ownF hap (fun e => hne (List.length_eq_zero_iff.1 (by rw [← lb, e]; rfl)))
  rw [lb] at t8
  rw [← partsK_zero] at own
  refine S.exit (he _ _ _ _ (fun e => by cases e) ?_)
  simp (disch := first | omega | (simp only [add_nx, upd_nx] <;> omega) | decide) only [rUz, ↓reduceIte, Nat.reduceEqDiff, Nat.reduceAdd]
  clear hn he K' e t10 hk hap
  repeat refine S.seq ?_
  refine S.region ?_
  simp (disch := first | omega | (simp only [add_nx, upd_nx] <;> omega) | decide) only [rUz, ↓reduceIte, Nat.reduceEqDiff, Nat.reduceAdd]
  repeat refine S.seq ?_
  refine S.block ?_
  refine S.loop (ι := Nat) (IRc cv cs sum g b F) (fun k => cs.length - k) ?_ 0 _ _ ?_
  rotate_left
  · refine ⟨hkp, own, ?_, ?_, ?_, ?_, ?_, ?_, Nat.zero_le _⟩
    all_goals (first | rfl | (simp (disch := first | omega | (simp only [add_nx, upd_nx] <;> omega) | decide) only [rUz, ↓reduceIte, Nat.reduceEqDiff, Nat.reduceAdd, t0, t1, t6, t8, t9]; done) | (simp (disch := first | omega | (simp only [add_nx, upd_nx] <;> omega) | decide) only [rUz, ↓reduceIte, Nat.reduceEqDiff, Nat.reduceAdd, t0, t1, t6, t8, t9]; rfl))
  clear t0 t1 t6 t8 t9 own hkp hnx
  clear t h
  intro k t h ⟨hkp, own, t0, t1, t6, t8, t9, t11, hk⟩ K' hn he
  repeat refine S.seq ?_
  refine S.region ?_
  simp (disch := first | omega | (simp only [add_nx, upd_nx] <;> omega) | decide) only [rUz, ↓reduceIte, Nat.reduceEqDiff, Nat.reduceAdd, t0, t11, hlen]
  repeat refine S.seq ?_
  refine S.cond (v := decide ((k : Int) < (cs.length : Int))) (by first | rfl | (simp (disch := first | omega | (simp only [add_nx, upd_nx] <;> omega) | decide) only [rUz, ↓reduceIte, Nat.reduceEqDiff, Nat.reduceAdd] <;> rfl)) (fun e => ?_) (fun e => ?_)
  · have hkn : k < cs.length := by have := of_decide_eq_true e; omega
    have hps := partsK_succ cs sum hkn
    repeat refine S.seq ?_
    refine S.skip ?_
    simp (disch := first | omega | (simp only [add_nx, upd_nx] <;> omega) | decide) only [rUz, ↓reduceIte, Nat.reduceEqDiff, Nat.reduceAdd]
    repeat refine S.seq ?_
    refine S.block ?_
    repeat refine S.seq ?_
    refine S.region ?_
    simp (disch := first | omega | (simp only [add_nx, upd_nx] <;> omega) | decide) only [rUz, ↓reduceIte, Nat.reduceEqDiff, Nat.reduceAdd]
    repeat refine S.seq ?_
    refine S.region ?_
    simp (disch := first | omega | (simp only [add_nx, upd_nx] <;> omega) | decide) only [rUz, ↓reduceIte, Nat.reduceEqDiff, Nat.reduceAdd]
    repeat refine S.seq ?_
    refine S.block ?_
    refine S.loop (ι := Nat) (IRd cv cs sum h b k) (fun m => cs.length - m) ?_ 0 _ _ ?_
    rotate_left
    · refine ⟨rfl, ?_, ?_, ?_, ?_, ?_, ?_, ?_, ?_, Nat.zero_le _⟩
      all_goals (first | rfl | (simp (disch := first | omega | (simp only [add_nx, upd_nx] <;> omega) | decide) only [rUz, ↓reduceIte, Nat.reduceEqDiff, Nat.reduceAdd, t0, t1, t6, t8, t9, t11, cnt]; done) | (simp (disch := first | omega | (simp only [add_nx, upd_nx] <;> omega) | decide) only [rUz, ↓reduceIte, Nat.reduceEqDiff, Nat.reduceAdd, t0, t1, t6, t8, t9, t11, cnt]; rfl))
    clear t0 t1 t6 t8 t9 t11 e
    clear t
    intro m t h' ⟨hh, t0, t1, t6, t8, t9, t11, t12, t13, hm⟩ K2 hn2 he2
    subst hh
    repeat refine S.seq ?_
    refine S.region ?_
    simp (disch := first | omega | (simp only [add_nx, upd_nx] <;> omega) | decide) only [rUz, ↓reduceIte, Nat.reduceEqDiff, Nat.reduceAdd, t0, t13, hlen]
    repeat refine S.seq ?_
    refine S.cond (v := decide ((m : Int) < (cs.length : Int))) (by first | rfl | (simp (disch := first | omega | (simp only [add_nx, upd_nx] <;> omega) | decide) only [rUz, ↓reduceIte, Nat.reduceEqDiff, Nat.reduceAdd] <;> rfl)) (fun e => ?_) (fun e => ?_)
    · have hmn : m < cs.length := by have := of_decide_eq_true e; omega
      obtain ⟨b1, f1, w1, q1, q2, q3, q4⟩ := (hc.mono hkp).idx slI s3' hmn
      obtain ⟨b2, f2, w2, r1, r2, r3, r4⟩ := (hc.mono hkp).idx slI s3' hkn
      obtain ⟨⟨m1, m2⟩, _⟩ := amts_bnd ha hmm hmn
      obtain ⟨⟨n1, n2⟩, _⟩ := amts_bnd ha hmm hkn
      have gm : (rest cs sum (sumL cs)).getD m 0 = (cs[m] * sum).tmod (sumL cs) := by rw [rest, getD_map _ _ (by simp), List.getD_eq_getElem?_getD, List.getElem?_eq_getElem hmn]; rfl
      have gk : (rest cs sum (sumL cs)).getD k 0 = (cs[k] * sum).tmod (sumL cs) := by rw [rest, getD_map _ _ (by simp), List.getD_eq_getElem?_getD, List.getElem?_eq_getElem hkn]; rfl
      have hcn : cnt (fun j => prec (rest cs sum (sumL cs)) j k) (m + 1) = cnt (fun j => prec (rest cs sum (sumL cs)) j k) m + (bif prec (rest cs sum (sumL cs)) m k then 1 else 0) := rfl
      have hcb := cnt_bnd (fun j => prec (rest cs sum (sumL cs)) j k) m
      have hpr : prec (rest cs sum (sumL cs)) m k = (decide ((cs[k] * sum).tmod (sumL cs) < (cs[m] * sum).tmod (sumL cs)) || decide ((cs[m] * sum).tmod (sumL cs) = (cs[k] * sum).tmod (sumL cs)) && decide (m < k)) := by rw [prec, gm, gk]
      clear gm gk
      generalize cs[m] = a1 at q4 m1 m2 hpr
      generalize cs[k] = a2 at r4 n1 n2 hpr
      generalize hD1 : a1 * sum = D1 at m1 m2 hpr
      generalize hD2 : a2 * sum = D2 at n1 n2 hpr
      obtain ⟨R1, hR1⟩ : ∃ z, z = D1.tmod (sumL cs) := ⟨_, rfl⟩
      obtain ⟨R2, hR2⟩ : ∃ z, z = D2.tmod (sumL cs) := ⟨_, rfl⟩
      rw [← hR1, ← hR2] at hpr
      have hdm : decide (m < k) = decide ((m : Int) < (k : Int)) := by simp
      rw [hdm] at hpr
      generalize prec (rest cs sum (sumL cs)) m k = p at hpr hcn
      repeat refine S.seq ?_
      refine S.skip ?_
      simp (disch := first | omega | (simp only [add_nx, upd_nx] <;> omega) | decide) only [rUz, ↓reduceIte, Nat.reduceEqDiff, Nat.reduceAdd]
      repeat refine S.seq ?_
      refine S.block ?_
      repeat refine S.seq ?_
      refine S.drawnL [(false, 0), (false, 0), (false, 3), (false, 7), (false, 0), (false, 31), (false, 0), (false, 127), (false, 0), (false, 0), (false, 768), (false, 1792), (false, 0), (false, 7936), (false, 0), (false, 32512), (false, 255), (false, 131071)] (by kernel_rfl) (by kernel_rfl) (by kernel_rfl) ?_
      simp (disch := first | omega | (simp only [add_nx, upd_nx] <;> omega) | decide) only [rUz, ↓reduceIte, Nat.reduceEqDiff, Nat.reduceAdd, rDz, infoL, Nat.reduceSub, t0, t1, t6, t11, t13, q1, q3, r1, r3, p3, q4, r4, hD1, hD2]
      refine drR_of' (bin_rem (i := D1) (j := sumL cs) (by simp (disch := first | omega | (simp only [add_nx, upd_nx] <;> omega) | decide) only [rUz, ↓reduceIte, Nat.reduceEqDiff, Nat.reduceAdd, rDz, infoL, Nat.reduceSub]) (by simp (disch := first | omega | (simp only [add_nx, upd_nx] <;> omega) | decide) only [rUz, ↓reduceIte, Nat.reduceEqDiff, Nat.reduceAdd, rDz, infoL, Nat.reduceSub]) (by omega)) ?_
      rw [← hR1]
      simp (disch := first | omega | (simp only [add_nx, upd_nx] <;> omega) | decide) only [rUz, ↓reduceIte, Nat.reduceEqDiff, Nat.reduceAdd, rDz, infoL, Nat.reduceSub, t0, t1, t6, t11, t13, q1, q3, r1, r3, p3, q4, r4, hD1, hD2]
      refine drR_of' (bin_rem (i := D2) (j := sumL cs) (by simp (disch := first | omega | (simp only [add_nx, upd_nx] <;> omega) | decide) only [rUz, ↓reduceIte, Nat.reduceEqDiff, Nat.reduceAdd, rDz, infoL, Nat.reduceSub]) (by simp (disch := first | omega | (simp only [add_nx, upd_nx] <;> omega) | decide) only [rUz, ↓reduceIte, Nat.reduceEqDiff, Nat.reduceAdd, rDz, infoL, Nat.reduceSub]) (by omega)) ?_
      rw [← hR2]
      simp (disch := first | omega | (simp only [add_nx, upd_nx] <;> omega) | decide) only [rUz, ↓reduceIte, Nat.reduceEqDiff, Nat.reduceAdd, rDz, infoL, Nat.reduceSub]
      clear hR1 hR2
      repeat refine S.seq ?_
      refine S.region ?_
      generalize hJJ : (fun (t : T Value) (h : AHeap) => _) = KJ
      suffices hJ : ∀ t, tget t 0 = cv → tget t 1 = iv sum → tget t 6 = iv (sumL cs) → tget t 8 = .slice (some ⟨b, 0, none⟩) cs.length cs.length → tget t 9 = iv (leftN cs sum : Int) → tget t 11 = iv (k : Int) → tget t 12 = iv (cnt (fun j => prec (rest cs sum (sumL cs)) j k) m : Int) → tget t 13 = iv (m : Int) → tget t 107 = .bool p → KJ t h' = true by
        clear hJJ hn2 he2
        cases c1 : decide (R2 < R1) with
        | true =>
          rw [c1, Bool.true_or] at hpr
          simp (disch := first | omega | (simp only [add_nx, upd_nx] <;> omega) | decide) only [rUz, ↓reduceIte, Nat.reduceEqDiff, Nat.reduceAdd, c1]
          refine hJ _ ?_ ?_ ?_ ?_ ?_ ?_ ?_ ?_ ?_
          all_goals (first | rfl | (simp (disch := first | omega | (simp only [add_nx, upd_nx] <;> omega) | decide) only [rUz, ↓reduceIte, Nat.reduceEqDiff, Nat.reduceAdd, t0, t1, t6, t8, t9, t11, t12, t13, hpr]; done) | (simp (disch := first | omega | (simp only [add_nx, upd_nx] <;> omega) | decide) only [rUz, ↓reduceIte, Nat.reduceEqDiff, Nat.reduceAdd, t0, t1, t6, t8, t9, t11, t12, t13, hpr]; rfl))
        | false =>
          rw [c1, Bool.false_or] at hpr
          cases c2 : decide (R1 = R2) with
          | false =>
            rw [c2, Bool.false_and] at hpr
            simp (disch := first | omega | (simp only [add_nx, upd_nx] <;> omega) | decide) only [rUz, ↓reduceIte, Nat.reduceEqDiff, Nat.reduceAdd, c1, c2]
            refine hJ _ ?_ ?_ ?_ ?_ ?_ ?_ ?_ ?_ ?_
            all_goals (first | rfl | (simp (disch := first | omega | (simp only [add_nx, upd_nx] <;> omega) | decide) only [rUz, ↓reduceIte, Nat.reduceEqDiff, Nat.reduceAdd, t0, t1, t6, t8, t9, t11, t12, t13, hpr]; done) | (simp (disch := first | omega | (simp only [add_nx, upd_nx] <;> omega) | decide) only [rUz, ↓reduceIte, Nat.reduceEqDiff, Nat.reduceAdd, t0, t1, t6, t8, t9, t11, t12, t13, hpr]; rfl))
          | true =>
            rw [c2, Bool.true_and] at hpr
            simp (disch := first | omega | (simp only [add_nx, upd_nx] <;> omega) | decide) only [rUz, ↓reduceIte, Nat.reduceEqDiff, Nat.reduceAdd, c1, c2, t11, t13]
            refine hJ _ ?_ ?_ ?_ ?_ ?_ ?_ ?_ ?_ ?_
            all_goals (first | rfl | (simp (disch := first | omega | (simp only [add_nx, upd_nx] <;> omega) | decide) only [rUz, ↓reduceIte, Nat.reduceEqDiff, Nat.reduceAdd, t0, t1, t6, t8, t9, t11, t12, t13, hpr]; done) | (simp (disch := first | omega | (simp only [add_nx, upd_nx] <;> omega) | decide) only [rUz, ↓reduceIte, Nat.reduceEqDiff, Nat.reduceAdd, t0, t1, t6, t8, t9, t11, t12, t13, hpr]; rfl))
      clear t0 t1 t6 t8 t9 t11 t12 t13 q1 q3 r1 r3 q4 r4
      clear t
      intro t t0 t1 t6 t8 t9 t11 t12 t13 t107
      subst hJJ
      simp only [seqK_normal]
      cases p with
      | true =>
        rw [cond_true] at hcn
        repeat refine S.seq ?_
        refine S.cond (v := true) (by first | rfl | (simp (disch := first | omega | (simp only [add_nx, upd_nx] <;> omega) | decide) only [rUz, ↓reduceIte, Nat.reduceEqDiff, Nat.reduceAdd, t107] <;> rfl)) (fun _ => ?_) (fun e => by cases e)
        repeat refine S.seq ?_
        refine S.region ?_
        simp (disch := first | omega | (simp only [add_nx, upd_nx] <;> omega) | decide) only [rUz, ↓reduceIte, Nat.reduceEqDiff, Nat.reduceAdd, t12]
        repeat refine S.seq ?_
        refine S.region ?_
        simp (disch := first | omega | (simp only [add_nx, upd_nx] <;> omega) | decide) only [rUz, ↓reduceIte, Nat.reduceEqDiff, Nat.reduceAdd, t13]
        refine hn2 (m + 1) _ _ (by omega) ⟨rfl, ?_, ?_, ?_, ?_, ?_, ?_, ?_, ?_, by omega⟩
        all_goals (first | rfl | (simp (disch := first | omega | (simp only [add_nx, upd_nx] <;> omega) | decide) only [rUz, ↓reduceIte, Nat.reduceEqDiff, Nat.reduceAdd, t0, t1, t6, t8, t9, t11, t13, hcn]; done) | (simp (disch := first | omega | (simp only [add_nx, upd_nx] <;> omega) | decide) only [rUz, ↓reduceIte, Nat.reduceEqDiff, Nat.reduceAdd, t0, t1, t6, t8, t9, t11, t13, hcn]; rfl))
      | false =>
        rw [cond_false, Nat.add_zero] at hcn
        repeat refine S.seq ?_
        refine S.cond (v := false) (by first | rfl | (simp (disch := first | omega | (simp only [add_nx, upd_nx] <;> omega) | decide) only [rUz, ↓reduceIte, Nat.reduceEqDiff, Nat.reduceAdd, t107] <;> rfl)) (fun e => by cases e) (fun _ => ?_)
        repeat refine S.seq ?_
        refine S.skip ?_
        simp (disch := first | omega | (simp only [add_nx, upd_nx] <;> omega) | decide) only [rUz, ↓reduceIte, Nat.reduceEqDiff, Nat.reduceAdd]
        repeat refine S.seq ?_
        refine S.region ?_
        simp (disch := first | omega | (simp only [add_nx, upd_nx] <;> omega) | decide) only [rUz, ↓reduceIte, Nat.reduceEqDiff, Nat.reduceAdd, t13]
        refine hn2 (m + 1) _ _ (by omega) ⟨rfl, ?_, ?_, ?_, ?_, ?_, ?_, ?_, ?_, by omega⟩
        all_goals (first | rfl | (simp (disch := first | omega | (simp only [add_nx, upd_nx] <;> omega) | decide) only [rUz, ↓reduceIte, Nat.reduceEqDiff, Nat.reduceAdd, t0, t1, t6, t8, t9, t11, t12, t13, hcn]; done) | (simp (disch := first | omega | (simp only [add_nx, upd_nx] <;> omega) | decide) only [rUz, ↓reduceIte, Nat.reduceEqDiff, Nat.reduceAdd, t0, t1, t6, t8, t9, t11, t12, t13, hcn]; rfl))
    have hmn : m = cs.length := by have := of_decide_eq_false e; omega
    subst hmn
    refine S.exit (he2 _ _ _ _ (fun e => by cases e) ?_)
    simp (disch := first | omega | (simp only [add_nx, upd_nx] <;> omega) | decide) only [rUz, ↓reduceIte, Nat.reduceEqDiff, Nat.reduceAdd]
    clear hn2 he2 K2 e t13 hm
    have hbf : cnt (fun j => prec (rest cs sum (sumL cs)) j k) cs.length = befN (rest cs sum (sumL cs)) k := by unfold befN; rw [lr]
    rw [hbf] at t12
    by_cases hlt : befN (rest cs sum (sumL cs)) k < leftN cs sum
    · have hd4 : decide ((befN (rest cs sum (sumL cs)) k : Int) < (leftN cs sum : Int)) = true := decide_eq_true (by omega)
      rw [if_pos hlt] at hps
      have hx : 0 ≤ (partsK cs sum k).getD k 0 ∧ (partsK cs sum k).getD k 0 ≤ 100000 := by
        rw [partsK_get _ _ _ hkn, if_neg (by omega), Int.add_zero, List.getD_eq_getElem?_getD, List.getElem?_eq_getElem (by omega)]
        exact hbb _ (List.getElem_mem _)
      have hkl : k < (partsK cs sum k).length := by rw [partsK_len]; exact hkn
      have hgx : ((partsK cs sum k).map iv)[k]? = some (iv ((partsK cs sum k).getD k 0)) := by
        rw [List.getElem?_map, List.getD_eq_getElem?_getD, List.getElem?_eq_getElem hkl]; rfl
      have ik : ∀ q, rIndexAddr Try.prog 22 (.slice (some ⟨b, 0, none⟩) cs.length q) (iv (k : Int)) = some (.pointer (some ⟨b, k, none⟩)) := fun q => by rw [indexAddr_sl slI s3' hkn, Nat.zero_add, Nat.mul_one]
      obtain ⟨h2, hst, own', hsm⟩ := own.store (i := k) hkl ((partsK cs sum k).getD k 0 + 1)
      rw [← hps] at own'
      repeat refine S.seq ?_
      refine S.region ?_
      simp (disch := first | omega | (simp only [add_nx, upd_nx] <;> omega) | decide) only [rUz, ↓reduceIte, Nat.reduceEqDiff, Nat.reduceAdd, t9, t12, hd4]
      repeat refine S.seq ?_
      refine S.cond (v := true) (by first | rfl | (simp (disch := first | omega | (simp only [add_nx, upd_nx] <;> omega) | decide) only [rUz, ↓reduceIte, Nat.reduceEqDiff, Nat.reduceAdd] <;> rfl)) (fun _ => ?_) (fun e => by cases e)
      repeat refine S.seq ?_
      refine S.region ?_
      simp (disch := first | omega | (simp only [add_nx, upd_nx] <;> omega) | decide) only [rUz, ↓reduceIte, Nat.reduceEqDiff, Nat.reduceAdd, t8, t11, ik, own.2.2.1, p3, hgx]
      refine wr_storeF (by simp (disch := first | omega | (simp only [add_nx, upd_nx] <;> omega) | decide) only [rUz, ↓reduceIte, Nat.reduceEqDiff, Nat.reduceAdd]) (by simp (disch := first | omega | (simp only [add_nx, upd_nx] <;> omega) | decide) only [rUz, ↓reduceIte, Nat.reduceEqDiff, Nat.reduceAdd]) s3' hst ?_
      simp (disch := first | omega | (simp only [add_nx, upd_nx] <;> omega) | decide) only [rUz, ↓reduceIte, Nat.reduceEqDiff, Nat.reduceAdd]
      repeat refine S.seq ?_
      refine S.region ?_
      simp (disch := first | omega | (simp only [add_nx, upd_nx] <;> omega) | decide) only [rUz, ↓reduceIte, Nat.reduceEqDiff, Nat.reduceAdd, t11]
      refine hn (k + 1) _ _ (by omega) ⟨hsm.kp (Nat.le_refl _) hkp, own', ?_, ?_, ?_, ?_, ?_, ?_, by omega⟩
      all_goals (first | rfl | (simp (disch := first | omega | (simp only [add_nx, upd_nx] <;> omega) | decide) only [rUz, ↓reduceIte, Nat.reduceEqDiff, Nat.reduceAdd, t0, t1, t6, t8, t9]; done) | (simp (disch := first | omega | (simp only [add_nx, upd_nx] <;> omega) | decide) only [rUz, ↓reduceIte, Nat.reduceEqDiff, Nat.reduceAdd, t0, t1, t6, t8, t9]; rfl))
    · have hd4 : decide ((befN (rest cs sum (sumL cs)) k : Int) < (leftN cs sum : Int)) = false := decide_eq_false (by omega)
      rw [if_neg hlt] at hps
      repeat refine S.seq ?_
      refine S.region ?_
      simp (disch := first | omega | (simp only [add_nx, upd_nx] <;> omega) | decide) only [rUz, ↓reduceIte, Nat.reduceEqDiff, Nat.reduceAdd, t9, t12, hd4]
      repeat refine S.seq ?_
      refine S.cond (v := false) (by first | rfl | (simp (disch := first | omega | (simp only [add_nx, upd_nx] <;> omega) | decide) only [rUz, ↓reduceIte, Nat.reduceEqDiff, Nat.reduceAdd] <;> rfl)) (fun e => by cases e) (fun _ => ?_)
      repeat refine S.seq ?_
      refine S.skip ?_
      simp (disch := first | omega | (simp only [add_nx, upd_nx] <;> omega) | decide) only [rUz, ↓reduceIte, Nat.reduceEqDiff, Nat.reduceAdd]
      repeat refine S.seq ?_
      refine S.region ?_
      simp (disch := first | omega | (simp only [add_nx, upd_nx] <;> omega) | decide) only [rUz, ↓reduceIte, Nat.reduceEqDiff, Nat.reduceAdd, t11]
      refine hn (k + 1) _ _ (by omega) ⟨hkp, by rw [hps]; exact own, ?_, ?_, ?_, ?_, ?_, ?_, by omega⟩
      all_goals (first | rfl | (simp (disch := first | omega | (simp only [add_nx, upd_nx] <;> omega) | decide) only [rUz, ↓reduceIte, Nat.reduceEqDiff, Nat.reduceAdd, t0, t1, t6, t8, t9]; done) | (simp (disch := first | omega | (simp only [add_nx, upd_nx] <;> omega) | decide) only [rUz, ↓reduceIte, Nat.reduceEqDiff, Nat.reduceAdd, t0, t1, t6, t8, t9]; rfl))
  have hkn : k = cs.length := by have := of_decide_eq_false e; omega
  subst hkn
  rw [← parts_eq ha] at own
  refine S.exit (he _ _ _ _ (fun e => by cases e) ?_)
  simp (disch := first | omega | (simp only [add_nx, upd_nx] <;> omega) | decide) only [rUz, ↓reduceIte, Nat.reduceEqDiff, Nat.reduceAdd]
  repeat refine S.seq ?_
  refine S.region ?_
  simp (disch := first | omega | (simp only [add_nx, upd_nx] <;> omega) | decide) only [rUz, ↓reduceIte, Nat.reduceEqDiff, Nat.reduceAdd, t8]
  refine S.ret ?_
  try simp only [seqK_ret, blockK_ret]
  subst hF
  simp only [finish, endMarks]
  rw [show Try.f12.results.toList = [.tmp 4, .tmp 5] from rfl]
  simp (disch := first | omega | (simp only [add_nx, upd_nx] <;> omega) | decide) only [resA, ev_tmp, tget_ne, tget_eq, get_ne, get_eq, upd_eq, upd_ne, ag_eq, ag_ne, result1]
  refine hgood hz _ _ hkp ?_
  have := own.at
  rw [(parts_ok ha).len] at this
  exact this
end Go.Proofs.Mg
