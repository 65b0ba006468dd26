import Derived.Test.YtfbkgnojdngiiaaMg2
import Derived.Test.YtfbkgnojdngiiaaEvE
/- The index of the first of the greatest numbers. -/
namespace Go.Proofs.Mg
open Go Go.Ev
set_option linter.unusedSimpArgs false
variable {pr : Prim} {R : ExT}
structure IGo (cv : Value) (cs : List Int) (H : AHeap) (k : Nat) (t : T Value) (h : AHeap) : Prop where
  hh : h = H
  t0 : tget t 0 = cv
  t3 : tget t 3 = iv 0
  t8 : tget t 8 = cv
  t9 : tget t 9 = iv (cs.length : Int)
  t10 : tget t 10 = iv (k : Int)
  hg : greatG cs (cs.drop k) k = great cs
  hk : k ≤ cs.length
structure IGi (cv : Value) (cs : List Int) (n : Int) (k : Nat) (H : AHeap) (j : Nat) (t : T Value) (h : AHeap) : Prop where
  hh : h = H
  t0 : tget t 0 = cv
  t3 : tget t 3 = iv 0
  t4 : tget t 4 = iv (k : Int)
  t5 : tget t 5 = iv n
  t8 : tget t 8 = cv
  t9 : tget t 9 = iv (cs.length : Int)
  t10 : tget t 10 = iv (k : Int)
  t15 : tget t 15 = cv
  t16 : tget t 16 = iv (cs.length : Int)
  t17 : tget t 17 = iv (j : Int)
  hp : topB (cs.drop j) n = topB cs n
  hj : j ≤ cs.length
set_option maxHeartbeats 8000000 in
theorem great_y (S : Ev.Steps Try.prog pr R) (h0 : AHeap) (cv : Value) (cs : List Int) (hc : IAt h0 cv cs) (hsz : cs.length ≤ 10) :
    Brings Try.prog R 67 [cv] h0 fun u h => u = iv (great cs : Int) ∧ h = h0 := by
  refine brings_of (fn := Try.f67) (c := (Try.f67.body).getD .skip) (by kernel_rfl) rfl (by kernel_rfl) rfl (fun K hK => ?_)
  generalize hF : finish Try.prog Try.f67 K = KF
  simp only [Try.f67, Option.getD_some, argsT, setArgs, fV1_eq, T.setK_eq, id]
  have hlen := fun t h1 o => iv_len hc t h1 o
  repeat refine S.seq ?_
  refine S.region ?_
  simp (disch := first | omega | (simp only [add_nx, upd_nx] <;> omega) | decide) only [rUz, ↓reduceIte, Nat.reduceEqDiff, Nat.reduceAdd]
  repeat refine S.seq ?_
  refine S.scope ?_
  repeat refine S.seq ?_
  refine S.region ?_
  simp (disch := first | omega | (simp only [add_nx, upd_nx] <;> omega) | decide) only [rUz, ↓reduceIte, Nat.reduceEqDiff, Nat.reduceAdd]
  repeat refine S.seq ?_
  refine S.label ?_
  simp (disch := first | omega | (simp only [add_nx, upd_nx] <;> omega) | decide) only [rUz, ↓reduceIte, Nat.reduceEqDiff, Nat.reduceAdd]
  repeat refine S.seq ?_
  refine S.region ?_
  simp (disch := first | omega | (simp only [add_nx, upd_nx] <;> omega) | decide) only [rUz, ↓reduceIte, Nat.reduceEqDiff, Nat.reduceAdd, hlen]
  repeat refine S.seq ?_
  refine S.block ?_
  refine S.loop (ι := Nat) (IGo cv cs h0) (fun k => cs.length - k) ?_ 0 _ _ ?_
  rotate_left
  · refine ⟨rfl, ?_, ?_, ?_, ?_, ?_, rfl, Nat.zero_le _⟩
    all_goals (first | rfl | (simp (disch := first | omega | (simp only [add_nx, upd_nx] <;> omega) | decide) only [rUz, ↓reduceIte, Nat.reduceEqDiff, Nat.reduceAdd]; done) | (simp (disch := first | omega | (simp only [add_nx, upd_nx] <;> omega) | decide) only [rUz, ↓reduceIte, Nat.reduceEqDiff, Nat.reduceAdd]; rfl))
  intro k t h ⟨hh, t0, t3, t8, t9, t10, hg, hk⟩ K' hn he
  subst hh
  repeat refine S.seq ?_
  refine S.region ?_
  simp (disch := first | omega | (simp only [add_nx, upd_nx] <;> omega) | decide) only [rUz, ↓reduceIte, Nat.reduceEqDiff, Nat.reduceAdd, t9, t10]
  repeat refine S.seq ?_
  refine S.cond (v := decide ((k : Int) < (cs.length : Int))) (by first | rfl | (simp (disch := first | omega | (simp only [add_nx, upd_nx] <;> omega) | decide) only [rUz, ↓reduceIte, Nat.reduceEqDiff, Nat.reduceAdd] <;> rfl)) (fun e => ?_) (fun e => ?_)
  · have hkn : k < cs.length := by have := of_decide_eq_true e; omega
    obtain ⟨b1, f1, o1, q1, q2, q3, q4⟩ := hc.idx slI s3' hkn
    rw [List.drop_eq_getElem_cons hkn, greatG] at hg
    generalize cs[k] = n at q4 hg
    repeat refine S.seq ?_
    refine S.skip ?_
    simp (disch := first | omega | (simp only [add_nx, upd_nx] <;> omega) | decide) only [rUz, ↓reduceIte, Nat.reduceEqDiff, Nat.reduceAdd]
    repeat refine S.seq ?_
    refine S.block ?_
    repeat refine S.seq ?_
    refine S.region ?_
    simp (disch := first | omega | (simp only [add_nx, upd_nx] <;> omega) | decide) only [rUz, ↓reduceIte, Nat.reduceEqDiff, Nat.reduceAdd, t8, t10, q1, q3, p3, q4]
    repeat refine S.seq ?_
    refine S.region ?_
    simp (disch := first | omega | (simp only [add_nx, upd_nx] <;> omega) | decide) only [rUz, ↓reduceIte, Nat.reduceEqDiff, Nat.reduceAdd, t0, hlen]
    repeat refine S.seq ?_
    refine S.block ?_
    refine S.loop (ι := Nat) (IGi cv cs n k h) (fun j => cs.length - j) ?_ 0 _ _ ?_
    rotate_left
    · refine ⟨rfl, ?_, ?_, ?_, ?_, ?_, ?_, ?_, ?_, ?_, ?_, rfl, Nat.zero_le _⟩
      all_goals (first | rfl | (simp (disch := first | omega | (simp only [add_nx, upd_nx] <;> omega) | decide) only [rUz, ↓reduceIte, Nat.reduceEqDiff, Nat.reduceAdd, t0, t3, t8, t9, t10]; done) | (simp (disch := first | omega | (simp only [add_nx, upd_nx] <;> omega) | decide) only [rUz, ↓reduceIte, Nat.reduceEqDiff, Nat.reduceAdd, t0, t3, t8, t9, t10]; rfl))
    clear t0 t3 t8 t9 t10 q1 q3 q4 e
    clear t
    intro j t h' ⟨hh, t0, t3, t4, t5, t8, t9, t10, t15, t16, t17, hp, hj⟩ K2 hn2 he2
    subst hh
    repeat refine S.seq ?_
    refine S.region ?_
    simp (disch := first | omega | (simp only [add_nx, upd_nx] <;> omega) | decide) only [rUz, ↓reduceIte, Nat.reduceEqDiff, Nat.reduceAdd, t16, t17]
    repeat refine S.seq ?_
    refine S.cond (v := decide ((j : Int) < (cs.length : Int))) (by first | rfl | (simp (disch := first | omega | (simp only [add_nx, upd_nx] <;> omega) | decide) only [rUz, ↓reduceIte, Nat.reduceEqDiff, Nat.reduceAdd] <;> rfl)) (fun e => ?_) (fun e => ?_)
    · have hjn : j < cs.length := by have := of_decide_eq_true e; omega
      obtain ⟨b2, f2, o2, r1, r2, r3, r4⟩ := hc.idx slI s3' hjn
      rw [List.drop_eq_getElem_cons hjn, topB, List.all_cons] at hp
      generalize cs[j] = x at r4 hp
      repeat refine S.seq ?_
      refine S.skip ?_
      simp (disch := first | omega | (simp only [add_nx, upd_nx] <;> omega) | decide) only [rUz, ↓reduceIte, Nat.reduceEqDiff, Nat.reduceAdd]
      repeat refine S.seq ?_
      refine S.block ?_
      repeat refine S.seq ?_
      refine S.region ?_
      simp (disch := first | omega | (simp only [add_nx, upd_nx] <;> omega) | decide) only [rUz, ↓reduceIte, Nat.reduceEqDiff, Nat.reduceAdd, t15, t17, r1, r3, p3, r4]
      repeat refine S.seq ?_
      refine S.region ?_
      simp (disch := first | omega | (simp only [add_nx, upd_nx] <;> omega) | decide) only [rUz, ↓reduceIte, Nat.reduceEqDiff, Nat.reduceAdd, t5]
      repeat refine S.seq ?_
      refine S.cond (v := decide (n < x)) (by first | rfl | (simp (disch := first | omega | (simp only [add_nx, upd_nx] <;> omega) | decide) only [rUz, ↓reduceIte, Nat.reduceEqDiff, Nat.reduceAdd] <;> rfl)) (fun e => ?_) (fun e => ?_)
      · have hnx : n < x := of_decide_eq_true e
        rw [decide_eq_false (by omega), Bool.false_and] at hp
        rw [← hp, cond_false] at hg
        refine S.exit ?_
        simp (disch := first | omega | (simp only [add_nx, upd_nx] <;> omega) | decide) only [rUz, ↓reduceIte, Nat.reduceEqDiff, Nat.reduceAdd, blockK_out]
        refine he2 _ _ _ _ (fun e => by cases e) ?_
        simp (disch := first | omega | (simp only [add_nx, upd_nx] <;> omega) | decide) only [rUz, ↓reduceIte, Nat.reduceEqDiff, Nat.reduceAdd, blockK_out]
        repeat refine S.seq ?_
        refine S.region ?_
        simp (disch := first | omega | (simp only [add_nx, upd_nx] <;> omega) | decide) only [rUz, ↓reduceIte, Nat.reduceEqDiff, Nat.reduceAdd, t10]
        refine hn (k + 1) _ _ (by omega) ⟨rfl, ?_, ?_, ?_, ?_, ?_, hg, by omega⟩
        all_goals (first | rfl | (simp (disch := first | omega | (simp only [add_nx, upd_nx] <;> omega) | decide) only [rUz, ↓reduceIte, Nat.reduceEqDiff, Nat.reduceAdd, t0, t3, t8, t9]; done) | (simp (disch := first | omega | (simp only [add_nx, upd_nx] <;> omega) | decide) only [rUz, ↓reduceIte, Nat.reduceEqDiff, Nat.reduceAdd, t0, t3, t8, t9]; rfl))
      · have hnx : x ≤ n := by have := of_decide_eq_false e; omega
        rw [decide_eq_true hnx, Bool.true_and] at hp
        repeat refine S.seq ?_
        refine S.skip ?_
        simp (disch := first | omega | (simp only [add_nx, upd_nx] <;> omega) | decide) only [rUz, ↓reduceIte, Nat.reduceEqDiff, Nat.reduceAdd]
        repeat refine S.seq ?_
        refine S.region ?_
        simp (disch := first | omega | (simp only [add_nx, upd_nx] <;> omega) | decide) only [rUz, ↓reduceIte, Nat.reduceEqDiff, Nat.reduceAdd, t17]
        refine hn2 (j + 1) _ _ (by omega) ⟨rfl, ?_, ?_, ?_, ?_, ?_, ?_, ?_, ?_, ?_, ?_, hp, by omega⟩
        all_goals (first | rfl | (simp (disch := first | omega | (simp only [add_nx, upd_nx] <;> omega) | decide) only [rUz, ↓reduceIte, Nat.reduceEqDiff, Nat.reduceAdd, t0, t3, t4, t5, t8, t9, t10, t15, t16]; done) | (simp (disch := first | omega | (simp only [add_nx, upd_nx] <;> omega) | decide) only [rUz, ↓reduceIte, Nat.reduceEqDiff, Nat.reduceAdd, t0, t3, t4, t5, t8, t9, t10, t15, t16]; rfl))
    · have hjn : j = cs.length := by have := of_decide_eq_false e; omega
      subst hjn
      rw [List.drop_of_length_le (Nat.le_refl _), topB, List.all_nil] at hp
      rw [← hp, cond_true] at hg
      refine S.exit (he2 _ _ _ _ (fun e => by cases e) ?_)
      simp (disch := first | omega | (simp only [add_nx, upd_nx] <;> omega) | decide) only [rUz, ↓reduceIte, Nat.reduceEqDiff, Nat.reduceAdd, blockK_out]
      repeat refine S.seq ?_
      refine S.region ?_
      simp (disch := first | omega | (simp only [add_nx, upd_nx] <;> omega) | decide) only [rUz, ↓reduceIte, Nat.reduceEqDiff, Nat.reduceAdd, t4]
      refine S.exit ?_
      simp (disch := first | omega | (simp only [add_nx, upd_nx] <;> omega) | decide) only [rUz, ↓reduceIte, Nat.reduceEqDiff, Nat.reduceAdd, blockK_out]
      refine he _ _ _ _ (fun e => by cases e) ?_
      simp (disch := first | omega | (simp only [add_nx, upd_nx] <;> omega) | decide) only [rUz, ↓reduceIte, Nat.reduceEqDiff, Nat.reduceAdd, scopeK_normal]
      repeat refine S.seq ?_
      refine S.region ?_
      simp (disch := first | omega | (simp only [add_nx, upd_nx] <;> omega) | decide) only [rUz, ↓reduceIte, Nat.reduceEqDiff, Nat.reduceAdd]
      try simp only [scopeK_normal, seqK_normal, scopeK_ret]
      refine S.ret ?_
      try simp only [scopeK_ret, seqK_ret, blockK_ret]
      subst hF
      simp only [finish, endMarks]
      rw [show Try.f67.results.toList = [.tmp 2] from rfl]
      simp (disch := first | omega | (simp only [add_nx, upd_nx] <;> omega) | decide) only [resA, ev_tmp, tget_ne, tget_eq, get_ne, get_eq, upd_eq, upd_ne, ag_eq, ag_ne, result1]
      exact hK _ _ Kp.refl ⟨by rw [hg], rfl⟩
  · have hkn : k = cs.length := by have := of_decide_eq_false e; omega
    subst hkn
    rw [List.drop_of_length_le (Nat.le_refl _), greatG] at hg
    refine S.exit (he _ _ _ _ (fun e => by cases e) ?_)
    simp (disch := first | omega | (simp only [add_nx, upd_nx] <;> omega) | decide) only [rUz, ↓reduceIte, Nat.reduceEqDiff, Nat.reduceAdd, blockK_out, scopeK_normal]
    repeat refine S.seq ?_
    refine S.region ?_
    simp (disch := first | omega | (simp only [add_nx, upd_nx] <;> omega) | decide) only [rUz, ↓reduceIte, Nat.reduceEqDiff, Nat.reduceAdd, t3]
    refine S.ret ?_
    try simp only [scopeK_ret, seqK_ret, blockK_ret]
    subst hF
    simp only [finish, endMarks]
    rw [show Try.f67.results.toList = [.tmp 2] from rfl]
    simp (disch := first | omega | (simp only [add_nx, upd_nx] <;> omega) | decide) only [resA, ev_tmp, tget_ne, tget_eq, get_ne, get_eq, upd_eq, upd_ne, ag_eq, ag_ne, result1]
    exact hK _ _ Kp.refl ⟨by rw [← hg]; rfl, rfl⟩
end Go.Proofs.Mg
