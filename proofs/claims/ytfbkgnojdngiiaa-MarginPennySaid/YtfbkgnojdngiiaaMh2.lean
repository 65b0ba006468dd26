import Derived.Test.YtfbkgnojdngiiaaMh1
/- Whether a bank and a truth are thin; the error of a bank by the words of the document. -/
namespace Go.Proofs.Mg
open Go Go.Ev Go.RowKit
set_option linter.unusedSimpArgs false
variable {pr : Prim} {R : ExT}
def thinB (D : List PD) (L : List PL) (T : List PT) (rt : List Int) : Bool :=
  decide ((D.length : Int) ≤ 7) && (decide ((L.length : Int) ≤ 7) && (decide ((T.length : Int) ≤ 7) && (decide ((rt.length : Int) ≤ 7) &&
    (D.all (fun x => decide ((x.2.1.length : Int) ≤ 7)) && (L.all (fun x => decide ((x.2.2.2.length : Int) ≤ 7)) && T.all fun x => decide ((x.2.length : Int) ≤ 7))))))
theorem gtB (x y : Int) : decide (y < x) = !decide (x ≤ y) := by
  by_cases h : x ≤ y
  · rw [decide_eq_true h, decide_eq_false (by omega)]; rfl
  · rw [decide_eq_false h, decide_eq_true (by omega)]; rfl
structure ITa (D : List PD) (H : AHeap) (B2 B3 : Nat) (k : Nat) (t : T Value) (h : AHeap) : Prop where
  hh : h = H
  t2 : tget t 2 = ptr0 B2
  t3 : tget t 3 = ptr0 B3
  t5 : tget t 5 = iv (k : Int)
  ha : (D.all fun x => decide ((x.2.1.length : Int) ≤ 7)) = (D.drop k).all fun x => decide ((x.2.1.length : Int) ≤ 7)
  hk : k ≤ D.length
structure ITb (L : List PL) (H : AHeap) (B2 B3 : Nat) (k : Nat) (t : T Value) (h : AHeap) : Prop where
  hh : h = H
  t2 : tget t 2 = ptr0 B2
  t3 : tget t 3 = ptr0 B3
  t6 : tget t 6 = iv (k : Int)
  ha : (L.all fun x => decide ((x.2.2.2.length : Int) ≤ 7)) = (L.drop k).all fun x => decide ((x.2.2.2.length : Int) ≤ 7)
  hk : k ≤ L.length
structure ITc (T' : List PT) (H : AHeap) (B2 B3 : Nat) (k : Nat) (t : T Value) (h : AHeap) : Prop where
  hh : h = H
  t2 : tget t 2 = ptr0 B2
  t3 : tget t 3 = ptr0 B3
  t7 : tget t 7 = iv (k : Int)
  ha : (T'.all fun x => decide ((x.2.length : Int) ≤ 7)) = (T'.drop k).all fun x => decide ((x.2.length : Int) ≤ 7)
  hk : k ≤ T'.length
set_option maxHeartbeats 16000000 in
theorem thin_y (S : Ev.Steps Try.prog pr R) (h0 : AHeap) (st : Int) (dv lv pv rv : Value) (D : List PD) (L : List PL) (T' : List PT) (rt : List Int) (hb : BkAt h0 dv lv D L) (ht : TuAt h0 pv rv T' rt) :
    Brings Try.prog R 25 [.agg ⟨bkV st dv lv⟩, .agg ⟨tuV pv rv⟩] h0 fun u _ => u = .bool (thinB D L T' rt) := by
  refine brings_of (fn := Try.f25) (c := (Try.f25.body).getD .skip) (by kernel_rfl) rfl (by kernel_rfl) rfl (fun K hK => ?_)
  generalize hF : finish Try.prog Try.f25 K = KF
  simp only [Try.f25, Option.getD_some, argsT, setArgs, fV1_eq, T.setK_eq, id]
  have hKb : thinB D L T' rt = false → ∀ g, Kp h0 g → K (.bool false) g = true := fun e g hk => hK _ _ hk (by rw [e])
  have hKg : thinB D L T' rt = true → ∀ g, Kp h0 g → K (.bool true) g = true := fun e g hk => hK _ _ hk (by rw [e])
  clear hK
  unfold thinB at hKb hKg
  have lD := fun t h1 o => row_len hb.dy isrD t h1 o
  have lL := fun t h1 o => row_len hb.ln isrL t h1 o
  have lT := fun t h1 o => row_len ht.pr isII t h1 o
  have lR := fun t h1 o => iv_len ht.rt t h1 o
  repeat refine S.seq ?_
  refine S.region ?_
  simp (disch := first | omega | (simp only [add_nx, upd_nx] <;> omega) | decide) only [rUz, ↓reduceIte, Nat.reduceEqDiff, Nat.reduceAdd]
  obtain ⟨B2, hB2⟩ : ∃ x, x = h0.nx := ⟨_, rfl⟩
  obtain ⟨B3, hB3⟩ : ∃ x, x = h0.nx + 1 := ⟨_, rfl⟩
  have hb2 : ((h0.add (bkV st dv lv)).add (tuV pv rv)).bl.get B2 = some (.cells (bkV st dv lv) B2 false) := by rw [ag_ne (by show B2 ≠ h0.nx + 1; omega)]; subst hB2; exact ag_eq rfl
  have hb3 : ((h0.add (bkV st dv lv)).add (tuV pv rv)).bl.get B3 = some (.cells (tuV pv rv) B3 false) := by subst hB3; exact ag_eq rfl
  have hk1 : Kp h0 ((h0.add (bkV st dv lv)).add (tuV pv rv)) := Kp.refl.add.add
  rw [← hB3, ← hB2]
  clear hB2 hB3
  generalize (h0.add (bkV st dv lv)).add (tuV pv rv) = H at hb2 hb3 hk1 ⊢
  have hbH := hb.mono hk1
  have htH := ht.mono hk1
  clear hb ht
  cases h1 : decide ((D.length : Int) ≤ 7) with
  | false =>
    rw [h1, Bool.false_and] at hKb
    repeat refine S.seq ?_
    refine S.region ?_
    simp (disch := first | omega | (simp only [add_nx, upd_nx] <;> omega) | decide) only [rUz, ↓reduceIte, Nat.reduceEqDiff, Nat.reduceAdd, fieldAddr_ptr fA1 lrD, qrD, hb2, bk1, lD, gtB, h1, Bool.not_false]
    repeat refine S.seq ?_
    refine S.cond (v := true) (by first | rfl | (simp (disch := first | omega | (simp only [add_nx, upd_nx] <;> omega) | decide) only [rUz, ↓reduceIte, Nat.reduceEqDiff, Nat.reduceAdd] <;> rfl)) (fun _ => ?_) (fun e => by cases e)
    repeat refine S.seq ?_
    refine S.region ?_
    simp (disch := first | omega | (simp only [add_nx, upd_nx] <;> omega) | decide) only [rUz, ↓reduceIte, Nat.reduceEqDiff, Nat.reduceAdd]
    refine S.ret ?_
    try simp only [seqK_ret, blockK_ret]
    subst hF
    simp only [finish, endMarks]
    rw [show Try.f25.results.toList = [.tmp 4] from rfl]
    simp (disch := first | omega | (simp only [add_nx, upd_nx] <;> omega) | decide) only [resA, ev_tmp, tget_ne, tget_eq, get_ne, get_eq, upd_eq, upd_ne, ag_eq, ag_ne, result1]
    exact hKb rfl _ hk1
  | true =>
  rw [h1, Bool.true_and] at hKb hKg
  cases h2 : decide ((L.length : Int) ≤ 7) with
  | false =>
    rw [h2, Bool.false_and] at hKb
    repeat refine S.seq ?_
    refine S.region ?_
    simp (disch := first | omega | (simp only [add_nx, upd_nx] <;> omega) | decide) only [rUz, ↓reduceIte, Nat.reduceEqDiff, Nat.reduceAdd, fieldAddr_ptr fA1 lrD, fieldAddr_ptr fA2 lrL, qrD, qrL, hb2, bk1, bk2, lD, lL, gtB, h1, h2, Bool.not_false, Bool.not_true]
    repeat refine S.seq ?_
    refine S.cond (v := true) (by first | rfl | (simp (disch := first | omega | (simp only [add_nx, upd_nx] <;> omega) | decide) only [rUz, ↓reduceIte, Nat.reduceEqDiff, Nat.reduceAdd] <;> rfl)) (fun _ => ?_) (fun e => by cases e)
    repeat refine S.seq ?_
    refine S.region ?_
    simp (disch := first | omega | (simp only [add_nx, upd_nx] <;> omega) | decide) only [rUz, ↓reduceIte, Nat.reduceEqDiff, Nat.reduceAdd]
    refine S.ret ?_
    try simp only [seqK_ret, blockK_ret]
    subst hF
    simp only [finish, endMarks]
    rw [show Try.f25.results.toList = [.tmp 4] from rfl]
    simp (disch := first | omega | (simp only [add_nx, upd_nx] <;> omega) | decide) only [resA, ev_tmp, tget_ne, tget_eq, get_ne, get_eq, upd_eq, upd_ne, ag_eq, ag_ne, result1]
    exact hKb rfl _ hk1
  | true =>
  rw [h2, Bool.true_and] at hKb hKg
  cases h3 : decide ((T'.length : Int) ≤ 7) with
  | false =>
    rw [h3, Bool.false_and] at hKb
    repeat refine S.seq ?_
    refine S.region ?_
    simp (disch := first | omega | (simp only [add_nx, upd_nx] <;> omega) | decide) only [rUz, ↓reduceIte, Nat.reduceEqDiff, Nat.reduceAdd, fieldAddr_ptr fA1 lrD, fieldAddr_ptr fA2 lrL, fieldAddr_ptr frU0 lII, qrD, qrL, qII, hb2, hb3, bk1, bk2, tu0, lD, lL, lT, gtB, h1, h2, h3, Bool.not_false, Bool.not_true]
    repeat refine S.seq ?_
    refine S.cond (v := true) (by first | rfl | (simp (disch := first | omega | (simp only [add_nx, upd_nx] <;> omega) | decide) only [rUz, ↓reduceIte, Nat.reduceEqDiff, Nat.reduceAdd] <;> rfl)) (fun _ => ?_) (fun e => by cases e)
    repeat refine S.seq ?_
    refine S.region ?_
    simp (disch := first | omega | (simp only [add_nx, upd_nx] <;> omega) | decide) only [rUz, ↓reduceIte, Nat.reduceEqDiff, Nat.reduceAdd]
    refine S.ret ?_
    try simp only [seqK_ret, blockK_ret]
    subst hF
    simp only [finish, endMarks]
    rw [show Try.f25.results.toList = [.tmp 4] from rfl]
    simp (disch := first | omega | (simp only [add_nx, upd_nx] <;> omega) | decide) only [resA, ev_tmp, tget_ne, tget_eq, get_ne, get_eq, upd_eq, upd_ne, ag_eq, ag_ne, result1]
    exact hKb rfl _ hk1
  | true =>
  rw [h3, Bool.true_and] at hKb hKg
  cases h4 : decide ((rt.length : Int) ≤ 7) with
  | false =>
    rw [h4, Bool.false_and] at hKb
    repeat refine S.seq ?_
    refine S.region ?_
    simp (disch := first | omega | (simp only [add_nx, upd_nx] <;> omega) | decide) only [rUz, ↓reduceIte, Nat.reduceEqDiff, Nat.reduceAdd, fieldAddr_ptr fA1 lrD, fieldAddr_ptr fA2 lrL, fieldAddr_ptr frU0 lII, fieldAddr_ptr frU1 lI, qrD, qrL, qII, qI, hb2, hb3, bk1, bk2, tu0, tu1, lD, lL, lT, lR, gtB, h1, h2, h3, h4, Bool.not_false, Bool.not_true]
    repeat refine S.seq ?_
    refine S.cond (v := true) (by first | rfl | (simp (disch := first | omega | (simp only [add_nx, upd_nx] <;> omega) | decide) only [rUz, ↓reduceIte, Nat.reduceEqDiff, Nat.reduceAdd] <;> rfl)) (fun _ => ?_) (fun e => by cases e)
    repeat refine S.seq ?_
    refine S.region ?_
    simp (disch := first | omega | (simp only [add_nx, upd_nx] <;> omega) | decide) only [rUz, ↓reduceIte, Nat.reduceEqDiff, Nat.reduceAdd]
    refine S.ret ?_
    try simp only [seqK_ret, blockK_ret]
    subst hF
    simp only [finish, endMarks]
    rw [show Try.f25.results.toList = [.tmp 4] from rfl]
    simp (disch := first | omega | (simp only [add_nx, upd_nx] <;> omega) | decide) only [resA, ev_tmp, tget_ne, tget_eq, get_ne, get_eq, upd_eq, upd_ne, ag_eq, ag_ne, result1]
    exact hKb rfl _ hk1
  | true =>
  rw [h4, Bool.true_and] at hKb hKg
  repeat refine S.seq ?_
  refine S.region ?_
  simp (disch := first | omega | (simp only [add_nx, upd_nx] <;> omega) | decide) only [rUz, ↓reduceIte, Nat.reduceEqDiff, Nat.reduceAdd, fieldAddr_ptr fA1 lrD, fieldAddr_ptr fA2 lrL, fieldAddr_ptr frU0 lII, fieldAddr_ptr frU1 lI, qrD, qrL, qII, qI, hb2, hb3, bk1, bk2, tu0, tu1, lD, lL, lT, lR, gtB, h1, h2, h3, h4, Bool.not_false, Bool.not_true]
  repeat refine S.seq ?_
  refine S.cond (v := false) (by first | rfl | (simp (disch := first | omega | (simp only [add_nx, upd_nx] <;> omega) | decide) only [rUz, ↓reduceIte, Nat.reduceEqDiff, Nat.reduceAdd] <;> rfl)) (fun e => by cases e) (fun _ => ?_)
  repeat refine S.seq ?_
  refine S.skip ?_
  simp (disch := first | omega | (simp only [add_nx, upd_nx] <;> omega) | decide) only [rUz, ↓reduceIte, Nat.reduceEqDiff, Nat.reduceAdd]
  have hd7 := of_decide_eq_true h1
  have hl7 := of_decide_eq_true h2
  have ht7 := of_decide_eq_true h3
  clear h1 h2 h3 h4
  repeat refine S.seq ?_
  refine S.region ?_
  simp (disch := first | omega | (simp only [add_nx, upd_nx] <;> omega) | decide) only [rUz, ↓reduceIte, Nat.reduceEqDiff, Nat.reduceAdd]
  repeat refine S.seq ?_
  refine S.block ?_
  refine S.loop (ι := Nat) (ITa D H B2 B3) (fun k => D.length - k) ?_ 0 _ _ ?_
  rotate_left
  · refine ⟨rfl, ?_, ?_, ?_, rfl, Nat.zero_le _⟩
    all_goals (first | rfl | (simp (disch := first | omega | (simp only [add_nx, upd_nx] <;> omega) | decide) only [rUz, ↓reduceIte, Nat.reduceEqDiff, Nat.reduceAdd]; done) | (simp (disch := first | omega | (simp only [add_nx, upd_nx] <;> omega) | decide) only [rUz, ↓reduceIte, Nat.reduceEqDiff, Nat.reduceAdd]; rfl))
  intro k t h ⟨hh, t2, t3, t5, ha, hk⟩ K' hn he
  subst hh
  repeat refine S.seq ?_
  refine S.region ?_
  simp (disch := first | omega | (simp only [add_nx, upd_nx] <;> omega) | decide) only [rUz, ↓reduceIte, Nat.reduceEqDiff, Nat.reduceAdd, t2, t5, fieldAddr_ptr fA1 lrD, qrD, hb2, bk1, lD]
  repeat refine S.seq ?_
  refine S.cond (v := decide ((k : Int) < (D.length : Int))) (by first | rfl | (simp (disch := first | omega | (simp only [add_nx, upd_nx] <;> omega) | decide) only [rUz, ↓reduceIte, Nat.reduceEqDiff, Nat.reduceAdd] <;> rfl)) (fun e => ?_) (fun e => ?_)
  · have hkn : k < D.length := by have := of_decide_eq_true e; omega
    clear e
    have hps : D[k]? = some D[k] := List.getElem?_eq_getElem hkn
    have hxm : D[k] ∈ D := List.getElem_mem hkn
    rw [List.drop_eq_getElem_cons hkn, List.all_cons] at ha
    generalize D[k] = x at ha hps hxm
    obtain ⟨b, f, ro, cells, q1, q2, q3, q4, q5, q6⟩ := row_idx hbH.dy slrD srD hps
    have q6 := q6 0 _ (cD0 x)
    rw [Nat.add_zero] at q6
    have lx := fun t h1 o => row_len (hbH.pr x hxm) isrR t h1 o
    repeat refine S.seq ?_
    refine S.skip ?_
    simp (disch := first | omega | (simp only [add_nx, upd_nx] <;> omega) | decide) only [rUz, ↓reduceIte, Nat.reduceEqDiff, Nat.reduceAdd]
    repeat refine S.seq ?_
    refine S.block ?_
    cases h1 : decide ((x.2.1.length : Int) ≤ 7) with
    | false =>
      rw [h1, Bool.false_and] at ha
      repeat refine S.seq ?_
      refine S.region ?_
      simp (disch := first | omega | (simp only [add_nx, upd_nx] <;> omega) | decide) only [rUz, ↓reduceIte, Nat.reduceEqDiff, Nat.reduceAdd, t2, t5, fieldAddr_ptr fA1 lrD, qrD, hb2, bk1, q1, q3, fieldAddr_ptr frD0 lrR, qrR, q6, lx, gtB, h1, Bool.not_false]
      repeat refine S.seq ?_
      refine S.cond (v := true) (by first | rfl | (simp (disch := first | omega | (simp only [add_nx, upd_nx] <;> omega) | decide) only [rUz, ↓reduceIte, Nat.reduceEqDiff, Nat.reduceAdd] <;> rfl)) (fun _ => ?_) (fun e => by cases e)
      repeat refine S.seq ?_
      refine S.region ?_
      simp (disch := first | omega | (simp only [add_nx, upd_nx] <;> omega) | decide) only [rUz, ↓reduceIte, Nat.reduceEqDiff, Nat.reduceAdd]
      refine S.ret ?_
      simp only [seqK_ret, blockK_ret]
      refine he _ _ _ _ (fun e => by cases e) ?_
      try simp only [seqK_ret, blockK_ret]
      subst hF
      simp only [finish, endMarks]
      rw [show Try.f25.results.toList = [.tmp 4] from rfl]
      simp (disch := first | omega | (simp only [add_nx, upd_nx] <;> omega) | decide) only [resA, ev_tmp, tget_ne, tget_eq, get_ne, get_eq, upd_eq, upd_ne, ag_eq, ag_ne, result1]
      exact hKb (by rw [ha, Bool.false_and]) _ hk1
    | true =>
      rw [h1, Bool.true_and] at ha
      repeat refine S.seq ?_
      refine S.region ?_
      simp (disch := first | omega | (simp only [add_nx, upd_nx] <;> omega) | decide) only [rUz, ↓reduceIte, Nat.reduceEqDiff, Nat.reduceAdd, t2, t5, fieldAddr_ptr fA1 lrD, qrD, hb2, bk1, q1, q3, fieldAddr_ptr frD0 lrR, qrR, q6, lx, gtB, h1, Bool.not_true]
      repeat refine S.seq ?_
      refine S.cond (v := false) (by first | rfl | (simp (disch := first | omega | (simp only [add_nx, upd_nx] <;> omega) | decide) only [rUz, ↓reduceIte, Nat.reduceEqDiff, Nat.reduceAdd] <;> rfl)) (fun e => by cases e) (fun _ => ?_)
      repeat refine S.seq ?_
      refine S.skip ?_
      simp (disch := first | omega | (simp only [add_nx, upd_nx] <;> omega) | decide) only [rUz, ↓reduceIte, Nat.reduceEqDiff, Nat.reduceAdd]
      repeat refine S.seq ?_
      refine S.region ?_
      simp (disch := first | omega | (simp only [add_nx, upd_nx] <;> omega) | decide) only [rUz, ↓reduceIte, Nat.reduceEqDiff, Nat.reduceAdd, t5]
      refine hn (k + 1) _ _ (by omega) ⟨rfl, ?_, ?_, ?_, ha, by omega⟩
      all_goals (first | rfl | (simp (disch := first | omega | (simp only [add_nx, upd_nx] <;> omega) | decide) only [rUz, ↓reduceIte, Nat.reduceEqDiff, Nat.reduceAdd, t2, t3]; done) | (simp (disch := first | omega | (simp only [add_nx, upd_nx] <;> omega) | decide) only [rUz, ↓reduceIte, Nat.reduceEqDiff, Nat.reduceAdd, t2, t3]; rfl))
  have hkn : k = D.length := by have := of_decide_eq_false e; omega
  subst hkn
  rw [List.drop_of_length_le (Nat.le_refl _), List.all_nil] at ha
  rw [ha, Bool.true_and] at hKb hKg
  refine S.exit (he _ _ _ _ (fun e => by cases e) ?_)
  simp (disch := first | omega | (simp only [add_nx, upd_nx] <;> omega) | decide) only [rUz, ↓reduceIte, Nat.reduceEqDiff, Nat.reduceAdd]
  clear hn he K' e t5 hk ha
  repeat refine S.seq ?_
  refine S.region ?_
  simp (disch := first | omega | (simp only [add_nx, upd_nx] <;> omega) | decide) only [rUz, ↓reduceIte, Nat.reduceEqDiff, Nat.reduceAdd]
  repeat refine S.seq ?_
  refine S.block ?_
  refine S.loop (ι := Nat) (ITb L h B2 B3) (fun k => L.length - k) ?_ 0 _ _ ?_
  rotate_left
  · refine ⟨rfl, ?_, ?_, ?_, rfl, Nat.zero_le _⟩
    all_goals (first | rfl | (simp (disch := first | omega | (simp only [add_nx, upd_nx] <;> omega) | decide) only [rUz, ↓reduceIte, Nat.reduceEqDiff, Nat.reduceAdd, t2, t3]; done) | (simp (disch := first | omega | (simp only [add_nx, upd_nx] <;> omega) | decide) only [rUz, ↓reduceIte, Nat.reduceEqDiff, Nat.reduceAdd, t2, t3]; rfl))
  clear t2 t3
  clear t
  intro k t h ⟨hh, t2, t3, t6, ha, hk⟩ K' hn he
  subst hh
  repeat refine S.seq ?_
  refine S.region ?_
  simp (disch := first | omega | (simp only [add_nx, upd_nx] <;> omega) | decide) only [rUz, ↓reduceIte, Nat.reduceEqDiff, Nat.reduceAdd, t2, t6, fieldAddr_ptr fA2 lrL, qrL, hb2, bk2, lL]
  repeat refine S.seq ?_
  refine S.cond (v := decide ((k : Int) < (L.length : Int))) (by first | rfl | (simp (disch := first | omega | (simp only [add_nx, upd_nx] <;> omega) | decide) only [rUz, ↓reduceIte, Nat.reduceEqDiff, Nat.reduceAdd] <;> rfl)) (fun e => ?_) (fun e => ?_)
  · have hkn : k < L.length := by have := of_decide_eq_true e; omega
    clear e
    have hps : L[k]? = some L[k] := List.getElem?_eq_getElem hkn
    have hxm : L[k] ∈ L := List.getElem_mem hkn
    rw [List.drop_eq_getElem_cons hkn, List.all_cons] at ha
    generalize L[k] = x at ha hps hxm
    obtain ⟨b, f, ro, cells, q1, q2, q3, q4, q5, q6⟩ := row_idx hbH.ln slrL srL hps
    have q6 := q6 2 _ (cL2 x)
    have lx := fun t h1 o => iv_len (hbH.sh x hxm) t h1 o
    repeat refine S.seq ?_
    refine S.skip ?_
    simp (disch := first | omega | (simp only [add_nx, upd_nx] <;> omega) | decide) only [rUz, ↓reduceIte, Nat.reduceEqDiff, Nat.reduceAdd]
    repeat refine S.seq ?_
    refine S.block ?_
    cases h1 : decide ((x.2.2.2.length : Int) ≤ 7) with
    | false =>
      rw [h1, Bool.false_and] at ha
      repeat refine S.seq ?_
      refine S.region ?_
      simp (disch := first | omega | (simp only [add_nx, upd_nx] <;> omega) | decide) only [rUz, ↓reduceIte, Nat.reduceEqDiff, Nat.reduceAdd, t2, t6, fieldAddr_ptr fA2 lrL, qrL, hb2, bk2, q1, q3, fieldAddr_ptr frL2 lI, qI, q6, lx, gtB, h1, Bool.not_false]
      repeat refine S.seq ?_
      refine S.cond (v := true) (by first | rfl | (simp (disch := first | omega | (simp only [add_nx, upd_nx] <;> omega) | decide) only [rUz, ↓reduceIte, Nat.reduceEqDiff, Nat.reduceAdd] <;> rfl)) (fun _ => ?_) (fun e => by cases e)
      repeat refine S.seq ?_
      refine S.region ?_
      simp (disch := first | omega | (simp only [add_nx, upd_nx] <;> omega) | decide) only [rUz, ↓reduceIte, Nat.reduceEqDiff, Nat.reduceAdd]
      refine S.ret ?_
      simp only [seqK_ret, blockK_ret]
      refine he _ _ _ _ (fun e => by cases e) ?_
      try simp only [seqK_ret, blockK_ret]
      subst hF
      simp only [finish, endMarks]
      rw [show Try.f25.results.toList = [.tmp 4] from rfl]
      simp (disch := first | omega | (simp only [add_nx, upd_nx] <;> omega) | decide) only [resA, ev_tmp, tget_ne, tget_eq, get_ne, get_eq, upd_eq, upd_ne, ag_eq, ag_ne, result1]
      exact hKb (by rw [ha, Bool.false_and]) _ hk1
    | true =>
      rw [h1, Bool.true_and] at ha
      repeat refine S.seq ?_
      refine S.region ?_
      simp (disch := first | omega | (simp only [add_nx, upd_nx] <;> omega) | decide) only [rUz, ↓reduceIte, Nat.reduceEqDiff, Nat.reduceAdd, t2, t6, fieldAddr_ptr fA2 lrL, qrL, hb2, bk2, q1, q3, fieldAddr_ptr frL2 lI, qI, q6, lx, gtB, h1, Bool.not_true]
      repeat refine S.seq ?_
      refine S.cond (v := false) (by first | rfl | (simp (disch := first | omega | (simp only [add_nx, upd_nx] <;> omega) | decide) only [rUz, ↓reduceIte, Nat.reduceEqDiff, Nat.reduceAdd] <;> rfl)) (fun e => by cases e) (fun _ => ?_)
      repeat refine S.seq ?_
      refine S.skip ?_
      simp (disch := first | omega | (simp only [add_nx, upd_nx] <;> omega) | decide) only [rUz, ↓reduceIte, Nat.reduceEqDiff, Nat.reduceAdd]
      repeat refine S.seq ?_
      refine S.region ?_
      simp (disch := first | omega | (simp only [add_nx, upd_nx] <;> omega) | decide) only [rUz, ↓reduceIte, Nat.reduceEqDiff, Nat.reduceAdd, t6]
      refine hn (k + 1) _ _ (by omega) ⟨rfl, ?_, ?_, ?_, ha, by omega⟩
      all_goals (first | rfl | (simp (disch := first | omega | (simp only [add_nx, upd_nx] <;> omega) | decide) only [rUz, ↓reduceIte, Nat.reduceEqDiff, Nat.reduceAdd, t2, t3]; done) | (simp (disch := first | omega | (simp only [add_nx, upd_nx] <;> omega) | decide) only [rUz, ↓reduceIte, Nat.reduceEqDiff, Nat.reduceAdd, t2, t3]; rfl))
  have hkn : k = L.length := by have := of_decide_eq_false e; omega
  subst hkn
  rw [List.drop_of_length_le (Nat.le_refl _), List.all_nil] at ha
  rw [ha, Bool.true_and] at hKb hKg
  refine S.exit (he _ _ _ _ (fun e => by cases e) ?_)
  simp (disch := first | omega | (simp only [add_nx, upd_nx] <;> omega) | decide) only [rUz, ↓reduceIte, Nat.reduceEqDiff, Nat.reduceAdd]
  clear hn he K' e t6 hk ha
  repeat refine S.seq ?_
  refine S.region ?_
  simp (disch := first | omega | (simp only [add_nx, upd_nx] <;> omega) | decide) only [rUz, ↓reduceIte, Nat.reduceEqDiff, Nat.reduceAdd]
  repeat refine S.seq ?_
  refine S.block ?_
  refine S.loop (ι := Nat) (ITc T' h B2 B3) (fun k => T'.length - k) ?_ 0 _ _ ?_
  rotate_left
  · refine ⟨rfl, ?_, ?_, ?_, rfl, Nat.zero_le _⟩
    all_goals (first | rfl | (simp (disch := first | omega | (simp only [add_nx, upd_nx] <;> omega) | decide) only [rUz, ↓reduceIte, Nat.reduceEqDiff, Nat.reduceAdd, t2, t3]; done) | (simp (disch := first | omega | (simp only [add_nx, upd_nx] <;> omega) | decide) only [rUz, ↓reduceIte, Nat.reduceEqDiff, Nat.reduceAdd, t2, t3]; rfl))
  clear t2 t3
  clear t
  intro k t h ⟨hh, t2, t3, t7, ha, hk⟩ K' hn he
  subst hh
  repeat refine S.seq ?_
  refine S.region ?_
  simp (disch := first | omega | (simp only [add_nx, upd_nx] <;> omega) | decide) only [rUz, ↓reduceIte, Nat.reduceEqDiff, Nat.reduceAdd, t3, t7, fieldAddr_ptr frU0 lII, qII, hb3, tu0, lT]
  repeat refine S.seq ?_
  refine S.cond (v := decide ((k : Int) < (T'.length : Int))) (by first | rfl | (simp (disch := first | omega | (simp only [add_nx, upd_nx] <;> omega) | decide) only [rUz, ↓reduceIte, Nat.reduceEqDiff, Nat.reduceAdd] <;> rfl)) (fun e => ?_) (fun e => ?_)
  · have hkn : k < T'.length := by have := of_decide_eq_true e; omega
    clear e
    have hps : T'[k]? = some T'[k] := List.getElem?_eq_getElem hkn
    have hxm : T'[k] ∈ T' := List.getElem_mem hkn
    rw [List.drop_eq_getElem_cons hkn, List.all_cons] at ha
    generalize T'[k] = x at ha hps hxm
    obtain ⟨b, f, ro, cells, q1, q2, q3, q4, q5, q6⟩ := row_idx htH.pr slII lI' hps
    have q6 := q6 0 _ (cT0 x)
    rw [Nat.mul_one] at q1
    rw [Nat.mul_one, Nat.add_zero] at q6
    have lx := fun t h1 o => iv_len (htH.ps x hxm) t h1 o
    repeat refine S.seq ?_
    refine S.skip ?_
    simp (disch := first | omega | (simp only [add_nx, upd_nx] <;> omega) | decide) only [rUz, ↓reduceIte, Nat.reduceEqDiff, Nat.reduceAdd]
    repeat refine S.seq ?_
    refine S.block ?_
    cases h1 : decide ((x.2.length : Int) ≤ 7) with
    | false =>
      rw [h1, Bool.false_and] at ha
      repeat refine S.seq ?_
      refine S.region ?_
      simp (disch := first | omega | (simp only [add_nx, upd_nx] <;> omega) | decide) only [rUz, ↓reduceIte, Nat.reduceEqDiff, Nat.reduceAdd, t3, t7, fieldAddr_ptr frU0 lII, qII, hb3, tu0, q1, q3, qI, q6, lx, gtB, h1, Bool.not_false]
      repeat refine S.seq ?_
      refine S.cond (v := true) (by first | rfl | (simp (disch := first | omega | (simp only [add_nx, upd_nx] <;> omega) | decide) only [rUz, ↓reduceIte, Nat.reduceEqDiff, Nat.reduceAdd] <;> rfl)) (fun _ => ?_) (fun e => by cases e)
      repeat refine S.seq ?_
      refine S.region ?_
      simp (disch := first | omega | (simp only [add_nx, upd_nx] <;> omega) | decide) only [rUz, ↓reduceIte, Nat.reduceEqDiff, Nat.reduceAdd]
      refine S.ret ?_
      simp only [seqK_ret, blockK_ret]
      refine he _ _ _ _ (fun e => by cases e) ?_
      try simp only [seqK_ret, blockK_ret]
      subst hF
      simp only [finish, endMarks]
      rw [show Try.f25.results.toList = [.tmp 4] from rfl]
      simp (disch := first | omega | (simp only [add_nx, upd_nx] <;> omega) | decide) only [resA, ev_tmp, tget_ne, tget_eq, get_ne, get_eq, upd_eq, upd_ne, ag_eq, ag_ne, result1]
      exact hKb ha _ hk1
    | true =>
      rw [h1, Bool.true_and] at ha
      repeat refine S.seq ?_
      refine S.region ?_
      simp (disch := first | omega | (simp only [add_nx, upd_nx] <;> omega) | decide) only [rUz, ↓reduceIte, Nat.reduceEqDiff, Nat.reduceAdd, t3, t7, fieldAddr_ptr frU0 lII, qII, hb3, tu0, q1, q3, qI, q6, lx, gtB, h1, Bool.not_true]
      repeat refine S.seq ?_
      refine S.cond (v := false) (by first | rfl | (simp (disch := first | omega | (simp only [add_nx, upd_nx] <;> omega) | decide) only [rUz, ↓reduceIte, Nat.reduceEqDiff, Nat.reduceAdd] <;> rfl)) (fun e => by cases e) (fun _ => ?_)
      repeat refine S.seq ?_
      refine S.skip ?_
      simp (disch := first | omega | (simp only [add_nx, upd_nx] <;> omega) | decide) only [rUz, ↓reduceIte, Nat.reduceEqDiff, Nat.reduceAdd]
      repeat refine S.seq ?_
      refine S.region ?_
      simp (disch := first | omega | (simp only [add_nx, upd_nx] <;> omega) | decide) only [rUz, ↓reduceIte, Nat.reduceEqDiff, Nat.reduceAdd, t7]
      refine hn (k + 1) _ _ (by omega) ⟨rfl, ?_, ?_, ?_, ha, by omega⟩
      all_goals (first | rfl | (simp (disch := first | omega | (simp only [add_nx, upd_nx] <;> omega) | decide) only [rUz, ↓reduceIte, Nat.reduceEqDiff, Nat.reduceAdd, t2, t3]; done) | (simp (disch := first | omega | (simp only [add_nx, upd_nx] <;> omega) | decide) only [rUz, ↓reduceIte, Nat.reduceEqDiff, Nat.reduceAdd, t2, t3]; rfl))
  have hkn : k = T'.length := by have := of_decide_eq_false e; omega
  subst hkn
  rw [List.drop_of_length_le (Nat.le_refl _), List.all_nil] at ha
  refine S.exit (he _ _ _ _ (fun e => by cases e) ?_)
  simp (disch := first | omega | (simp only [add_nx, upd_nx] <;> omega) | decide) only [rUz, ↓reduceIte, Nat.reduceEqDiff, Nat.reduceAdd]
  repeat refine S.seq ?_
  refine S.region ?_
  simp (disch := first | omega | (simp only [add_nx, upd_nx] <;> omega) | decide) only [rUz, ↓reduceIte, Nat.reduceEqDiff, Nat.reduceAdd]
  refine S.ret ?_
  try simp only [seqK_ret, blockK_ret]
  subst hF
  simp only [finish, endMarks]
  rw [show Try.f25.results.toList = [.tmp 4] from rfl]
  simp (disch := first | omega | (simp only [add_nx, upd_nx] <;> omega) | decide) only [resA, ev_tmp, tget_ne, tget_eq, get_ne, get_eq, upd_eq, upd_ne, ag_eq, ag_ne, result1]
  exact hKg ha _ hk1
end Go.Proofs.Mg
