import Derived.Test.YtemmpnipmklacaaRpM
namespace Go.Proofs.Rg
open Go Go.Ev
set_option linter.unusedSimpArgs false
variable {pr : Prim} {R : ExT}
def IRa (cs : List C4) (l : List Int) (H : AHeap) (B2 B3 : Nat) (k : Nat) (t : T Value) (h : AHeap) : Prop :=
  k ≤ l.length ∧ h = H ∧ l.all (inC cs) = (l.drop k).all (inC cs) ∧ tget t 2 = ptr0 B2 ∧ tget t 3 = ptr0 B3 ∧ tget t 5 = iv (l.length : Int) ∧ tget t 6 = iv (k : Int)
def IRb (cs : List C4) (l : List Int) (H : AHeap) (B2 B3 : Nat) (k : Nat) (t : T Value) (h : AHeap) : Prop :=
  k ≤ l.length ∧ Kp H h ∧ ringB cs l = ((List.range l.length).drop k).all (stepOK cs l) ∧ tget t 2 = ptr0 B2 ∧ tget t 3 = ptr0 B3 ∧ tget t 5 = iv (l.length : Int) ∧ tget t 7 = iv (k : Int)
def IRc (cs : List C4) (l : List Int) (c : C4) (m : Nat) (H : AHeap) (B2 B3 B8 : Nat) (j : Nat) (t : T Value) (h : AHeap) : Prop :=
  j ≤ m ∧ h = H ∧ soldB cs l j c.1 = false ∧ tget t 2 = ptr0 B2 ∧ tget t 3 = ptr0 B3 ∧ tget t 5 = iv (l.length : Int) ∧ tget t 7 = iv (m : Int) ∧ tget t 8 = ptr0 B8 ∧ tget t 9 = iv (j : Int)
theorem soldB_le (cs : List C4) (l : List Int) (a b : Nat) (h : a ≤ b) (i : Int) (k : soldB cs l a i = true) : soldB cs l b i = true := by
  unfold soldB at k ⊢
  rw [List.any_eq_true] at k ⊢
  obtain ⟨x, hx, e⟩ := k
  exact ⟨x, (List.take_sublist_take_left h).subset hx, e⟩
set_option maxHeartbeats 32000000 in
theorem rIsRing_y (S : Ev.Steps Try.prog pr R) (hoff : Off pr) (h0 : AHeap) (n : Nat) (hn6 : n ≤ 6) (cv : Value) (cs : List C4) (hc : CAt h0 cv cs) (hsz : cs.length ≤ 12) (s : Value) (l : List Int) (am : Int) (hl : IAt h0 s l) (hl8 : l.length ≤ 8) :
    Brings Try.prog R 59 [.agg ⟨[iv (n : Int), cv]⟩, .agg ⟨[s, iv am]⟩] h0 fun u _ => u = .bool (irP n cs (l, am)) := by
  refine brings_of (fn := Try.f59) (c := (Try.f59.body).getD .skip) (by kernel_rfl) rfl (by kernel_rfl) rfl (fun K hK => ?_)
  generalize hF : finish Try.prog Try.f59 K = KF
  simp only [Try.f59, Option.getD_some, argsT, setArgs, fV1_eq, T.setK_eq, id]
  have hlen := fun t h1 o => hl.len isI t h1 o
  have hlc := fun t h1 o => hc.len isA t h1 o
  repeat refine S.seq ?_
  refine S.region ?_
  simp (disch := first | omega | (simp only [add_nx, upd_nx, res_nx, putAt_nx] <;> omega) | decide) only [rUz, ↓reduceIte, Nat.reduceEqDiff, Nat.reduceAdd]
  have hb2 : ((h0.add [iv (n : Int), cv]).add [s, iv am]).bl.get h0.nx = some (.cells [iv (n : Int), cv] h0.nx false) := by simp (disch := first | omega | (simp only [add_nx, upd_nx, res_nx, putAt_nx] <;> omega) | decide) only [ag_ne, ag_eq]
  have hb3 : ((h0.add [iv (n : Int), cv]).add [s, iv am]).bl.get (h0.nx + 1) = some (.cells [s, iv am] (h0.nx + 1) false) := by simp (disch := first | omega | (simp only [add_nx, upd_nx, res_nx, putAt_nx] <;> omega) | decide) only [ag_ne, ag_eq]
  have hk1 : Kp h0 ((h0.add [iv (n : Int), cv]).add [s, iv am]) := Kp.refl.add.add
  have hlt : h0.nx + 1 < ((h0.add [iv (n : Int), cv]).add [s, iv am]).nx := Nat.lt_succ_self _
  generalize (h0.add [iv (n : Int), cv]).add [s, iv am] = H1 at hb2 hb3 hk1 hlt ⊢
  repeat refine S.seq ?_
  refine S.region ?_
  simp (disch := first | omega | (simp only [add_nx, upd_nx, res_nx, putAt_nx] <;> omega) | decide) only [rUz, ↓reduceIte, Nat.reduceEqDiff, Nat.reduceAdd, hb3, fieldAddr_ptr fRr0 sI1, pI1, hlen]
  by_cases hl2 : (l.length : Int) < 2
  · have e : irP n cs (l, am) = false := by unfold irP; rw [decide_eq_true hl2]; rfl
    rw [e] at hK
    repeat refine S.seq ?_
    refine S.region ?_
    simp (disch := first | omega | (simp only [add_nx, upd_nx, res_nx, putAt_nx] <;> omega) | decide) only [rUz, ↓reduceIte, Nat.reduceEqDiff, Nat.reduceAdd, decide_eq_true hl2]
    repeat refine S.seq ?_
    refine S.cond (v := true) (by first | rfl | (simp (disch := first | omega | (simp only [add_nx, upd_nx, res_nx, putAt_nx] <;> omega) | decide) only [rUz, ↓reduceIte, Nat.reduceEqDiff, Nat.reduceAdd] <;> rfl)) (fun _ => ?_) (fun e => by cases e)
    repeat refine S.seq ?_
    refine S.region ?_
    simp (disch := first | omega | (simp only [add_nx, upd_nx, res_nx, putAt_nx] <;> omega) | decide) only [rUz, ↓reduceIte, Nat.reduceEqDiff, Nat.reduceAdd]
    refine S.ret ?_
    try simp only [seqK_ret, blockK_ret]
    subst hF
    simp only [finish, endMarks]
    rw [show Try.f59.results.toList = [.tmp 4] from rfl]
    simp (disch := first | omega | (simp only [add_nx, upd_nx, res_nx, putAt_nx] <;> omega) | decide) only [resA, ev_tmp, tget_ne, tget_eq, get_ne, get_eq, upd_eq, upd_ne, ag_eq, ag_ne, result1]
    exact hK _ _ hk1 rfl
  by_cases hln : (n : Int) < (l.length : Int)
  · have e : irP n cs (l, am) = false := by unfold irP; rw [decide_eq_true hln, Bool.or_true]; rfl
    rw [e] at hK
    repeat refine S.seq ?_
    refine S.region ?_
    simp (disch := first | omega | (simp only [add_nx, upd_nx, res_nx, putAt_nx] <;> omega) | decide) only [rUz, ↓reduceIte, Nat.reduceEqDiff, Nat.reduceAdd, decide_eq_false hl2, hb2, fieldAddr_ptr fA0 s3, p3, decide_eq_true hln]
    repeat refine S.seq ?_
    refine S.cond (v := true) (by first | rfl | (simp (disch := first | omega | (simp only [add_nx, upd_nx, res_nx, putAt_nx] <;> omega) | decide) only [rUz, ↓reduceIte, Nat.reduceEqDiff, Nat.reduceAdd] <;> rfl)) (fun _ => ?_) (fun e => by cases e)
    repeat refine S.seq ?_
    refine S.region ?_
    simp (disch := first | omega | (simp only [add_nx, upd_nx, res_nx, putAt_nx] <;> omega) | decide) only [rUz, ↓reduceIte, Nat.reduceEqDiff, Nat.reduceAdd]
    refine S.ret ?_
    try simp only [seqK_ret, blockK_ret]
    subst hF
    simp only [finish, endMarks]
    rw [show Try.f59.results.toList = [.tmp 4] from rfl]
    simp (disch := first | omega | (simp only [add_nx, upd_nx, res_nx, putAt_nx] <;> omega) | decide) only [resA, ev_tmp, tget_ne, tget_eq, get_ne, get_eq, upd_eq, upd_ne, ag_eq, ag_ne, result1]
    exact hK _ _ hk1 rfl
  by_cases hr1 : am < 1
  · have e : irP n cs (l, am) = false := by unfold irP; rw [decide_eq_true hr1, Bool.or_true]; rfl
    rw [e] at hK
    repeat refine S.seq ?_
    refine S.region ?_
    simp (disch := first | omega | (simp only [add_nx, upd_nx, res_nx, putAt_nx] <;> omega) | decide) only [rUz, ↓reduceIte, Nat.reduceEqDiff, Nat.reduceAdd, decide_eq_false hl2, decide_eq_false hln, hb2, hb3, fieldAddr_ptr fA0 s3, fieldAddr_ptr fRr1 s3, p3, decide_eq_true hr1]
    repeat refine S.seq ?_
    refine S.cond (v := true) (by first | rfl | (simp (disch := first | omega | (simp only [add_nx, upd_nx, res_nx, putAt_nx] <;> omega) | decide) only [rUz, ↓reduceIte, Nat.reduceEqDiff, Nat.reduceAdd] <;> rfl)) (fun _ => ?_) (fun e => by cases e)
    repeat refine S.seq ?_
    refine S.region ?_
    simp (disch := first | omega | (simp only [add_nx, upd_nx, res_nx, putAt_nx] <;> omega) | decide) only [rUz, ↓reduceIte, Nat.reduceEqDiff, Nat.reduceAdd]
    refine S.ret ?_
    try simp only [seqK_ret, blockK_ret]
    subst hF
    simp only [finish, endMarks]
    rw [show Try.f59.results.toList = [.tmp 4] from rfl]
    simp (disch := first | omega | (simp only [add_nx, upd_nx, res_nx, putAt_nx] <;> omega) | decide) only [resA, ev_tmp, tget_ne, tget_eq, get_ne, get_eq, upd_eq, upd_ne, ag_eq, ag_ne, result1]
    exact hK _ _ hk1 rfl
  by_cases hr2 : 100 < am
  · have e : irP n cs (l, am) = false := by unfold irP; rw [decide_eq_true hr2, Bool.or_true]; rfl
    rw [e] at hK
    repeat refine S.seq ?_
    refine S.region ?_
    simp (disch := first | omega | (simp only [add_nx, upd_nx, res_nx, putAt_nx] <;> omega) | decide) only [rUz, ↓reduceIte, Nat.reduceEqDiff, Nat.reduceAdd, decide_eq_false hl2, decide_eq_false hln, hb2, hb3, fieldAddr_ptr fA0 s3, fieldAddr_ptr fRr1 s3, p3, decide_eq_false hr1, decide_eq_true hr2]
    repeat refine S.seq ?_
    refine S.cond (v := true) (by first | rfl | (simp (disch := first | omega | (simp only [add_nx, upd_nx, res_nx, putAt_nx] <;> omega) | decide) only [rUz, ↓reduceIte, Nat.reduceEqDiff, Nat.reduceAdd] <;> rfl)) (fun _ => ?_) (fun e => by cases e)
    repeat refine S.seq ?_
    refine S.region ?_
    simp (disch := first | omega | (simp only [add_nx, upd_nx, res_nx, putAt_nx] <;> omega) | decide) only [rUz, ↓reduceIte, Nat.reduceEqDiff, Nat.reduceAdd]
    refine S.ret ?_
    try simp only [seqK_ret, blockK_ret]
    subst hF
    simp only [finish, endMarks]
    rw [show Try.f59.results.toList = [.tmp 4] from rfl]
    simp (disch := first | omega | (simp only [add_nx, upd_nx, res_nx, putAt_nx] <;> omega) | decide) only [resA, ev_tmp, tget_ne, tget_eq, get_ne, get_eq, upd_eq, upd_ne, ag_eq, ag_ne, result1]
    exact hK _ _ hk1 rfl
  have e0 : irP n cs (l, am) = (l.all (inC cs) && ringB cs l) := by unfold irP; rw [decide_eq_false hl2, decide_eq_false hln, decide_eq_false hr1, decide_eq_false hr2]; rfl
  rw [e0] at hK
  clear e0
  repeat refine S.seq ?_
  refine S.region ?_
  simp (disch := first | omega | (simp only [add_nx, upd_nx, res_nx, putAt_nx] <;> omega) | decide) only [rUz, ↓reduceIte, Nat.reduceEqDiff, Nat.reduceAdd, decide_eq_false hl2, decide_eq_false hln, hb2, hb3, fieldAddr_ptr fA0 s3, fieldAddr_ptr fRr1 s3, p3, decide_eq_false hr1, decide_eq_false hr2]
  repeat refine S.seq ?_
  refine S.cond (v := false) (by first | rfl | (simp (disch := first | omega | (simp only [add_nx, upd_nx, res_nx, putAt_nx] <;> omega) | decide) only [rUz, ↓reduceIte, Nat.reduceEqDiff, Nat.reduceAdd] <;> rfl)) (fun e => by cases e) (fun _ => ?_)
  repeat refine S.seq ?_
  refine S.skip ?_
  simp (disch := first | omega | (simp only [add_nx, upd_nx, res_nx, putAt_nx] <;> omega) | decide) only [rUz, ↓reduceIte, Nat.reduceEqDiff, Nat.reduceAdd]
  repeat refine S.seq ?_
  refine S.region ?_
  simp (disch := first | omega | (simp only [add_nx, upd_nx, res_nx, putAt_nx] <;> omega) | decide) only [rUz, ↓reduceIte, Nat.reduceEqDiff, Nat.reduceAdd]
  repeat refine S.seq ?_
  refine S.block ?_
  refine S.loop (ι := Nat) (IRa cs l H1 h0.nx (h0.nx + 1)) (fun k => l.length - k) ?_ 0 _ _ ?_
  · intro k t h ⟨hk0, hh, hall, t2, t3, t5, t6⟩ K' hn he
    subst hh
    repeat refine S.seq ?_
    refine S.region ?_
    simp (disch := first | omega | (simp only [add_nx, upd_nx, res_nx, putAt_nx] <;> omega) | decide) only [rUz, ↓reduceIte, Nat.reduceEqDiff, Nat.reduceAdd, t5, t6]
    repeat refine S.seq ?_
    refine S.cond (v := decide ((k : Int) < (l.length : Int))) (by first | rfl | (simp (disch := first | omega | (simp only [add_nx, upd_nx, res_nx, putAt_nx] <;> omega) | decide) only [rUz, ↓reduceIte, Nat.reduceEqDiff, Nat.reduceAdd] <;> rfl)) (fun e => ?_) (fun e => ?_)
    · have hkn : k < l.length := by have := of_decide_eq_true e; omega
      clear e
      obtain ⟨bl, fl, rl, w1, w2, w3, w4⟩ := (hl.mono hk1).idx slI s3' hkn
      rw [List.drop_eq_getElem_cons hkn, List.all_cons] at hall
      generalize l[k] = x at w4 hall
      repeat refine S.seq ?_
      refine S.skip ?_
      simp (disch := first | omega | (simp only [add_nx, upd_nx, res_nx, putAt_nx] <;> omega) | decide) only [rUz, ↓reduceIte, Nat.reduceEqDiff, Nat.reduceAdd]
      repeat refine S.seq ?_
      refine S.block ?_
      repeat refine S.seq ?_
      refine S.drawnL [(false, 0), (false, 1), (false, 0), (false, 7), (false, 15), (false, 0), (false, 32), (false, 96), (false, 224), (true, 511), (false, 1023)] (by kernel_rfl) (by kernel_rfl) (by kernel_rfl) ?_
      simp (disch := first | omega | (simp only [add_nx, upd_nx, res_nx, putAt_nx] <;> omega) | decide) only [rUz, ↓reduceIte, Nat.reduceEqDiff, Nat.reduceAdd, rDz, infoL, Nat.reduceSub, t2, t3, t6, hb2, hb3, fieldAddr_ptr fA1 sAc, pAc, fieldAddr_ptr fRr0 sI1, pI1, w1, w3, w4, p3, hlc]
      refine drW_brings (fid := 19) (first := #[]) (captured := #[]) (Post := fun v g => v = .bool (inB x 0 ((cs.length : Int) - 1)) ∧ g = h) (by first | rfl | (simp (disch := first | omega | (simp only [add_nx, upd_nx, res_nx, putAt_nx] <;> omega) | decide) only [rUz, ↓reduceIte, Nat.reduceEqDiff, Nat.reduceAdd]; rfl) | (simp (disch := first | omega | (simp only [add_nx, upd_nx, res_nx, putAt_nx] <;> omega) | decide) only [rUz, ↓reduceIte, Nat.reduceEqDiff, Nat.reduceAdd])) (hoff _ _ _ rfl) (by simp (disch := first | omega | (simp only [add_nx, upd_nx, res_nx, putAt_nx] <;> omega) | decide) only [rUz, ↓reduceIte, Nat.reduceEqDiff, Nat.reduceAdd]; exact in_y S _ _ _ _) (Nat.le_of_ble_eq_true rfl) ?_
      rintro v g - ⟨rfl, rfl⟩
      refine ⟨?_, ?_⟩
      · try simp (disch := first | decide | rfl) only [again_nil, again_skip, again_free]
      simp (disch := first | omega | (simp only [add_nx, upd_nx, res_nx, putAt_nx] <;> omega) | decide) only [rUz, ↓reduceIte, Nat.reduceEqDiff, Nat.reduceAdd, rDz, infoL, Nat.reduceSub, un_not]
      --IN1
      cases hi : inB x 0 ((cs.length : Int) - 1) with
      | true =>
        rw [show inC cs x = true from hi, Bool.true_and] at hall
        repeat refine S.seq ?_
        refine S.cond (v := false) (by first | rfl | (simp (disch := first | omega | (simp only [add_nx, upd_nx, res_nx, putAt_nx] <;> omega) | decide) only [rUz, ↓reduceIte, Nat.reduceEqDiff, Nat.reduceAdd, hi, Bool.not_true] <;> rfl)) (fun e => by cases e) (fun _ => ?_)
        repeat refine S.seq ?_
        refine S.skip ?_
        simp (disch := first | omega | (simp only [add_nx, upd_nx, res_nx, putAt_nx] <;> omega) | decide) only [rUz, ↓reduceIte, Nat.reduceEqDiff, Nat.reduceAdd]
        repeat refine S.seq ?_
        refine S.region ?_
        simp (disch := first | omega | (simp only [add_nx, upd_nx, res_nx, putAt_nx] <;> omega) | decide) only [rUz, ↓reduceIte, Nat.reduceEqDiff, Nat.reduceAdd, t6]
        refine hn (k + 1) _ _ (by omega) ⟨by omega, rfl, hall, ?_, ?_, ?_, ?_⟩
        all_goals (first | rfl | (simp (disch := first | omega | (simp only [add_nx, upd_nx, res_nx, putAt_nx] <;> omega) | decide) only [rUz, ↓reduceIte, Nat.reduceEqDiff, Nat.reduceAdd, t2, t3, t5, t6]; done) | (simp (disch := first | omega | (simp only [add_nx, upd_nx, res_nx, putAt_nx] <;> omega) | decide) only [rUz, ↓reduceIte, Nat.reduceEqDiff, Nat.reduceAdd, t2, t3, t5, t6]; rfl))
      | false =>
        rw [show inC cs x = false from hi, Bool.false_and] at hall
        rw [hall, Bool.false_and] at hK
        repeat refine S.seq ?_
        refine S.cond (v := true) (by first | rfl | (simp (disch := first | omega | (simp only [add_nx, upd_nx, res_nx, putAt_nx] <;> omega) | decide) only [rUz, ↓reduceIte, Nat.reduceEqDiff, Nat.reduceAdd, hi, Bool.not_false] <;> rfl)) (fun _ => ?_) (fun e => by cases e)
        repeat refine S.seq ?_
        refine S.region ?_
        simp (disch := first | omega | (simp only [add_nx, upd_nx, res_nx, putAt_nx] <;> omega) | decide) only [rUz, ↓reduceIte, Nat.reduceEqDiff, Nat.reduceAdd]
        refine S.ret ?_
        simp only [seqK_ret, blockK_ret]
        refine he _ _ _ _ (fun e => by cases e) ?_
        simp only [seqK_ret, blockK_ret]
        subst hF
        simp only [finish, endMarks]
        rw [show Try.f59.results.toList = [.tmp 4] from rfl]
        simp (disch := omega) only [resA, ev_tmp, tget_ne, tget_eq, result1]
        exact hK _ _ (hk1) rfl
    · have hkn : k = l.length := by have := of_decide_eq_false e; omega
      subst hkn
      rw [List.drop_of_length_le (Nat.le_refl _), List.all_nil] at hall
      rw [hall, Bool.true_and] at hK
      refine S.exit (he _ _ _ _ (fun e => by cases e) ?_)
      clear he hn e
      simp (disch := first | omega | (simp only [add_nx, upd_nx, res_nx, putAt_nx] <;> omega) | decide) only [rUz, ↓reduceIte, Nat.reduceEqDiff, Nat.reduceAdd]
      repeat refine S.seq ?_
      refine S.region ?_
      simp (disch := first | omega | (simp only [add_nx, upd_nx, res_nx, putAt_nx] <;> omega) | decide) only [rUz, ↓reduceIte, Nat.reduceEqDiff, Nat.reduceAdd]
      repeat refine S.seq ?_
      refine S.block ?_
      refine S.loop (ι := Nat) (IRb cs l h h0.nx (h0.nx + 1)) (fun k => l.length - k) ?_ 0 _ _ ?_
      · clear t2 t3 t5 t6 hk0
        intro k t1 h1 ⟨hk0, hkp, hrg, t2, t3, t5, t7⟩ K2 hn2 he2
        repeat refine S.seq ?_
        refine S.region ?_
        simp (disch := first | omega | (simp only [add_nx, upd_nx, res_nx, putAt_nx] <;> omega) | decide) only [rUz, ↓reduceIte, Nat.reduceEqDiff, Nat.reduceAdd, t5, t7]
        repeat refine S.seq ?_
        refine S.cond (v := decide ((k : Int) < (l.length : Int))) (by first | rfl | (simp (disch := first | omega | (simp only [add_nx, upd_nx, res_nx, putAt_nx] <;> omega) | decide) only [rUz, ↓reduceIte, Nat.reduceEqDiff, Nat.reduceAdd] <;> rfl)) (fun e => ?_) (fun e => ?_)
        · have hkn : k < l.length := by have := of_decide_eq_true e; omega
          clear e
          have hlh := hl.mono (hk1.trans hkp)
          have hx : l[k]? = some l[k] := List.getElem?_eq_getElem hkn
          have hgd : l.getD k 0 = l[k] := by rw [List.getD_eq_getElem?_getD, hx]; rfl
          obtain ⟨i, hi, hci⟩ := cAt_get (List.all_eq_true.1 hall _ (List.getElem_mem hkn))
          have hm : (k + 1) % l.length < l.length := Nat.mod_lt _ (by omega)
          have hgy : l.getD ((k + 1) % l.length) 0 = l[(k + 1) % l.length] := by rw [List.getD_eq_getElem?_getD, List.getElem?_eq_getElem hm]; rfl
          obtain ⟨j, hj, hcj⟩ := cAt_get (List.all_eq_true.1 hall _ (List.getElem_mem hm))
          have hst : stepOK cs l k = (decide ((cAt cs l[k]).2.1 = (cAt cs l[(k + 1) % l.length]).1) && !(soldB cs l k (cAt cs l[k]).1)) := by
            unfold stepOK soldB; rw [hgd, hgy]
          rw [range_drop_all _ _ _ hkn, hst] at hrg
          generalize cAt cs l[(k + 1) % l.length] = d at hcj hrg
          generalize cAt cs l[k] = c at hci hrg
          clear hst hgd hgy
          repeat refine S.seq ?_
          refine S.skip ?_
          simp (disch := first | omega | (simp only [add_nx, upd_nx, res_nx, putAt_nx] <;> omega) | decide) only [rUz, ↓reduceIte, Nat.reduceEqDiff, Nat.reduceAdd]
          repeat refine S.seq ?_
          refine S.block ?_
          refine S.seq ?_
          refine at_ops' (o := sOps 12) (by kernel_rfl) ?_
          refine first_y S h1 n cv s am cs (hc.mono (hk1.trans hkp)) l hlh h0.nx (h0.nx + 1) (by have := hkp.1; omega) (by have := hkp.1; omega) ((hkp.get (by omega)).trans hb2) ((hkp.get hlt).trans hb3) k i hkn c hi hci _ (by simp (disch := first | omega | (simp only [add_nx, upd_nx, res_nx, putAt_nx] <;> omega) | decide) only [rUz, ↓reduceIte, Nat.reduceEqDiff, Nat.reduceAdd, t2]) (by simp (disch := first | omega | (simp only [add_nx, upd_nx, res_nx, putAt_nx] <;> omega) | decide) only [rUz, ↓reduceIte, Nat.reduceEqDiff, Nat.reduceAdd, t3]) (by simp (disch := first | omega | (simp only [add_nx, upd_nx, res_nx, putAt_nx] <;> omega) | decide) only [rUz, ↓reduceIte, Nat.reduceEqDiff, Nat.reduceAdd, t7]) _ ?_
          intro t' h2 a1 b8 a3 fr t8
          have u2 := (fr 2 (by omega) (by omega)).trans (by simp (disch := first | omega | (simp only [add_nx, upd_nx, res_nx, putAt_nx] <;> omega) | decide) only [rUz, ↓reduceIte, Nat.reduceEqDiff, Nat.reduceAdd, t2] : _ = ptr0 h0.nx)
          have u3' := (fr 3 (by omega) (by omega)).trans (by simp (disch := first | omega | (simp only [add_nx, upd_nx, res_nx, putAt_nx] <;> omega) | decide) only [rUz, ↓reduceIte, Nat.reduceEqDiff, Nat.reduceAdd, t3] : _ = ptr0 (h0.nx + 1))
          have u5 := (fr 5 (by omega) (by omega)).trans (by simp (disch := first | omega | (simp only [add_nx, upd_nx, res_nx, putAt_nx] <;> omega) | decide) only [rUz, ↓reduceIte, Nat.reduceEqDiff, Nat.reduceAdd, t5] : _ = iv (l.length : Int))
          have u7 := (fr 7 (by omega) (by omega)).trans (by simp (disch := first | omega | (simp only [add_nx, upd_nx, res_nx, putAt_nx] <;> omega) | decide) only [rUz, ↓reduceIte, Nat.reduceEqDiff, Nat.reduceAdd, t7] : _ = iv (k : Int))
          have hkp' := hkp.trans a1
          have hkk := hk1.trans hkp'
          have hb2k := (hkp'.get (by omega)).trans hb2
          have hb3k := (hkp'.get hlt).trans hb3
          obtain ⟨bl, fl, rl, w1, w2, w3, w4⟩ := (hl.mono hkk).idx slI s3' hm
          rw [hj] at w4
          obtain ⟨b, fb, ro, cells, q1, q2, q3, q4, q5, q6, _⟩ := (hc.mono hkk).idx slA sK hcj
          have htm := tmod_nat k l.length
          generalize (k + 1) % l.length = m at hm w1 w4 htm hj
          clear fr t2 t3 t5 t7
          repeat refine S.seq ?_
          refine S.drawnL [(false, 0), (false, 1), (false, 0), (false, 4), (false, 0), (false, 16), (false, 0), (false, 112), (false, 252), (false, 508), (false, 1023), (false, 2047), (false, 4095), (false, 0), (false, 8192), (false, 32767)] (by kernel_rfl) (by kernel_rfl) (by kernel_rfl) ?_
          simp (disch := first | omega | (simp only [add_nx, upd_nx, res_nx, putAt_nx] <;> omega) | decide) only [rUz, ↓reduceIte, Nat.reduceEqDiff, Nat.reduceAdd, rDz, infoL, Nat.reduceSub, u2, u3', u5, u7, t8, b8, hb2k, hb3k, fieldAddr_ptr fA1 sAc, pAc, fieldAddr_ptr fRr0 sI1, pI1, fieldAddr_ptr fK0 s3, fieldAddr_ptr fK1 s3, p3, w1, w3, w4, q1, q3, q6, cc1]
          rw [bin_rem (i := (k : Int) + 1) (j := (l.length : Int)) (by simp (disch := first | omega | (simp only [add_nx, upd_nx, res_nx, putAt_nx] <;> omega) | decide) only [rUz, ↓reduceIte, Nat.reduceEqDiff, Nat.reduceAdd]) (by simp (disch := first | omega | (simp only [add_nx, upd_nx, res_nx, putAt_nx] <;> omega) | decide) only [rUz, ↓reduceIte, Nat.reduceEqDiff, Nat.reduceAdd, u5]) (by omega), htm]
          simp (disch := first | omega | (simp only [add_nx, upd_nx, res_nx, putAt_nx] <;> omega) | decide) only [rUz, ↓reduceIte, Nat.reduceEqDiff, Nat.reduceAdd, rDz, infoL, Nat.reduceSub, u2, u3', u5, u7, t8, b8, hb2k, hb3k, fieldAddr_ptr fA1 sAc, pAc, fieldAddr_ptr fRr0 sI1, pI1, fieldAddr_ptr fK0 s3, fieldAddr_ptr fK1 s3, p3, w1, w3, w4, q1, q3, q6, cc1]
          by_cases hne : c.2.1 = d.1
          rotate_left
          · have hd : (!decide (c.2.1 = d.1)) = true := by rw [decide_eq_false hne]; rfl
            have hd' : (!decide (d.1 = c.2.1)) = true := by rw [decide_eq_false fun e => hne e.symm]; rfl
            rw [decide_eq_false hne, Bool.false_and, Bool.false_and] at hrg
            rw [hrg] at hK
            repeat refine S.seq ?_
            refine S.cond (v := true) (by first | rfl | (simp (disch := first | omega | (simp only [add_nx, upd_nx, res_nx, putAt_nx] <;> omega) | decide) only [rUz, ↓reduceIte, Nat.reduceEqDiff, Nat.reduceAdd, hd, hd'] <;> rfl)) (fun _ => ?_) (fun e => by cases e)
            repeat refine S.seq ?_
            refine S.region ?_
            simp (disch := first | omega | (simp only [add_nx, upd_nx, res_nx, putAt_nx] <;> omega) | decide) only [rUz, ↓reduceIte, Nat.reduceEqDiff, Nat.reduceAdd]
            refine S.ret ?_
            simp only [seqK_ret, blockK_ret]
            refine he2 _ _ _ _ (fun e => by cases e) ?_
            simp only [seqK_ret, blockK_ret]
            subst hF
            simp only [finish, endMarks]
            rw [show Try.f59.results.toList = [.tmp 4] from rfl]
            simp (disch := omega) only [resA, ev_tmp, tget_ne, tget_eq, result1]
            exact hK _ _ (hkk) rfl
          have hd : (!decide (c.2.1 = d.1)) = false := by rw [decide_eq_true hne]; rfl
          have hd' : (!decide (d.1 = c.2.1)) = false := by rw [decide_eq_true hne.symm]; rfl
          rw [decide_eq_true hne, Bool.true_and] at hrg
          repeat refine S.seq ?_
          refine S.cond (v := false) (by first | rfl | (simp (disch := first | omega | (simp only [add_nx, upd_nx, res_nx, putAt_nx] <;> omega) | decide) only [rUz, ↓reduceIte, Nat.reduceEqDiff, Nat.reduceAdd, hd, hd'] <;> rfl)) (fun e => by cases e) (fun _ => ?_)
          repeat refine S.seq ?_
          refine S.skip ?_
          simp (disch := first | omega | (simp only [add_nx, upd_nx, res_nx, putAt_nx] <;> omega) | decide) only [rUz, ↓reduceIte, Nat.reduceEqDiff, Nat.reduceAdd]
          repeat refine S.seq ?_
          refine S.region ?_
          simp (disch := first | omega | (simp only [add_nx, upd_nx, res_nx, putAt_nx] <;> omega) | decide) only [rUz, ↓reduceIte, Nat.reduceEqDiff, Nat.reduceAdd]
          repeat refine S.seq ?_
          refine S.block ?_
          refine S.loop (ι := Nat) (IRc cs l c k h2 h0.nx (h0.nx + 1) h1.nx) (fun j => k - j) ?_ 0 _ _ ?_
          · clear u2 u3' u5 u7 t8 w1 w3 w4 q1 q3 q4 q5 q6 htm
            intro j2 t3 h3 ⟨hj0, hh3, hsd, u2, u3, u5, u7, u8, u9⟩ K3 hn3 he3
            subst hh3
            repeat refine S.seq ?_
            refine S.region ?_
            simp (disch := first | omega | (simp only [add_nx, upd_nx, res_nx, putAt_nx] <;> omega) | decide) only [rUz, ↓reduceIte, Nat.reduceEqDiff, Nat.reduceAdd, u7, u9]
            repeat refine S.seq ?_
            refine S.cond (v := decide ((j2 : Int) < (k : Int))) (by first | rfl | (simp (disch := first | omega | (simp only [add_nx, upd_nx, res_nx, putAt_nx] <;> omega) | decide) only [rUz, ↓reduceIte, Nat.reduceEqDiff, Nat.reduceAdd] <;> rfl)) (fun e => ?_) (fun e => ?_)
            · have hjk : j2 < k := by have := of_decide_eq_true e; omega
              clear e
              have hjl : j2 < l.length := by omega
              obtain ⟨y, hy, hcy⟩ := cAt_get (List.all_eq_true.1 hall _ (List.getElem_mem hjl))
              obtain ⟨bl, fl, rl, w1, w2, w3, w4⟩ := (hl.mono hkk).idx slI s3' hjl
              have hsn := soldB_succ cs l j2 l[j2] (List.getElem?_eq_getElem hjl) c.1
              have hmono := soldB_le cs l (j2 + 1) k (by omega) c.1
              rw [hsd, Bool.false_or] at hsn
              rw [hy] at w4
              obtain ⟨b, fb, ro, cells, q1, q2, q3, q4, q5, q6, _⟩ := (hc.mono hkk).idx slA sK hcy
              generalize cAt cs l[j2] = z at hcy hsn q4 q6
              repeat refine S.seq ?_
              refine S.skip ?_
              simp (disch := first | omega | (simp only [add_nx, upd_nx, res_nx, putAt_nx] <;> omega) | decide) only [rUz, ↓reduceIte, Nat.reduceEqDiff, Nat.reduceAdd]
              repeat refine S.seq ?_
              refine S.block ?_
              by_cases hez : z.1 = c.1
              · rw [decide_eq_true hez] at hsn
                rw [hmono hsn, Bool.not_true, Bool.false_and] at hrg
                rw [hrg] at hK
                repeat refine S.seq ?_
                refine S.ordered (by kernel_rfl) (by kernel_rfl) (by kernel_rfl) (by kernel_rfl) ?_
                simp (disch := first | omega | (simp only [add_nx, upd_nx, res_nx, putAt_nx] <;> omega) | decide) only [rUz, ↓reduceIte, Nat.reduceEqDiff, Nat.reduceAdd, u2, u3, u7, u8, u9, b8, hb2k, hb3k, fieldAddr_ptr fA1 sAc, pAc, fieldAddr_ptr fRr0 sI1, pI1, fieldAddr_ptr fK0 s3, fieldAddr_ptr fK1 s3, p3, w1, w3, w4, q1, q3, q6, cc0, decide_eq_true hez, decide_eq_true hez.symm]
                repeat refine S.seq ?_
                refine S.cond (v := true) (by first | rfl | (simp (disch := first | omega | (simp only [add_nx, upd_nx, res_nx, putAt_nx] <;> omega) | decide) only [rUz, ↓reduceIte, Nat.reduceEqDiff, Nat.reduceAdd] <;> rfl)) (fun _ => ?_) (fun e => by cases e)
                repeat refine S.seq ?_
                refine S.region ?_
                simp (disch := first | omega | (simp only [add_nx, upd_nx, res_nx, putAt_nx] <;> omega) | decide) only [rUz, ↓reduceIte, Nat.reduceEqDiff, Nat.reduceAdd]
                refine S.ret ?_
                simp only [seqK_ret, blockK_ret]
                refine he3 _ _ _ _ (fun e => by cases e) ?_
                simp only [seqK_ret, blockK_ret]
                refine he2 _ _ _ _ (fun e => by cases e) ?_
                simp only [seqK_ret, blockK_ret]
                subst hF
                simp only [finish, endMarks]
                rw [show Try.f59.results.toList = [.tmp 4] from rfl]
                simp (disch := omega) only [resA, ev_tmp, tget_ne, tget_eq, result1]
                exact hK _ _ (hkk) rfl
              · rw [decide_eq_false hez] at hsn
                repeat refine S.seq ?_
                refine S.ordered (by kernel_rfl) (by kernel_rfl) (by kernel_rfl) (by kernel_rfl) ?_
                simp (disch := first | omega | (simp only [add_nx, upd_nx, res_nx, putAt_nx] <;> omega) | decide) only [rUz, ↓reduceIte, Nat.reduceEqDiff, Nat.reduceAdd, u2, u3, u7, u8, u9, b8, hb2k, hb3k, fieldAddr_ptr fA1 sAc, pAc, fieldAddr_ptr fRr0 sI1, pI1, fieldAddr_ptr fK0 s3, fieldAddr_ptr fK1 s3, p3, w1, w3, w4, q1, q3, q6, cc0, decide_eq_false hez, decide_eq_false (fun e : c.1 = z.1 => hez e.symm)]
                repeat refine S.seq ?_
                refine S.cond (v := false) (by first | rfl | (simp (disch := first | omega | (simp only [add_nx, upd_nx, res_nx, putAt_nx] <;> omega) | decide) only [rUz, ↓reduceIte, Nat.reduceEqDiff, Nat.reduceAdd] <;> rfl)) (fun e => by cases e) (fun _ => ?_)
                repeat refine S.seq ?_
                refine S.skip ?_
                simp (disch := first | omega | (simp only [add_nx, upd_nx, res_nx, putAt_nx] <;> omega) | decide) only [rUz, ↓reduceIte, Nat.reduceEqDiff, Nat.reduceAdd]
                repeat refine S.seq ?_
                refine S.region ?_
                simp (disch := first | omega | (simp only [add_nx, upd_nx, res_nx, putAt_nx] <;> omega) | decide) only [rUz, ↓reduceIte, Nat.reduceEqDiff, Nat.reduceAdd, u9]
                refine hn3 (j2 + 1) _ _ (by omega) ⟨hjk, rfl, hsn, ?_, ?_, ?_, ?_, ?_, ?_⟩
                all_goals (first | rfl | (simp (disch := first | omega | (simp only [add_nx, upd_nx, res_nx, putAt_nx] <;> omega) | decide) only [rUz, ↓reduceIte, Nat.reduceEqDiff, Nat.reduceAdd, u2, u3, u5, u7, u8, u9]; done) | (simp (disch := first | omega | (simp only [add_nx, upd_nx, res_nx, putAt_nx] <;> omega) | decide) only [rUz, ↓reduceIte, Nat.reduceEqDiff, Nat.reduceAdd, u2, u3, u5, u7, u8, u9]; rfl))
            · have hjk : j2 = k := by have := of_decide_eq_false e; omega
              subst hjk
              rw [hsd, Bool.not_false, Bool.true_and] at hrg
              refine S.exit (he3 _ _ _ _ (fun e => by cases e) ?_)
              simp (disch := first | omega | (simp only [add_nx, upd_nx, res_nx, putAt_nx] <;> omega) | decide) only [rUz, ↓reduceIte, Nat.reduceEqDiff, Nat.reduceAdd]
              repeat refine S.seq ?_
              refine S.region ?_
              simp (disch := first | omega | (simp only [add_nx, upd_nx, res_nx, putAt_nx] <;> omega) | decide) only [rUz, ↓reduceIte, Nat.reduceEqDiff, Nat.reduceAdd, u7]
              refine hn2 (j2 + 1) _ _ (by omega) ⟨hkn, hkp', hrg, ?_, ?_, ?_, ?_⟩
              all_goals (first | rfl | (simp (disch := first | omega | (simp only [add_nx, upd_nx, res_nx, putAt_nx] <;> omega) | decide) only [rUz, ↓reduceIte, Nat.reduceEqDiff, Nat.reduceAdd, u2, u3, u5, u7]; done) | (simp (disch := first | omega | (simp only [add_nx, upd_nx, res_nx, putAt_nx] <;> omega) | decide) only [rUz, ↓reduceIte, Nat.reduceEqDiff, Nat.reduceAdd, u2, u3, u5, u7]; rfl))
          · refine ⟨Nat.zero_le _, rfl, rfl, ?_, ?_, ?_, ?_, ?_, ?_⟩
            all_goals (first | rfl | (simp (disch := first | omega | (simp only [add_nx, upd_nx, res_nx, putAt_nx] <;> omega) | decide) only [rUz, ↓reduceIte, Nat.reduceEqDiff, Nat.reduceAdd, u2, u3', u5, u7, t8]; done) | (simp (disch := first | omega | (simp only [add_nx, upd_nx, res_nx, putAt_nx] <;> omega) | decide) only [rUz, ↓reduceIte, Nat.reduceEqDiff, Nat.reduceAdd, u2, u3', u5, u7, t8]; rfl))
        · have hkn : k = l.length := by have := of_decide_eq_false e; omega
          subst hkn
          rw [List.drop_of_length_le (by rw [List.length_range]; omega), List.all_nil] at hrg
          rw [hrg] at hK
          refine S.exit (he2 _ _ _ _ (fun e => by cases e) ?_)
          simp (disch := first | omega | (simp only [add_nx, upd_nx, res_nx, putAt_nx] <;> omega) | decide) only [rUz, ↓reduceIte, Nat.reduceEqDiff, Nat.reduceAdd]
          repeat refine S.seq ?_
          refine S.region ?_
          simp (disch := first | omega | (simp only [add_nx, upd_nx, res_nx, putAt_nx] <;> omega) | decide) only [rUz, ↓reduceIte, Nat.reduceEqDiff, Nat.reduceAdd]
          refine S.ret ?_
          try simp only [seqK_ret, blockK_ret]
          subst hF
          simp only [finish, endMarks]
          rw [show Try.f59.results.toList = [.tmp 4] from rfl]
          simp (disch := first | omega | (simp only [add_nx, upd_nx, res_nx, putAt_nx] <;> omega) | decide) only [resA, ev_tmp, tget_ne, tget_eq, get_ne, get_eq, upd_eq, upd_ne, ag_eq, ag_ne, result1]
          exact hK _ _ (hk1.trans hkp) rfl
      · refine ⟨Nat.zero_le _, Kp.refl, rfl, ?_, ?_, ?_, ?_⟩
        all_goals (first | rfl | (simp (disch := first | omega | (simp only [add_nx, upd_nx, res_nx, putAt_nx] <;> omega) | decide) only [rUz, ↓reduceIte, Nat.reduceEqDiff, Nat.reduceAdd, t2, t3, t5]; done) | (simp (disch := first | omega | (simp only [add_nx, upd_nx, res_nx, putAt_nx] <;> omega) | decide) only [rUz, ↓reduceIte, Nat.reduceEqDiff, Nat.reduceAdd, t2, t3, t5]; rfl))
  · refine ⟨Nat.zero_le _, rfl, rfl, ?_, ?_, ?_, ?_⟩
    all_goals (first | rfl | (simp (disch := first | omega | (simp only [add_nx, upd_nx, res_nx, putAt_nx] <;> omega) | decide) only [rUz, ↓reduceIte, Nat.reduceEqDiff, Nat.reduceAdd]; done) | (simp (disch := first | omega | (simp only [add_nx, upd_nx, res_nx, putAt_nx] <;> omega) | decide) only [rUz, ↓reduceIte, Nat.reduceEqDiff, Nat.reduceAdd]; rfl))
end Go.Proofs.Rg
