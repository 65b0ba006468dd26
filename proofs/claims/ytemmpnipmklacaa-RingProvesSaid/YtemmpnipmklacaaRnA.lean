import Derived.Test.YtemmpnipmklacaaRn9
namespace Go.Proofs.Rg
open Go Go.Ev
set_option linter.unusedSimpArgs false

/-! ## The other side -/
variable {pr : Prim} {R : ExT}
def IIn (a b : List Int) (h0 : AHeap) (av bv : Value) (k : Nat) (t : T Value) (h : AHeap) : Prop :=
  k ≤ a.length ∧ h = h0 ∧ tget t 0 = av ∧ tget t 1 = bv ∧ tget t 5 = iv (k : Int) ∧ a.take k = b.take k
set_option maxHeartbeats 8000000 in
theorem ints_y (S : Ev.Steps Try.prog pr R) (h0 : AHeap) (av bv : Value) (a b : List Int) (ha : IAt h0 av a) (hb : IAt h0 bv b) (hsz : (a.length : Int) ≤ 1000000) :
    Brings Try.prog R 16 [av, bv] h0 fun v h => v = .bool (decide (a = b)) ∧ h = h0 := by
  refine brings_of (fn := Try.f16) (c := (Try.f16.body).getD .skip) (by kernel_rfl) rfl (by kernel_rfl) rfl (fun K hK => ?_)
  generalize hF : finish Try.prog Try.f16 K = KF
  simp only [Try.f16, Option.getD_some, argsT, setArgs, fV1_eq, T.setK_eq, id]
  have hla := fun t h1 o => ha.len isI t h1 o
  have hlb := fun t h1 o => hb.len isI t h1 o
  repeat refine S.seq ?_
  refine S.region ?_
  simp (disch := first | omega | (simp only [add_nx, upd_nx] <;> omega) | decide) only [rUz, ↓reduceIte, Nat.reduceEqDiff, Nat.reduceAdd]
  by_cases hl : (a.length : Int) = (b.length : Int)
  · have hd : (!decide ((a.length : Int) = (b.length : Int))) = false := by rw [decide_eq_true hl]; rfl
    have hl' : a.length = b.length := by omega
    repeat refine S.seq ?_
    refine S.region ?_
    simp (disch := first | omega | (simp only [add_nx, upd_nx] <;> omega) | decide) only [rUz, ↓reduceIte, Nat.reduceEqDiff, Nat.reduceAdd, hla, hlb, hd]
    repeat refine S.seq ?_
    refine S.cond (v := false) (by first | rfl | (simp (disch := first | omega | (simp only [add_nx, upd_nx] <;> omega) | decide) only [rUz, ↓reduceIte, Nat.reduceEqDiff, Nat.reduceAdd] <;> rfl)) (fun e => by cases e) (fun _ => ?_)
    repeat refine S.seq ?_
    refine S.skip ?_
    simp (disch := first | omega | (simp only [add_nx, upd_nx] <;> omega) | decide) only [rUz, ↓reduceIte, Nat.reduceEqDiff, Nat.reduceAdd]
    repeat refine S.seq ?_
    refine S.region ?_
    simp (disch := first | omega | (simp only [add_nx, upd_nx] <;> omega) | decide) only [rUz, ↓reduceIte, Nat.reduceEqDiff, Nat.reduceAdd]
    repeat refine S.seq ?_
    refine S.block ?_
    refine S.loop (ι := Nat) (IIn a b h0 av bv) (fun k => a.length - k) ?_ 0 _ _ ?_
    · intro k t h ⟨hk, hh, t0, t1, t5, htk⟩ K' hn he
      subst hh
      repeat refine S.seq ?_
      refine S.region ?_
      simp (disch := first | omega | (simp only [add_nx, upd_nx] <;> omega) | decide) only [rUz, ↓reduceIte, Nat.reduceEqDiff, Nat.reduceAdd, t0, t5, hla]
      repeat refine S.seq ?_
      refine S.cond (v := decide ((k : Int) < (a.length : Int))) (by first | rfl | (simp (disch := first | omega | (simp only [add_nx, upd_nx] <;> omega) | decide) only [rUz, ↓reduceIte, Nat.reduceEqDiff, Nat.reduceAdd] <;> rfl)) (fun e => ?_) (fun e => ?_)
      · have hkn : k < a.length := by have := of_decide_eq_true e; omega
        clear e
        have hkb : k < b.length := by omega
        obtain ⟨b1, f1, ro1, q1, q2, q3, q4⟩ := ha.idx slI s3' hkn
        obtain ⟨b2, f2, ro2, u1, u2, u3, u4⟩ := hb.idx slI s3' hkb
        repeat refine S.seq ?_
        refine S.skip ?_
        simp (disch := first | omega | (simp only [add_nx, upd_nx] <;> omega) | decide) only [rUz, ↓reduceIte, Nat.reduceEqDiff, Nat.reduceAdd]
        repeat refine S.seq ?_
        refine S.block ?_
        repeat refine S.seq ?_
        refine S.ordered (by kernel_rfl) (by kernel_rfl) (by kernel_rfl) (by kernel_rfl) ?_
        simp (disch := first | omega | (simp only [add_nx, upd_nx] <;> omega) | decide) only [rUz, ↓reduceIte, Nat.reduceEqDiff, Nat.reduceAdd, t0, t1, t5, q1, q3, q4, u1, u3, u4, p3]
        by_cases hx : a[k] = b[k]
        · have hd : (!decide (a[k] = b[k])) = false := by rw [decide_eq_true hx]; rfl
          repeat refine S.seq ?_
          refine S.cond (v := false) (by first | rfl | (simp (disch := first | omega | (simp only [add_nx, upd_nx] <;> omega) | decide) only [rUz, ↓reduceIte, Nat.reduceEqDiff, Nat.reduceAdd, hd] <;> rfl)) (fun e => by cases e) (fun _ => ?_)
          repeat refine S.seq ?_
          refine S.skip ?_
          simp (disch := first | omega | (simp only [add_nx, upd_nx] <;> omega) | decide) only [rUz, ↓reduceIte, Nat.reduceEqDiff, Nat.reduceAdd]
          repeat refine S.seq ?_
          refine S.region ?_
          simp (disch := first | omega | (simp only [add_nx, upd_nx] <;> omega) | decide) only [rUz, ↓reduceIte, Nat.reduceEqDiff, Nat.reduceAdd, t5]
          refine hn (k + 1) _ _ (by omega) ⟨by omega, rfl, ?_, ?_, ?_, ?_⟩
          rotate_right
          · rw [List.take_add_one, List.take_add_one, htk, List.getElem?_eq_getElem hkn, List.getElem?_eq_getElem hkb, hx]
          all_goals (first | rfl | (simp (disch := first | omega | (simp only [add_nx, upd_nx] <;> omega) | decide) only [rUz, ↓reduceIte, Nat.reduceEqDiff, Nat.reduceAdd, t0, t1, t5]; done) | (simp (disch := first | omega | (simp only [add_nx, upd_nx] <;> omega) | decide) only [rUz, ↓reduceIte, Nat.reduceEqDiff, Nat.reduceAdd, t0, t1, t5]; rfl))
        · have hd : (!decide (a[k] = b[k])) = true := by rw [decide_eq_false hx]; rfl
          have hne : decide (a = b) = false := decide_eq_false fun e => by subst e; exact hx rfl
          rw [hne] at hK
          repeat refine S.seq ?_
          refine S.cond (v := true) (by first | rfl | (simp (disch := first | omega | (simp only [add_nx, upd_nx] <;> omega) | decide) only [rUz, ↓reduceIte, Nat.reduceEqDiff, Nat.reduceAdd, hd] <;> rfl)) (fun _ => ?_) (fun e => by cases e)
          repeat refine S.seq ?_
          refine S.region ?_
          simp (disch := first | omega | (simp only [add_nx, upd_nx] <;> omega) | decide) only [rUz, ↓reduceIte, Nat.reduceEqDiff, Nat.reduceAdd]
          refine S.ret ?_
          simp only [seqK_ret, blockK_ret]
          refine he _ _ _ _ (fun e => by cases e) ?_
          simp only [seqK_ret, blockK_ret]
          subst hF
          simp only [finish, endMarks]
          rw [show Try.f16.results.toList = [.tmp 4] from rfl]
          simp (disch := omega) only [resA, ev_tmp, tget_ne, tget_eq, result1]
          exact hK _ _ Kp.refl ⟨rfl, rfl⟩
      · have hkn : k = a.length := by have := of_decide_eq_false e; omega
        subst hkn
        rw [List.take_of_length_le (Nat.le_refl _), hl', List.take_of_length_le (Nat.le_refl _)] at htk
        rw [decide_eq_true htk] at hK
        refine S.exit (he _ _ _ _ (fun e => by cases e) ?_)
        simp (disch := first | omega | (simp only [add_nx, upd_nx] <;> omega) | decide) only [rUz, ↓reduceIte, Nat.reduceEqDiff, Nat.reduceAdd]
        repeat refine S.seq ?_
        refine S.region ?_
        simp (disch := first | omega | (simp only [add_nx, upd_nx] <;> omega) | decide) only [rUz, ↓reduceIte, Nat.reduceEqDiff, Nat.reduceAdd]
        refine S.ret ?_
        try simp only [seqK_ret, blockK_ret]
        subst hF
        simp only [finish, endMarks]
        rw [show Try.f16.results.toList = [.tmp 4] from rfl]
        simp (disch := first | omega | (simp only [add_nx, upd_nx] <;> omega) | decide) only [resA, ev_tmp, tget_ne, tget_eq, get_ne, get_eq, upd_eq, upd_ne, ag_eq, ag_ne, result1]
        exact hK _ _ Kp.refl ⟨rfl, rfl⟩
    · refine ⟨Nat.zero_le _, rfl, ?_, ?_, ?_, rfl⟩
      all_goals (first | rfl | (simp (disch := first | omega | (simp only [add_nx, upd_nx] <;> omega) | decide) only [rUz, ↓reduceIte, Nat.reduceEqDiff, Nat.reduceAdd]; done) | (simp (disch := first | omega | (simp only [add_nx, upd_nx] <;> omega) | decide) only [rUz, ↓reduceIte, Nat.reduceEqDiff, Nat.reduceAdd]; rfl))
  · have hd : (!decide ((a.length : Int) = (b.length : Int))) = true := by rw [decide_eq_false hl]; rfl
    have hne : decide (a = b) = false := decide_eq_false fun e => by subst e; exact hl rfl
    rw [hne] at hK
    repeat refine S.seq ?_
    refine S.region ?_
    simp (disch := first | omega | (simp only [add_nx, upd_nx] <;> omega) | decide) only [rUz, ↓reduceIte, Nat.reduceEqDiff, Nat.reduceAdd, hla, hlb, hd]
    repeat refine S.seq ?_
    refine S.cond (v := true) (by first | rfl | (simp (disch := first | omega | (simp only [add_nx, upd_nx] <;> omega) | decide) only [rUz, ↓reduceIte, Nat.reduceEqDiff, Nat.reduceAdd] <;> rfl)) (fun _ => ?_) (fun e => by cases e)
    repeat refine S.seq ?_
    refine S.region ?_
    simp (disch := first | omega | (simp only [add_nx, upd_nx] <;> omega) | decide) only [rUz, ↓reduceIte, Nat.reduceEqDiff, Nat.reduceAdd]
    refine S.ret ?_
    try simp only [seqK_ret, blockK_ret]
    subst hF
    simp only [finish, endMarks]
    rw [show Try.f16.results.toList = [.tmp 4] from rfl]
    simp (disch := first | omega | (simp only [add_nx, upd_nx] <;> omega) | decide) only [resA, ev_tmp, tget_ne, tget_eq, get_ne, get_eq, upd_eq, upd_ne, ag_eq, ag_ne, result1]
    exact hK _ _ Kp.refl ⟨rfl, rfl⟩

/-! ## All numbers -/
theorem uI : Try.prog.underlying 27 = some (.slice 3) := by kernel_rfl
theorem n3 : numOk Try.prog 3 1 = true := by kernel_rfl
def IAl (cs : List C4) (h0 : AHeap) (hs : Int) (cv : Value) (lo B1 : Nat) (k : Nat) (t : T Value) (h : AHeap) : Prop :=
  k ≤ cs.length ∧ Kp h0 h ∧ lo ≤ h.nx ∧ h.bl.get B1 = some (.cells [iv hs, cv] B1 false) ∧ tget t 1 = ptr0 B1 ∧ tget t 4 = iv (k : Int) ∧ ∃ v F, tget t 3 = v ∧ App lo h 1 v ((nums (cs.take k)).map fun n => [iv n]) F
set_option maxHeartbeats 8000000 in
theorem all_y (S : Ev.Steps Try.prog pr R) (h0 : AHeap) (hs : Int) (cv : Value) (cs : List C4) (hc : CAt h0 cv cs) (hsz : cs.length ≤ 12) :
    Brings Try.prog R 18 [.agg ⟨[iv hs, cv]⟩] h0 fun v h => IAt h v (nums cs) := by
  refine brings_of (fn := Try.f18) (c := (Try.f18.body).getD .skip) (by kernel_rfl) rfl (by kernel_rfl) rfl (fun K hK => ?_)
  generalize hF : finish Try.prog Try.f18 K = KF
  simp only [Try.f18, Option.getD_some, argsT, setArgs, fV1_eq, T.setK_eq, id]
  have hlen := fun t h1 o => hc.len isA t h1 o
  repeat refine S.seq ?_
  refine S.region ?_
  simp (disch := first | omega | (simp only [add_nx, upd_nx] <;> omega) | decide) only [rUz, ↓reduceIte, Nat.reduceEqDiff, Nat.reduceAdd]
  have hb1 : (h0.add [iv hs, cv]).bl.get h0.nx = some (.cells [iv hs, cv] h0.nx false) := ag_eq rfl
  have hk1 : Kp h0 (h0.add [iv hs, cv]) := Kp.refl.add
  repeat refine S.seq ?_
  refine S.region ?_
  simp (disch := first | omega | (simp only [add_nx, upd_nx] <;> omega) | decide) only [rUz, ↓reduceIte, Nat.reduceEqDiff, Nat.reduceAdd]
  repeat refine S.seq ?_
  refine S.region ?_
  simp (disch := first | omega | (simp only [add_nx, upd_nx] <;> omega) | decide) only [rUz, ↓reduceIte, Nat.reduceEqDiff, Nat.reduceAdd]
  repeat refine S.seq ?_
  refine S.block ?_
  obtain ⟨lo, hlo0⟩ : ∃ x, x = h0.nx + 1 := ⟨_, rfl⟩
  refine S.loop (ι := Nat) (IAl cs h0 hs cv lo h0.nx) (fun k => cs.length - k) ?_ 0 _ _ ?_
  · clear hb1 hk1
    intro k t h ⟨hk, hkp, hlo, hb1, t1, t4, v, F, t3, happ⟩ K' hn he
    have hnx := hkp.1
    repeat refine S.seq ?_
    refine S.region ?_
    simp (disch := first | omega | (simp only [add_nx, upd_nx] <;> omega) | decide) only [rUz, ↓reduceIte, Nat.reduceEqDiff, Nat.reduceAdd, t1, t4, hb1, fieldAddr_ptr fA1 sAc, pAc, hlen]
    repeat refine S.seq ?_
    refine S.cond (v := decide ((k : Int) < (cs.length : Int))) (by first | rfl | (simp (disch := first | omega | (simp only [add_nx, upd_nx] <;> omega) | decide) only [rUz, ↓reduceIte, Nat.reduceEqDiff, Nat.reduceAdd] <;> rfl)) (fun e => ?_) (fun e => ?_)
    · have hkn : k < cs.length := by have := of_decide_eq_true e; omega
      clear e
      have hps : cs[k]? = some cs[k] := List.getElem?_eq_getElem hkn
      generalize cs[k] = c at hps
      obtain ⟨b, fb, ro, cells, q1, q2, q3, q4, q5, q6, q7, q8, q9⟩ := (hc.mono hkp).idx slA sK hps
      repeat refine S.seq ?_
      refine S.skip ?_
      simp (disch := first | omega | (simp only [add_nx, upd_nx] <;> omega) | decide) only [rUz, ↓reduceIte, Nat.reduceEqDiff, Nat.reduceAdd]
      repeat refine S.seq ?_
      refine S.block ?_
      repeat refine S.seq ?_
      refine S.region ?_
      simp (disch := first | omega | (simp only [add_nx, upd_nx] <;> omega) | decide) only [rUz, ↓reduceIte, Nat.reduceEqDiff, Nat.reduceAdd, t1, t3, t4, hb1, fieldAddr_ptr fA1 sAc, pAc, q1, q3, fieldAddr_ptr fK2 s3, p3, q8, w_buildSlice, w_append]
      refine wr_lit1 slI s3' z3 rfl (by omega) (u := iv c.2.2.1) (l := [iv c.2.2.1]) (by simp (disch := first | omega | (simp only [add_nx, upd_nx] <;> omega) | decide) only [rUz, ↓reduceIte, Nat.reduceEqDiff, Nat.reduceAdd]) rfl rfl ?_
      simp (disch := first | omega | (simp only [add_nx, upd_nx] <;> omega) | decide) only [rUz, ↓reduceIte, Nat.reduceEqDiff, Nat.reduceAdd, w_append]
      have hbx : (h.add [iv c.2.2.1]).bl.get h.nx = some (.cells [iv c.2.2.1] h.nx false) := ag_eq rfl
      refine wr_append slI uI (v := v) (bx := h.nx) (cx := 1) (by simp (disch := first | omega | (simp only [add_nx, upd_nx] <;> omega) | decide) only [rUz, ↓reduceIte, Nat.reduceEqDiff, Nat.reduceAdd]) (by simp (disch := first | omega | (simp only [add_nx, upd_nx] <;> omega) | decide) only [rUz, ↓reduceIte, Nat.reduceEqDiff, Nat.reduceAdd]) (happ.mono Kp.refl.add) (by show lo ≤ h.nx + 1; omega) s3' rfl (by omega) hbx n3 (by rw [List.length_map, nums, List.length_map, List.length_take]; show _ < 1000000; omega) ?_
      intro v3 h3 F3 a1 a2 a3 a4 a5
      simp (disch := first | omega | (simp only [add_nx, upd_nx] <;> omega) | decide) only [rUz, ↓reduceIte, Nat.reduceEqDiff, Nat.reduceAdd]
      repeat refine S.seq ?_
      refine S.region ?_
      simp (disch := first | omega | (simp only [add_nx, upd_nx] <;> omega) | decide) only [rUz, ↓reduceIte, Nat.reduceEqDiff, Nat.reduceAdd, t4]
      refine hn (k + 1) _ _ (by omega) ⟨by omega, a2.kp (by omega) hkp.add, ?_, ?_, ?_, ?_, v3, F3, ?_, ?_⟩
      · have := a2.1
        have e2 : (h.add [iv c.2.2.1]).nx = h.nx + 1 := rfl
        omega
      · rw [(a2.2 h0.nx (by omega)).1, ag_ne (by omega)]; exact hb1
      rotate_right
      · rw [List.take_add_one, hps]
        simp only [nums, List.map_append, List.map_cons, List.map_nil, Option.toList] at a1 ⊢
        exact a1
      all_goals (first | rfl | (simp (disch := first | omega | (simp only [add_nx, upd_nx] <;> omega) | decide) only [rUz, ↓reduceIte, Nat.reduceEqDiff, Nat.reduceAdd, t1, t4]; done) | (simp (disch := first | omega | (simp only [add_nx, upd_nx] <;> omega) | decide) only [rUz, ↓reduceIte, Nat.reduceEqDiff, Nat.reduceAdd, t1, t4]; rfl))
    · have hkn : k = cs.length := by have := of_decide_eq_false e; omega
      subst hkn
      rw [List.take_of_length_le (Nat.le_refl _)] at happ
      refine S.exit (he _ _ _ _ (fun e => by cases e) ?_)
      simp (disch := first | omega | (simp only [add_nx, upd_nx] <;> omega) | decide) only [rUz, ↓reduceIte, Nat.reduceEqDiff, Nat.reduceAdd]
      repeat refine S.seq ?_
      refine S.region ?_
      simp (disch := first | omega | (simp only [add_nx, upd_nx] <;> omega) | decide) only [rUz, ↓reduceIte, Nat.reduceEqDiff, Nat.reduceAdd, t3]
      refine S.ret ?_
      try simp only [seqK_ret, blockK_ret]
      subst hF
      simp only [finish, endMarks]
      rw [show Try.f18.results.toList = [.tmp 2] from rfl]
      simp (disch := first | omega | (simp only [add_nx, upd_nx] <;> omega) | decide) only [resA, ev_tmp, tget_ne, tget_eq, get_ne, get_eq, upd_eq, upd_ne, ag_eq, ag_ne, result1]
      exact hK _ _ hkp happ.at.ints
  · subst hlo0
    refine ⟨Nat.zero_le _, hk1, Nat.le_refl _, hb1, ?_, ?_, .slice none 0 0, 0, ?_, .inl ⟨rfl, rfl⟩⟩
    all_goals (first | rfl | (simp (disch := first | omega | (simp only [add_nx, upd_nx] <;> omega) | decide) only [rUz, ↓reduceIte, Nat.reduceEqDiff, Nat.reduceAdd]; done) | (simp (disch := first | omega | (simp only [add_nx, upd_nx] <;> omega) | decide) only [rUz, ↓reduceIte, Nat.reduceEqDiff, Nat.reduceAdd]; rfl))

/-! ## Sums for each house -/
def IN (n : Nat) (cs : List C4) (am : List Int) (h0 : AHeap) (B2 B5 : Nat) (cv av : Value) (k : Nat) (t : T Value) (h : AHeap) : Prop :=
  k ≤ cs.length ∧ Kp h0 h ∧ B2 < B5 ∧ h.bl.get B2 = some (.cells [iv (n : Int), cv] B2 false) ∧ tget t 1 = av ∧ tget t 2 = ptr0 B2 ∧ tget t 5 = .slice (some ⟨B5, 0, none⟩) n n ∧ tget t 6 = iv (k : Int) ∧
  ∃ acc, Own h B5 acc ∧ acc.length = n ∧ bnd (400000 * k) acc ∧ balG (cs.drop k) (am.drop k) acc = bal n cs am
set_option maxHeartbeats 16000000 in
theorem net_y (S : Ev.Steps Try.prog pr R) (h0 : AHeap) (n : Nat) (hn6 : n ≤ 6) (cv : Value) (cs : List C4) (hc : CAt h0 cv cs) (hsz : cs.length ≤ 12) (hv : Hs n cs) (av : Value) (am : List Int) (ha : IAt h0 av am) (hal : am.length = cs.length) (hb : bnd 200000 am) :
    Brings Try.prog R 17 [.agg ⟨[iv (n : Int), cv]⟩, av] h0 fun v h => IAt h v (bal n cs am) := by
  refine brings_of (fn := Try.f17) (c := (Try.f17.body).getD .skip) (by kernel_rfl) rfl (by kernel_rfl) rfl (fun K hK => ?_)
  generalize hF : finish Try.prog Try.f17 K = KF
  simp only [Try.f17, Option.getD_some, argsT, setArgs, fV1_eq, T.setK_eq, id]
  have hlen := fun t h1 o => hc.len isA t h1 o
  repeat refine S.seq ?_
  refine S.region ?_
  simp (disch := first | omega | (simp only [add_nx, upd_nx] <;> omega) | decide) only [rUz, ↓reduceIte, Nat.reduceEqDiff, Nat.reduceAdd]
  repeat refine S.seq ?_
  refine S.region ?_
  simp (disch := first | omega | (simp only [add_nx, upd_nx] <;> omega) | decide) only [rUz, ↓reduceIte, Nat.reduceEqDiff, Nat.reduceAdd, fieldAddr_ptr fA0 s3, p3, w_makeSlice]
  refine wr_makeInts (k := n) slI info3 z3 info3b info3s (by simp (disch := first | omega | (simp only [add_nx, upd_nx] <;> omega) | decide) only [rUz, ↓reduceIte, Nat.reduceEqDiff, Nat.reduceAdd]) (by simp (disch := first | omega | (simp only [add_nx, upd_nx] <;> omega) | decide) only [rUz, ↓reduceIte, Nat.reduceEqDiff, Nat.reduceAdd]) (by omega) (fun hown => ?_)
  have hk1 : Kp h0 ((h0.add [iv (n : Int), cv]).add ((List.replicate n 0).map iv)) := Kp.refl.add.add
  have hb2 : ((h0.add [iv (n : Int), cv]).add ((List.replicate n 0).map iv)).bl.get h0.nx = some (.cells [iv (n : Int), cv] h0.nx false) := by rw [ag_ne (by show h0.nx ≠ h0.nx + 1; omega)]; exact ag_eq rfl
  simp (disch := first | omega | (simp only [add_nx, upd_nx] <;> omega) | decide) only [rUz, ↓reduceIte, Nat.reduceEqDiff, Nat.reduceAdd]
  have hB5 : h0.nx < h0.nx + 1 := Nat.lt_succ_self _
  rw [add_nx] at hown
  generalize ((h0.add [iv (n : Int), cv]).add ((List.replicate n 0).map iv)) = H1 at hown hk1 hb2 ⊢
  generalize h0.nx + 1 = B5 at hown hB5 ⊢
  repeat refine S.seq ?_
  refine S.region ?_
  simp (disch := first | omega | (simp only [add_nx, upd_nx] <;> omega) | decide) only [rUz, ↓reduceIte, Nat.reduceEqDiff, Nat.reduceAdd]
  repeat refine S.seq ?_
  refine S.block ?_
  refine S.loop (ι := Nat) (IN n cs am h0 h0.nx B5 cv av) (fun k => cs.length - k) ?_ 0 _ _ ?_
  · clear hown hk1 hb2 H1
    intro k t h ⟨hk, hkp, hBB, hb2, t1, t2, t5, t6, acc, how, hal', hbd, hbal⟩ K' hn he
    have hnx := hkp.1
    repeat refine S.seq ?_
    refine S.region ?_
    simp (disch := first | omega | (simp only [add_nx, upd_nx] <;> omega) | decide) only [rUz, ↓reduceIte, Nat.reduceEqDiff, Nat.reduceAdd, t2, t6, hb2, fieldAddr_ptr fA1 sAc, pAc, hlen]
    repeat refine S.seq ?_
    refine S.cond (v := decide ((k : Int) < (cs.length : Int))) (by first | rfl | (simp (disch := first | omega | (simp only [add_nx, upd_nx] <;> omega) | decide) only [rUz, ↓reduceIte, Nat.reduceEqDiff, Nat.reduceAdd] <;> rfl)) (fun e => ?_) (fun e => ?_)
    · have hkn : k < cs.length := by have := of_decide_eq_true e; omega
      clear e
      have hps : cs[k]? = some cs[k] := List.getElem?_eq_getElem hkn
      have hmem : cs[k] ∈ cs := List.getElem_mem hkn
      have hka : k < am.length := by omega
      have hda : am.drop k = am[k] :: am.drop (k + 1) := List.drop_eq_getElem_cons hka
      have hba := hb am[k] (List.getElem_mem hka)
      have hia := fun {h'} (hk' : Kp h0 h') => (ha.mono hk').idx slI s3' hka
      rw [List.drop_eq_getElem_cons hkn, hda] at hbal
      simp only [balG] at hbal
      generalize cs[k] = c at hps hmem hbal
      generalize am[k] = a at hba hbal hia
      obtain ⟨⟨f, to, hf, hto, hfn, htn, hne⟩, _⟩ := hv c hmem
      obtain ⟨b, fb, ro, cells, q1, q2, q3, q4, q5, q6, q7, q8, q9⟩ := (hc.mono hkp).idx slA sK hps
      obtain ⟨ba, fa, ra, u1, u2, u3, u4⟩ := hia hkp
      rw [hto] at q7
      have hg1 : (acc.map iv)[to]? = some (iv (acc.getD to 0)) := by rw [pI3 acc (by omega : to < acc.length), getD_of]
      have hd1 := bnd_getD hbd (by omega) to
      have hl1 : to < (acc.map iv).length := by rw [List.length_map]; omega
      have hst1 : (acc.map iv).set to (iv (acc.getD to 0 + a)) = (addAt acc to a).map iv := by rw [addAt, List.map_set]
      have hbd1 := bnd_addAt (k := to) hbd (by omega) (by omega : (0 : Int) ≤ 200000) hba.1 hba.2
      have hln1 := addAt_len acc to a
      repeat refine S.seq ?_
      refine S.skip ?_
      simp (disch := first | omega | (simp only [add_nx, upd_nx] <;> omega) | decide) only [rUz, ↓reduceIte, Nat.reduceEqDiff, Nat.reduceAdd]
      repeat refine S.seq ?_
      refine S.block ?_
      repeat refine S.seq ?_
      refine S.ordered (by kernel_rfl) (by kernel_rfl) (by kernel_rfl) (by kernel_rfl) ?_
      simp (disch := first | omega | (simp only [add_nx, upd_nx] <;> omega) | decide) only [rUz, ↓reduceIte, Nat.reduceEqDiff, Nat.reduceAdd, t1, t2, t5, t6, hb2, fieldAddr_ptr fA1 sAc, pAc, q1, q3, fieldAddr_ptr fK1 s3, p3, q7, indexAddr_sl slI s3' htn, how.2.1, hg1, u1, u3, u4]
      refine wr_store s3' ?_
      simp (disch := first | omega | (simp only [add_nx, upd_nx] <;> omega) | decide) only [rUz, ↓reduceIte, Nat.reduceEqDiff, Nat.reduceAdd, how.2.1, how.2.2, hl1]
      rw [hst1]
      have how1 : Own (h.upd B5 ((addAt acc to a).map iv) B5) B5 (addAt acc to a) := ⟨how.1, upd_eq _ _ _, how.2.2⟩
      have hkp1 : Kp h0 (h.upd B5 ((addAt acc to a).map iv) B5) := hkp.upd (by omega)
      have hb21 : (h.upd B5 ((addAt acc to a).map iv) B5).bl.get h0.nx = some (.cells [iv (n : Int), cv] h0.nx false) := by rw [upd_ne _ _ _ (by omega)]; exact hb2
      generalize h.upd B5 ((addAt acc to a).map iv) B5 = h4 at how1 hkp1 hb21 ⊢
      generalize hA1 : addAt acc to a = acc1 at how1 hbd1 hln1
      clear q1 q2 q3 q4 q5 q6 q7 q8 q9 u1 u2 u3 u4 hst1 hg1 hl1 how
      obtain ⟨b, fb, ro, cells, q1, q2, q3, q4, q5, q6, q7, q8, q9⟩ := (hc.mono hkp1).idx slA sK hps
      obtain ⟨ba, fa, ra, u1, u2, u3, u4⟩ := hia hkp1
      rw [hf] at q6
      have hg2 : (acc1.map iv)[f]? = some (iv (acc1.getD f 0)) := by rw [pI3 acc1 (by omega : f < acc1.length), getD_of]
      have hd2 := bnd_getD hbd1 (by omega) f
      have hl2 : f < (acc1.map iv).length := by rw [List.length_map]; omega
      have hst2 : (acc1.map iv).set f (iv (acc1.getD f 0 - a)) = (addAt acc1 f (-a)).map iv := by rw [addAt, List.map_set, Int.sub_eq_add_neg]
      repeat refine S.seq ?_
      refine S.ordered (by kernel_rfl) (by kernel_rfl) (by kernel_rfl) (by kernel_rfl) ?_
      simp (disch := first | omega | (simp only [add_nx, upd_nx] <;> omega) | decide) only [rUz, ↓reduceIte, Nat.reduceEqDiff, Nat.reduceAdd, t1, t2, t5, t6, hb21, fieldAddr_ptr fA1 sAc, pAc, q1, q3, fieldAddr_ptr fK0 s3, p3, q6, indexAddr_sl slI s3' hfn, how1.2.1, hg2, u1, u3, u4]
      refine wr_store s3' ?_
      simp (disch := first | omega | (simp only [add_nx, upd_nx] <;> omega) | decide) only [rUz, ↓reduceIte, Nat.reduceEqDiff, Nat.reduceAdd, how1.2.1, how1.2.2, hl2]
      rw [hst2]
      have how2 : Own (h4.upd B5 ((addAt acc1 f (-a)).map iv) B5) B5 (addAt acc1 f (-a)) := ⟨how1.1, upd_eq _ _ _, how1.2.2⟩
      have hsb : addAt acc1 f (-a) = stepB acc c a := by rw [← hA1, stepB, hf, hto, Int.toNat_natCast, Int.toNat_natCast, addAt_comm]
      repeat refine S.seq ?_
      refine S.region ?_
      simp (disch := first | omega | (simp only [add_nx, upd_nx] <;> omega) | decide) only [rUz, ↓reduceIte, Nat.reduceEqDiff, Nat.reduceAdd, t6]
      refine hn (k + 1) _ _ (by omega) ⟨by omega, hkp1.upd (by omega), hBB, by rw [upd_ne _ _ _ (by omega)]; exact hb21, ?_, ?_, ?_, ?_, stepB acc c a, by rw [← hsb]; exact how2, by rw [stepB_len]; exact hal', ?_, hbal⟩
      rotate_right
      · exact bnd_mono (stepB_bnd (M := 200000) hbd (by omega) (by omega) (by omega)) (by omega)
      all_goals (first | rfl | (simp (disch := first | omega | (simp only [add_nx, upd_nx] <;> omega) | decide) only [rUz, ↓reduceIte, Nat.reduceEqDiff, Nat.reduceAdd, t1, t2, t5, t6]; done) | (simp (disch := first | omega | (simp only [add_nx, upd_nx] <;> omega) | decide) only [rUz, ↓reduceIte, Nat.reduceEqDiff, Nat.reduceAdd, t1, t2, t5, t6]; rfl))
    · have hkn : k = cs.length := by have := of_decide_eq_false e; omega
      subst hkn
      rw [List.drop_of_length_le (Nat.le_refl _)] at hbal
      have hbal' : acc = bal n cs am := by rw [← hbal]; simp only [balG]
      subst hbal'
      refine S.exit (he _ _ _ _ (fun e => by cases e) ?_)
      simp (disch := first | omega | (simp only [add_nx, upd_nx] <;> omega) | decide) only [rUz, ↓reduceIte, Nat.reduceEqDiff, Nat.reduceAdd]
      repeat refine S.seq ?_
      refine S.region ?_
      simp (disch := first | omega | (simp only [add_nx, upd_nx] <;> omega) | decide) only [rUz, ↓reduceIte, Nat.reduceEqDiff, Nat.reduceAdd, t5]
      refine S.ret ?_
      try simp only [seqK_ret, blockK_ret]
      subst hF
      simp only [finish, endMarks]
      rw [show Try.f17.results.toList = [.tmp 4] from rfl]
      simp (disch := first | omega | (simp only [add_nx, upd_nx] <;> omega) | decide) only [resA, ev_tmp, tget_ne, tget_eq, get_ne, get_eq, upd_eq, upd_ne, ag_eq, ag_ne, result1]
      exact hK _ _ hkp (how.at' (by rw [bal_len]))
  · refine ⟨Nat.zero_le _, hk1, hB5, hb2, ?_, ?_, ?_, ?_, List.replicate n 0, hown, List.length_replicate, bnd_zero n, rfl⟩
    all_goals (first | rfl | (simp (disch := first | omega | (simp only [add_nx, upd_nx] <;> omega) | decide) only [rUz, ↓reduceIte, Nat.reduceEqDiff, Nat.reduceAdd]; done) | (simp (disch := first | omega | (simp only [add_nx, upd_nx] <;> omega) | decide) only [rUz, ↓reduceIte, Nat.reduceEqDiff, Nat.reduceAdd]; rfl))
end Go.Proofs.Rg
