import Derived.Test.YtemmpnipmklacaaRpD
namespace Go.Proofs.Rg
open Go Go.Ev
set_option linter.unusedSimpArgs false

variable {pr : Prim} {R : ExT}
/-! ## The other side: heights -/
def rpP (n : Nat) (cs : List C4) (hts : List Int) : Int × Bool := bif decide ((hts.length : Int) = (n : Int)) && hts.all fun x => inB x (-10) 10 then (provP cs hts, true) else (0, false)
def IPa (n : Nat) (hts : List Int) (H : AHeap) (B2 : Nat) (av : Value) (k : Nat) (t : T Value) (h : AHeap) : Prop :=
  k ≤ n ∧ h = H ∧ (hts.all fun x => inB x (-10) 10) = ((hts.drop k).all fun x => inB x (-10) 10) ∧ tget t 1 = av ∧ tget t 2 = ptr0 B2 ∧ tget t 6 = iv (k : Int)
def IPb (cs : List C4) (hts : List Int) (H : AHeap) (B2 : Nat) (bk : List Value) (av : Value) (k : Nat) (t : T Value) (h : AHeap) : Prop :=
  k ≤ cs.length ∧ Kp H h ∧ h.bl.get B2 = some (.cells bk B2 false) ∧ tget t 1 = av ∧ tget t 2 = ptr0 B2 ∧ tget t 7 = iv ((cs.take k).map (provC hts)).sum ∧ tget t 8 = iv (k : Int)
set_option maxHeartbeats 16000000 in
theorem rproved_y (S : Ev.Steps Try.prog pr R) (hoff : Off pr) (h0 : AHeap) (n : Nat) (hn6 : n ≤ 6) (cv : Value) (cs : List C4) (hc : CAt h0 cv cs) (hsz : cs.length ≤ 12) (hv : Hs n cs) (av : Value) (hts : List Int) (ha : IAt h0 av hts) (_hal : hts.length ≤ 8) :
    Brings Try.prog R 32 [.agg ⟨[iv (n : Int), cv]⟩, av] h0 fun u _ => u = .tuple ⟨[iv (rpP n cs hts).1, .bool (rpP n cs hts).2]⟩ := by
  refine brings_of (fn := Try.f32) (c := (Try.f32.body).getD .skip) (by kernel_rfl) rfl (by kernel_rfl) rfl (fun K hK => ?_)
  generalize hF : finish Try.prog Try.f32 K = KF
  simp only [Try.f32, Option.getD_some, argsT, setArgs, fV1_eq, T.setK_eq, id]
  have hlc := fun t h1 o => hc.len isA t h1 o
  have hla := fun t h1 o => ha.len isI t h1 o
  repeat refine S.seq ?_
  refine S.region ?_
  simp (disch := first | omega | (simp only [add_nx, upd_nx] <;> omega) | decide) only [rUz, ↓reduceIte, Nat.reduceEqDiff, Nat.reduceAdd]
  have hb1 : (h0.add [iv (n : Int), cv]).bl.get h0.nx = some (.cells [iv (n : Int), cv] h0.nx false) := ag_eq rfl
  have hk1 : Kp h0 (h0.add [iv (n : Int), cv]) := Kp.refl.add
  have hlt : h0.nx < (h0.add [iv (n : Int), cv]).nx := Nat.lt_succ_self _
  generalize h0.add [iv (n : Int), cv] = H1 at hb1 hk1 hlt ⊢
  unfold rpP at hK
  by_cases hl : (hts.length : Int) = (n : Int)
  rotate_left
  · rw [decide_eq_false hl, Bool.false_and, cond_false] at hK
    have hd : (!decide ((hts.length : Int) = (n : Int))) = true := by rw [decide_eq_false hl]; rfl
    repeat refine S.seq ?_
    refine S.region ?_
    simp (disch := first | omega | (simp only [add_nx, upd_nx] <;> omega) | decide) only [rUz, ↓reduceIte, Nat.reduceEqDiff, Nat.reduceAdd, hla, hb1, fieldAddr_ptr fA0 s3, p3, hd]
    repeat refine S.seq ?_
    refine S.cond (v := true) (by first | rfl | (simp (disch := first | omega | (simp only [add_nx, upd_nx] <;> omega) | decide) only [rUz, ↓reduceIte, Nat.reduceEqDiff, Nat.reduceAdd] <;> rfl)) (fun _ => ?_) (fun e => by cases e)
    repeat refine S.seq ?_
    refine S.region ?_
    simp (disch := first | omega | (simp only [add_nx, upd_nx] <;> omega) | decide) only [rUz, ↓reduceIte, Nat.reduceEqDiff, Nat.reduceAdd]
    refine S.ret ?_
    try simp only [seqK_ret, blockK_ret]
    subst hF
    simp only [finish, endMarks]
    rw [show Try.f32.results.toList = [.tmp 4, .tmp 5] from rfl]
    simp (disch := first | omega | (simp only [add_nx, upd_nx] <;> omega) | decide) only [resA, ev_tmp, tget_ne, tget_eq, get_ne, get_eq, upd_eq, upd_ne, ag_eq, ag_ne, result1]
    exact hK _ _ hk1 rfl
  rw [decide_eq_true hl, Bool.true_and] at hK
  have hd : (!decide ((hts.length : Int) = (n : Int))) = false := by rw [decide_eq_true hl]; rfl
  repeat refine S.seq ?_
  refine S.region ?_
  simp (disch := first | omega | (simp only [add_nx, upd_nx] <;> omega) | decide) only [rUz, ↓reduceIte, Nat.reduceEqDiff, Nat.reduceAdd, hla, hb1, fieldAddr_ptr fA0 s3, p3, hd]
  repeat refine S.seq ?_
  refine S.cond (v := false) (by first | rfl | (simp (disch := first | omega | (simp only [add_nx, upd_nx] <;> omega) | decide) only [rUz, ↓reduceIte, Nat.reduceEqDiff, Nat.reduceAdd] <;> rfl)) (fun e => by cases e) (fun _ => ?_)
  repeat refine S.seq ?_
  refine S.skip ?_
  simp (disch := first | omega | (simp only [add_nx, upd_nx] <;> omega) | decide) only [rUz, ↓reduceIte, Nat.reduceEqDiff, Nat.reduceAdd]
  repeat refine S.seq ?_
  refine S.region ?_
  simp (disch := first | omega | (simp only [add_nx, upd_nx] <;> omega) | decide) only [rUz, ↓reduceIte, Nat.reduceEqDiff, Nat.reduceAdd]
  repeat refine S.seq ?_
  refine S.block ?_
  refine S.loop (ι := Nat) (IPa n hts H1 h0.nx av) (fun k => n - k) ?_ 0 _ _ ?_
  · intro k t h ⟨hk, hh, hall, t1, t2, t6⟩ K' hn he
    subst hh
    repeat refine S.seq ?_
    refine S.region ?_
    simp (disch := first | omega | (simp only [add_nx, upd_nx] <;> omega) | decide) only [rUz, ↓reduceIte, Nat.reduceEqDiff, Nat.reduceAdd, t2, t6, hb1, fieldAddr_ptr fA0 s3, p3]
    repeat refine S.seq ?_
    refine S.cond (v := decide ((k : Int) < (n : Int))) (by first | rfl | (simp (disch := first | omega | (simp only [add_nx, upd_nx] <;> omega) | decide) only [rUz, ↓reduceIte, Nat.reduceEqDiff, Nat.reduceAdd] <;> rfl)) (fun e => ?_) (fun e => ?_)
    · have hkn : k < hts.length := by have := of_decide_eq_true e; omega
      clear e
      rw [List.drop_eq_getElem_cons hkn, List.all_cons] at hall
      obtain ⟨b1, f1, ro1, a1, a2, a3, a4⟩ := (ha.mono hk1).idx slI s3' hkn
      generalize hts[k] = x at hall a4
      repeat refine S.seq ?_
      refine S.skip ?_
      simp (disch := first | omega | (simp only [add_nx, upd_nx] <;> omega) | decide) only [rUz, ↓reduceIte, Nat.reduceEqDiff, Nat.reduceAdd]
      repeat refine S.seq ?_
      refine S.block ?_
      repeat refine S.seq ?_
      refine S.region ?_
      simp (disch := first | omega | (simp only [add_nx, upd_nx] <;> omega) | decide) only [rUz, ↓reduceIte, Nat.reduceEqDiff, Nat.reduceAdd, t1, t6, a1, a3, a4, p3]
      refine wr_brings (fid := 19) (first := #[]) (captured := #[]) (Post := fun v g => v = .bool (inB x (-10) 10) ∧ g = h) (by first | rfl | (simp (disch := first | omega | (simp only [add_nx, upd_nx] <;> omega) | decide) only [rUz, ↓reduceIte, Nat.reduceEqDiff, Nat.reduceAdd] <;> rfl)) (hoff _ _ _ rfl) (by simp (disch := first | omega | (simp only [add_nx, upd_nx] <;> omega) | decide) only [rUz, ↓reduceIte, Nat.reduceEqDiff, Nat.reduceAdd]; exact in_y S _ _ _ _) ?_
      rintro v g - ⟨rfl, rfl⟩
      simp (disch := first | omega | (simp only [add_nx, upd_nx] <;> omega) | decide) only [rUz, ↓reduceIte, Nat.reduceEqDiff, Nat.reduceAdd, un_not]
      cases hi : inB x (-10) 10 with
      | true =>
        rw [hi, Bool.true_and] at hall
        repeat refine S.seq ?_
        refine S.cond (v := false) (by first | rfl | (simp (disch := first | omega | (simp only [add_nx, upd_nx] <;> omega) | decide) only [rUz, ↓reduceIte, Nat.reduceEqDiff, Nat.reduceAdd, hi, Bool.not_true] <;> rfl)) (fun e => by cases e) (fun _ => ?_)
        repeat refine S.seq ?_
        refine S.skip ?_
        simp (disch := first | omega | (simp only [add_nx, upd_nx] <;> omega) | decide) only [rUz, ↓reduceIte, Nat.reduceEqDiff, Nat.reduceAdd]
        repeat refine S.seq ?_
        refine S.region ?_
        simp (disch := first | omega | (simp only [add_nx, upd_nx] <;> omega) | decide) only [rUz, ↓reduceIte, Nat.reduceEqDiff, Nat.reduceAdd, t6]
        refine hn (k + 1) _ _ (by omega) ⟨by omega, rfl, hall, ?_, ?_, ?_⟩
        all_goals (first | rfl | (simp (disch := first | omega | (simp only [add_nx, upd_nx] <;> omega) | decide) only [rUz, ↓reduceIte, Nat.reduceEqDiff, Nat.reduceAdd, t1, t2, t6]; done) | (simp (disch := first | omega | (simp only [add_nx, upd_nx] <;> omega) | decide) only [rUz, ↓reduceIte, Nat.reduceEqDiff, Nat.reduceAdd, t1, t2, t6]; rfl))
      | false =>
        rw [hi, Bool.false_and] at hall
        rw [hall, cond_false] at hK
        repeat refine S.seq ?_
        refine S.cond (v := true) (by first | rfl | (simp (disch := first | omega | (simp only [add_nx, upd_nx] <;> omega) | decide) only [rUz, ↓reduceIte, Nat.reduceEqDiff, Nat.reduceAdd, hi, Bool.not_false] <;> rfl)) (fun _ => ?_) (fun e => by cases e)
        repeat refine S.seq ?_
        refine S.region ?_
        simp (disch := first | omega | (simp only [add_nx, upd_nx] <;> omega) | decide) only [rUz, ↓reduceIte, Nat.reduceEqDiff, Nat.reduceAdd]
        refine S.ret ?_
        simp only [seqK_ret, blockK_ret]
        refine he _ _ _ _ (fun e => by cases e) ?_
        simp only [seqK_ret, blockK_ret]
        subst hF
        simp only [finish, endMarks]
        rw [show Try.f32.results.toList = [.tmp 4, .tmp 5] from rfl]
        simp (disch := omega) only [resA, ev_tmp, tget_ne, tget_eq, result1]
        exact hK _ _ hk1 rfl
    · have hkn : k = hts.length := by have := of_decide_eq_false e; omega
      subst hkn
      rw [List.drop_of_length_le (Nat.le_refl _), List.all_nil] at hall
      rw [hall, cond_true] at hK
      have hb := bnd_of_all hall
      refine S.exit (he _ _ _ _ (fun e => by cases e) ?_)
      clear he hn e hall
      simp (disch := first | omega | (simp only [add_nx, upd_nx] <;> omega) | decide) only [rUz, ↓reduceIte, Nat.reduceEqDiff, Nat.reduceAdd]
      repeat refine S.seq ?_
      refine S.region ?_
      simp (disch := first | omega | (simp only [add_nx, upd_nx] <;> omega) | decide) only [rUz, ↓reduceIte, Nat.reduceEqDiff, Nat.reduceAdd]
      repeat refine S.seq ?_
      refine S.region ?_
      simp (disch := first | omega | (simp only [add_nx, upd_nx] <;> omega) | decide) only [rUz, ↓reduceIte, Nat.reduceEqDiff, Nat.reduceAdd]
      repeat refine S.seq ?_
      refine S.block ?_
      refine S.loop (ι := Nat) (IPb cs hts h h0.nx [iv (n : Int), cv] av) (fun k => cs.length - k) ?_ 0 _ _ ?_
      · clear t1 t2 t6 t
        intro k t h5 ⟨hk, hkp, hb2, t1, t2, t7, t8⟩ K' hn he
        have hkq := hk1.trans hkp
        have hnx := hkp.1
        repeat refine S.seq ?_
        refine S.region ?_
        simp (disch := first | omega | (simp only [add_nx, upd_nx] <;> omega) | decide) only [rUz, ↓reduceIte, Nat.reduceEqDiff, Nat.reduceAdd, t2, t8, hb2, fieldAddr_ptr fA1 sAc, pAc, hlc]
        repeat refine S.seq ?_
        refine S.cond (v := decide ((k : Int) < (cs.length : Int))) (by first | rfl | (simp (disch := first | omega | (simp only [add_nx, upd_nx] <;> omega) | decide) only [rUz, ↓reduceIte, Nat.reduceEqDiff, Nat.reduceAdd] <;> rfl)) (fun e => ?_) (fun e => ?_)
        · have hkn : k < cs.length := by have := of_decide_eq_true e; omega
          clear e
          have hps : cs[k]? = some cs[k] := List.getElem?_eq_getElem hkn
          have hmem : cs[k] ∈ cs := List.getElem_mem hkn
          generalize cs[k] = c at hps hmem
          obtain ⟨⟨f, to, hf, hto, hfn, htn, hne⟩, hc1, hc2, _⟩ := hv c hmem
          have hpc := provC_bnd hv hb hmem
          have hsm := provS_bnd hv hb (cs.take k) fun x hx => List.mem_of_mem_take hx
          have htl : ((cs.take k).length : Int) ≤ 12 := by rw [List.length_take]; omega
          have hst := map_take_sum (provC hts) cs k c hps
          obtain ⟨b, fb, ro, cells, q1, q2, q3, q4, q5, _⟩ := (hc.mono hkq).idx slA sK hps
          have qp := part_cc pK q4 q5
          have cf0 : (cc c)[0]? = some (iv (f : Int)) := by rw [cc0, hf]
          have cf1 : (cc c)[1]? = some (iv (to : Int)) := by rw [cc1, hto]
          have hgf := bnd_getD hb (by omega) f
          have hgt := bnd_getD hb (by omega) to
          have hpd : provC hts c = c.2.2.1 * max2 0 (1 + hts.getD f 0 - hts.getD to 0) := by unfold provC; rw [hf, hto, Int.toNat_natCast, Int.toNat_natCast]
          rw [hf, hto, Int.toNat_natCast, Int.toNat_natCast, hpd] at hpc
          rw [hpd] at hst
          generalize ((cs.take k).map (provC hts)).sum = sm at hsm t7 hst
          repeat refine S.seq ?_
          refine S.skip ?_
          simp (disch := first | omega | (simp only [add_nx, upd_nx] <;> omega) | decide) only [rUz, ↓reduceIte, Nat.reduceEqDiff, Nat.reduceAdd]
          repeat refine S.seq ?_
          refine S.block ?_
          repeat refine S.seq ?_
          refine S.region ?_
          simp (disch := first | omega | (simp only [add_nx, upd_nx] <;> omega) | decide) only [rUz, ↓reduceIte, Nat.reduceEqDiff, Nat.reduceAdd, t2, t8, hb2, fieldAddr_ptr fA1 sAc, pAc, q1, q3, qp, wr_alloc zK]
          refine wr_storeN (B := h5.nx) (c := [iv 0, iv 0, iv 0, iv 0]) (fam := h5.nx) (k := h5.nx) (l := cc c) (by simp (disch := first | omega | (simp only [add_nx, upd_nx] <;> omega) | decide) only [rUz, ↓reduceIte, Nat.reduceEqDiff, Nat.reduceAdd]) (by simp (disch := first | omega | (simp only [add_nx, upd_nx] <;> omega) | decide) only [rUz, ↓reduceIte, Nat.reduceEqDiff, Nat.reduceAdd]) sK (by omega) rfl (ag_eq rfl) (af_eq rfl) rfl ?_
          have hk4 : Kp h5 ((h5.add [iv 0, iv 0, iv 0, iv 0]).upd h5.nx (cc c) h5.nx) := Kp.refl.add.upd (Nat.le_refl _)
          have hg4 : ((h5.add [iv 0, iv 0, iv 0, iv 0]).upd h5.nx (cc c) h5.nx).bl.get h5.nx = some (.cells (cc c) h5.nx false) := upd_eq _ _ _
          simp (disch := first | omega | (simp only [add_nx, upd_nx] <;> omega) | decide) only [rUz, ↓reduceIte, Nat.reduceEqDiff, Nat.reduceAdd]
          generalize (h5.add [iv 0, iv 0, iv 0, iv 0]).upd h5.nx (cc c) h5.nx = h6 at hk4 hg4 ⊢
          have hb3 := (hk4.get (by omega : h0.nx < h5.nx)).trans hb2
          have hkp6 := hkp.trans hk4
          have hkq6 := hkq.trans hk4
          generalize h5.nx = B9 at hg4 ⊢
          clear q1 q2 q3 q4 q5 qp hk4
          obtain ⟨ba, fa, ra, a1, a2, a3, a4⟩ := (ha.mono hkq6).idx slI s3' (by omega : f < hts.length)
          obtain ⟨bb, fb2, rb, b1, b2, b3, b4⟩ := (ha.mono hkq6).idx slI s3' (by omega : to < hts.length)
          rw [getD_of] at a4 b4
          repeat refine S.seq ?_
          refine S.ordered (by kernel_rfl) (by kernel_rfl) (by kernel_rfl) (by kernel_rfl) ?_
          simp (disch := first | omega | (simp only [add_nx, upd_nx] <;> omega) | decide) only [rUz, ↓reduceIte, Nat.reduceEqDiff, Nat.reduceAdd, t1, t7, hg4, fieldAddr_ptr fK0 s3, fieldAddr_ptr fK1 s3, fieldAddr_ptr fK2 s3, p3, cf0, cf1, cc2, a1, a3, a4, b1, b3, b4, rd_max, w_max]
          refine optR_of' (v := iv (max2 0 (1 + hts.getD f 0 - hts.getD to 0))) (call2_congr_c (t' := T.set 54 .leaf 53 (iv (1 + hts.getD f 0 - hts.getD to 0))) (v := iv (1 + hts.getD f 0 - hts.getD to 0)) ?_ (by kernel_rfl) (by kernel_rfl)) ?_
          · simp (disch := first | omega | (simp only [add_nx, upd_nx] <;> omega) | decide) only [rUz, ↓reduceIte, Nat.reduceEqDiff, Nat.reduceAdd]
          generalize max2 0 (1 + hts.getD f 0 - hts.getD to 0) = D at hpc hst
          simp (disch := first | omega | (simp only [add_nx, upd_nx] <;> omega) | decide) only [rUz, ↓reduceIte, Nat.reduceEqDiff, Nat.reduceAdd, t1, t7]
          repeat refine S.seq ?_
          refine S.region ?_
          simp (disch := first | omega | (simp only [add_nx, upd_nx] <;> omega) | decide) only [rUz, ↓reduceIte, Nat.reduceEqDiff, Nat.reduceAdd, t8]
          refine hn (k + 1) _ _ (by omega) ⟨by omega, hkp6, hb3, ?_, ?_, ?_, ?_⟩
          all_goals (try rw [hst])
          all_goals (first | rfl | (simp (disch := first | omega | (simp only [add_nx, upd_nx] <;> omega) | decide) only [rUz, ↓reduceIte, Nat.reduceEqDiff, Nat.reduceAdd, t1, t2, t7, t8]; done) | (simp (disch := first | omega | (simp only [add_nx, upd_nx] <;> omega) | decide) only [rUz, ↓reduceIte, Nat.reduceEqDiff, Nat.reduceAdd, t1, t2, t7, t8]; rfl))
        · have hkn : k = cs.length := by have := of_decide_eq_false e; omega
          subst hkn
          rw [List.take_of_length_le (Nat.le_refl _)] at t7
          refine S.exit (he _ _ _ _ (fun e => by cases e) ?_)
          simp (disch := first | omega | (simp only [add_nx, upd_nx] <;> omega) | decide) only [rUz, ↓reduceIte, Nat.reduceEqDiff, Nat.reduceAdd]
          repeat refine S.seq ?_
          refine S.region ?_
          simp (disch := first | omega | (simp only [add_nx, upd_nx] <;> omega) | decide) only [rUz, ↓reduceIte, Nat.reduceEqDiff, Nat.reduceAdd, t7]
          refine S.ret ?_
          try simp only [seqK_ret, blockK_ret]
          subst hF
          simp only [finish, endMarks]
          rw [show Try.f32.results.toList = [.tmp 4, .tmp 5] from rfl]
          simp (disch := first | omega | (simp only [add_nx, upd_nx] <;> omega) | decide) only [resA, ev_tmp, tget_ne, tget_eq, get_ne, get_eq, upd_eq, upd_ne, ag_eq, ag_ne, result1]
          exact hK _ _ hkq rfl
      · refine ⟨Nat.zero_le _, Kp.refl, hb1, ?_, ?_, ?_, ?_⟩
        all_goals (first | rfl | (simp (disch := first | omega | (simp only [add_nx, upd_nx] <;> omega) | decide) only [rUz, ↓reduceIte, Nat.reduceEqDiff, Nat.reduceAdd, t1, t2, List.take_zero, List.map_nil, List.sum_nil]; done) | (simp (disch := first | omega | (simp only [add_nx, upd_nx] <;> omega) | decide) only [rUz, ↓reduceIte, Nat.reduceEqDiff, Nat.reduceAdd, t1, t2, List.take_zero, List.map_nil, List.sum_nil]; rfl))
  · refine ⟨Nat.zero_le _, rfl, by rw [List.drop_zero], ?_, ?_, ?_⟩
    all_goals (first | rfl | (simp (disch := first | omega | (simp only [add_nx, upd_nx] <;> omega) | decide) only [rUz, ↓reduceIte, Nat.reduceEqDiff, Nat.reduceAdd]; done) | (simp (disch := first | omega | (simp only [add_nx, upd_nx] <;> omega) | decide) only [rUz, ↓reduceIte, Nat.reduceEqDiff, Nat.reduceAdd]; rfl))

/-! ## The other side: a setting off -/
def IOf (n : Nat) (l : List Int) (H : AHeap) (B2 : Nat) (nv : Value) (k : Nat) (t : T Value) (h : AHeap) : Prop :=
  k ≤ n ∧ h = H ∧ (l.all fun x => decide (x = 0)) = ((l.drop k).all fun x => decide (x = 0)) ∧ tget t 2 = ptr0 B2 ∧ tget t 5 = nv ∧ tget t 6 = iv (k : Int)
set_option maxHeartbeats 16000000 in
theorem isOff_y (S : Ev.Steps Try.prog pr R) (hoff : Off pr) (h0 : AHeap) (n : Nat) (hn6 : n ≤ 6) (cv : Value) (cs : List C4) (hc : CAt h0 cv cs) (hsz : cs.length ≤ 12) (hv : Hs n cs) (av : Value) (am : List Int) (ha : IAt h0 av am) (hal : am.length ≤ 1000) :
    Brings Try.prog R 33 [.agg ⟨[iv (n : Int), cv]⟩, av] h0 fun u _ => u = .bool (partB cs am && (bal n cs am).all fun x => decide (x = 0)) := by
  refine brings_of (fn := Try.f33) (c := (Try.f33.body).getD .skip) (by kernel_rfl) rfl (by kernel_rfl) rfl (fun K hK => ?_)
  generalize hF : finish Try.prog Try.f33 K = KF
  simp only [Try.f33, Option.getD_some, argsT, setArgs, fV1_eq, T.setK_eq, id]
  repeat refine S.seq ?_
  refine S.region ?_
  simp (disch := first | omega | (simp only [add_nx, upd_nx] <;> omega) | decide) only [rUz, ↓reduceIte, Nat.reduceEqDiff, Nat.reduceAdd]
  have hb1 : (h0.add [iv (n : Int), cv]).bl.get h0.nx = some (.cells [iv (n : Int), cv] h0.nx false) := ag_eq rfl
  have hk1 : Kp h0 (h0.add [iv (n : Int), cv]) := Kp.refl.add
  have hlt : h0.nx < (h0.add [iv (n : Int), cv]).nx := Nat.lt_succ_self _
  generalize h0.add [iv (n : Int), cv] = H1 at hb1 hk1 hlt ⊢
  repeat refine S.seq ?_
  refine S.region ?_
  simp (disch := first | omega | (simp only [add_nx, upd_nx] <;> omega) | decide) only [rUz, ↓reduceIte, Nat.reduceEqDiff, Nat.reduceAdd, hb1, pA]
  refine wr_brings (fid := 58) (first := #[]) (captured := #[]) (Post := fun u _ => u = .bool (partB cs am)) (by first | rfl | (simp (disch := first | omega | (simp only [add_nx, upd_nx] <;> omega) | decide) only [rUz, ↓reduceIte, Nat.reduceEqDiff, Nat.reduceAdd] <;> rfl)) (hoff _ _ _ rfl) (by simp (disch := first | omega | (simp only [add_nx, upd_nx] <;> omega) | decide) only [rUz, ↓reduceIte, Nat.reduceEqDiff, Nat.reduceAdd]; exact listed_y S hoff _ _ cv cs (hc.mono hk1) hsz av am (ha.mono hk1) hal) ?_
  rintro v g hk rfl
  have hb2 := (hk.get hlt).trans hb1
  have hk2 := hk1.trans hk
  have hlt2 := Nat.lt_of_lt_of_le hlt hk.1
  cases hp : partB cs am with
  | false =>
    rw [hp, Bool.false_and] at hK
    simp (disch := first | omega | (simp only [add_nx, upd_nx] <;> omega) | decide) only [rUz, ↓reduceIte, Nat.reduceEqDiff, Nat.reduceAdd, hp, un_not, Bool.not_false]
    repeat refine S.seq ?_
    refine S.cond (v := true) (by first | rfl | (simp (disch := first | omega | (simp only [add_nx, upd_nx] <;> omega) | decide) only [rUz, ↓reduceIte, Nat.reduceEqDiff, Nat.reduceAdd] <;> rfl)) (fun _ => ?_) (fun e => by cases e)
    repeat refine S.seq ?_
    refine S.region ?_
    simp (disch := first | omega | (simp only [add_nx, upd_nx] <;> omega) | decide) only [rUz, ↓reduceIte, Nat.reduceEqDiff, Nat.reduceAdd]
    refine S.ret ?_
    try simp only [seqK_ret, blockK_ret]
    subst hF
    simp only [finish, endMarks]
    rw [show Try.f33.results.toList = [.tmp 4] from rfl]
    simp (disch := first | omega | (simp only [add_nx, upd_nx] <;> omega) | decide) only [resA, ev_tmp, tget_ne, tget_eq, get_ne, get_eq, upd_eq, upd_ne, ag_eq, ag_ne, result1]
    exact hK _ _ hk2 rfl
  | true =>
  rw [hp, Bool.true_and] at hK
  simp (disch := first | omega | (simp only [add_nx, upd_nx] <;> omega) | decide) only [rUz, ↓reduceIte, Nat.reduceEqDiff, Nat.reduceAdd, hp, un_not, Bool.not_true]
  repeat refine S.seq ?_
  refine S.cond (v := false) (by first | rfl | (simp (disch := first | omega | (simp only [add_nx, upd_nx] <;> omega) | decide) only [rUz, ↓reduceIte, Nat.reduceEqDiff, Nat.reduceAdd] <;> rfl)) (fun e => by cases e) (fun _ => ?_)
  repeat refine S.seq ?_
  refine S.skip ?_
  simp (disch := first | omega | (simp only [add_nx, upd_nx] <;> omega) | decide) only [rUz, ↓reduceIte, Nat.reduceEqDiff, Nat.reduceAdd]
  repeat refine S.seq ?_
  refine S.region ?_
  simp (disch := first | omega | (simp only [add_nx, upd_nx] <;> omega) | decide) only [rUz, ↓reduceIte, Nat.reduceEqDiff, Nat.reduceAdd, hb2, pA]
  refine wr_brings (fid := 17) (first := #[]) (captured := #[]) (Post := fun v h => IAt h v (bal n cs am)) (by first | rfl | (simp (disch := first | omega | (simp only [add_nx, upd_nx] <;> omega) | decide) only [rUz, ↓reduceIte, Nat.reduceEqDiff, Nat.reduceAdd] <;> rfl)) (hoff _ _ _ rfl) (by simp (disch := first | omega | (simp only [add_nx, upd_nx] <;> omega) | decide) only [rUz, ↓reduceIte, Nat.reduceEqDiff, Nat.reduceAdd]; exact net_y S _ n hn6 cv cs (hc.mono hk2) hsz hv av am (ha.mono hk2) (partB_len hp) (partB_bnd hv hp)) ?_
  rintro nv g2 hk3 hnv
  have hb3 := (hk3.get hlt2).trans hb2
  have hk4 := hk2.trans hk3
  have hbl := bal_len n cs am
  generalize bal n cs am = l at hnv hK hbl
  simp (disch := first | omega | (simp only [add_nx, upd_nx] <;> omega) | decide) only [rUz, ↓reduceIte, Nat.reduceEqDiff, Nat.reduceAdd]
  repeat refine S.seq ?_
  refine S.region ?_
  simp (disch := first | omega | (simp only [add_nx, upd_nx] <;> omega) | decide) only [rUz, ↓reduceIte, Nat.reduceEqDiff, Nat.reduceAdd]
  repeat refine S.seq ?_
  refine S.block ?_
  refine S.loop (ι := Nat) (IOf n l g2 h0.nx nv) (fun k => n - k) ?_ 0 _ _ ?_
  · intro k t h ⟨hk, hh, hall, t2, t5, t6⟩ K' hn he
    subst hh
    repeat refine S.seq ?_
    refine S.region ?_
    simp (disch := first | omega | (simp only [add_nx, upd_nx] <;> omega) | decide) only [rUz, ↓reduceIte, Nat.reduceEqDiff, Nat.reduceAdd, t2, t6, hb3, fieldAddr_ptr fA0 s3, p3]
    repeat refine S.seq ?_
    refine S.cond (v := decide ((k : Int) < (n : Int))) (by first | rfl | (simp (disch := first | omega | (simp only [add_nx, upd_nx] <;> omega) | decide) only [rUz, ↓reduceIte, Nat.reduceEqDiff, Nat.reduceAdd] <;> rfl)) (fun e => ?_) (fun e => ?_)
    · have hkn : k < l.length := by have := of_decide_eq_true e; omega
      clear e
      rw [List.drop_eq_getElem_cons hkn, List.all_cons] at hall
      obtain ⟨b1, f1, ro1, a1, a2, a3, a4⟩ := hnv.idx slI s3' hkn
      generalize l[k] = x at hall a4
      repeat refine S.seq ?_
      refine S.skip ?_
      simp (disch := first | omega | (simp only [add_nx, upd_nx] <;> omega) | decide) only [rUz, ↓reduceIte, Nat.reduceEqDiff, Nat.reduceAdd]
      repeat refine S.seq ?_
      refine S.block ?_
      repeat refine S.seq ?_
      refine S.region ?_
      simp (disch := first | omega | (simp only [add_nx, upd_nx] <;> omega) | decide) only [rUz, ↓reduceIte, Nat.reduceEqDiff, Nat.reduceAdd, t5, t6, a1, a3, a4, p3]
      by_cases hx : x = 0
      · rw [decide_eq_true hx, Bool.true_and] at hall
        have hd : (!decide (x = 0)) = false := by rw [decide_eq_true hx]; rfl
        repeat refine S.seq ?_
        refine S.cond (v := false) (by first | rfl | (simp (disch := first | omega | (simp only [add_nx, upd_nx] <;> omega) | decide) only [rUz, ↓reduceIte, Nat.reduceEqDiff, Nat.reduceAdd, hd] <;> rfl)) (fun e => by cases e) (fun _ => ?_)
        repeat refine S.seq ?_
        refine S.skip ?_
        simp (disch := first | omega | (simp only [add_nx, upd_nx] <;> omega) | decide) only [rUz, ↓reduceIte, Nat.reduceEqDiff, Nat.reduceAdd]
        repeat refine S.seq ?_
        refine S.region ?_
        simp (disch := first | omega | (simp only [add_nx, upd_nx] <;> omega) | decide) only [rUz, ↓reduceIte, Nat.reduceEqDiff, Nat.reduceAdd, t6]
        refine hn (k + 1) _ _ (by omega) ⟨by omega, rfl, hall, ?_, ?_, ?_⟩
        all_goals (first | rfl | (simp (disch := first | omega | (simp only [add_nx, upd_nx] <;> omega) | decide) only [rUz, ↓reduceIte, Nat.reduceEqDiff, Nat.reduceAdd, t2, t5, t6]; done) | (simp (disch := first | omega | (simp only [add_nx, upd_nx] <;> omega) | decide) only [rUz, ↓reduceIte, Nat.reduceEqDiff, Nat.reduceAdd, t2, t5, t6]; rfl))
      · rw [decide_eq_false hx, Bool.false_and] at hall
        rw [hall] at hK
        have hd : (!decide (x = 0)) = true := by rw [decide_eq_false hx]; rfl
        repeat refine S.seq ?_
        refine S.cond (v := true) (by first | rfl | (simp (disch := first | omega | (simp only [add_nx, upd_nx] <;> omega) | decide) only [rUz, ↓reduceIte, Nat.reduceEqDiff, Nat.reduceAdd, hd] <;> rfl)) (fun _ => ?_) (fun e => by cases e)
        repeat refine S.seq ?_
        refine S.region ?_
        simp (disch := first | omega | (simp only [add_nx, upd_nx] <;> omega) | decide) only [rUz, ↓reduceIte, Nat.reduceEqDiff, Nat.reduceAdd]
        refine S.ret ?_
        simp only [seqK_ret, blockK_ret]
        refine he _ _ _ _ (fun e => by cases e) ?_
        simp only [seqK_ret, blockK_ret]
        subst hF
        simp only [finish, endMarks]
        rw [show Try.f33.results.toList = [.tmp 4] from rfl]
        simp (disch := omega) only [resA, ev_tmp, tget_ne, tget_eq, result1]
        exact hK _ _ hk4 rfl
    · have hkn : k = l.length := by have := of_decide_eq_false e; omega
      subst hkn
      rw [List.drop_of_length_le (Nat.le_refl _), List.all_nil] at hall
      rw [hall] at hK
      refine S.exit (he _ _ _ _ (fun e => by cases e) ?_)
      simp (disch := first | omega | (simp only [add_nx, upd_nx] <;> omega) | decide) only [rUz, ↓reduceIte, Nat.reduceEqDiff, Nat.reduceAdd]
      repeat refine S.seq ?_
      refine S.region ?_
      simp (disch := first | omega | (simp only [add_nx, upd_nx] <;> omega) | decide) only [rUz, ↓reduceIte, Nat.reduceEqDiff, Nat.reduceAdd]
      refine S.ret ?_
      try simp only [seqK_ret, blockK_ret]
      subst hF
      simp only [finish, endMarks]
      rw [show Try.f33.results.toList = [.tmp 4] from rfl]
      simp (disch := first | omega | (simp only [add_nx, upd_nx] <;> omega) | decide) only [resA, ev_tmp, tget_ne, tget_eq, get_ne, get_eq, upd_eq, upd_ne, ag_eq, ag_ne, result1]
      exact hK _ _ hk4 rfl
  · refine ⟨Nat.zero_le _, rfl, by rw [List.drop_zero], ?_, ?_, ?_⟩
    all_goals (first | rfl | (simp (disch := first | omega | (simp only [add_nx, upd_nx] <;> omega) | decide) only [rUz, ↓reduceIte, Nat.reduceEqDiff, Nat.reduceAdd]; done) | (simp (disch := first | omega | (simp only [add_nx, upd_nx] <;> omega) | decide) only [rUz, ↓reduceIte, Nat.reduceEqDiff, Nat.reduceAdd]; rfl))
end Go.Proofs.Rg
