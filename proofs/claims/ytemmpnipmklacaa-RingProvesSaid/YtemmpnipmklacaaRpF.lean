import Derived.Test.YtemmpnipmklacaaRpE
namespace Go.Proofs.Rg
open Go Go.Ev
set_option linter.unusedSimpArgs false

variable {pr : Prim} {R : ExT}
/-! ## The other side: deliveries -/
def rdP (n : Nat) (cs : List C4) (am : List Int) : Int × Bool := bif partB cs am && decide (bal n cs (nums cs) = bal n cs am) then (cnt am, true) else (0, false)
def IDa (n : Nat) (a b : List Int) (H : AHeap) (B2 : Nat) (av wv hv : Value) (k : Nat) (t : T Value) (h : AHeap) : Prop :=
  k ≤ n ∧ h = H ∧ a.take k = b.take k ∧ tget t 1 = av ∧ tget t 2 = ptr0 B2 ∧ tget t 6 = wv ∧ tget t 7 = hv ∧ tget t 8 = iv (k : Int)
def IDb (am : List Int) (H : AHeap) (av : Value) (k : Nat) (t : T Value) (h : AHeap) : Prop :=
  k ≤ am.length ∧ h = H ∧ tget t 1 = av ∧ tget t 9 = iv ((am.take k).map pos1).sum ∧ tget t 10 = iv (k : Int)
set_option maxHeartbeats 16000000 in
theorem isDelivery_y (S : Ev.Steps Try.prog pr R) (hoff : Off pr) (h0 : AHeap) (n : Nat) (hn6 : n ≤ 6) (cv : Value) (cs : List C4) (hc : CAt h0 cv cs) (hsz : cs.length ≤ 12) (hv : Hs n cs) (av : Value) (am : List Int) (ha : IAt h0 av am) (hal : am.length ≤ 1000) :
    Brings Try.prog R 35 [.agg ⟨[iv (n : Int), cv]⟩, av] h0 fun u _ => u = .tuple ⟨[iv (rdP n cs am).1, .bool (rdP n cs am).2]⟩ := by
  refine brings_of (fn := Try.f35) (c := (Try.f35.body).getD .skip) (by kernel_rfl) rfl (by kernel_rfl) rfl (fun K hK => ?_)
  generalize hF : finish Try.prog Try.f35 K = KF
  simp only [Try.f35, Option.getD_some, argsT, setArgs, fV1_eq, T.setK_eq, id]
  have hla := fun t h1 o => ha.len isI t h1 o
  repeat refine S.seq ?_
  refine S.region ?_
  simp (disch := first | omega | (simp only [add_nx, upd_nx] <;> omega) | decide) only [rUz, ↓reduceIte, Nat.reduceEqDiff, Nat.reduceAdd]
  have hb1 : (h0.add [iv (n : Int), cv]).bl.get h0.nx = some (.cells [iv (n : Int), cv] h0.nx false) := ag_eq rfl
  have hk1 : Kp h0 (h0.add [iv (n : Int), cv]) := Kp.refl.add
  have hlt : h0.nx < (h0.add [iv (n : Int), cv]).nx := Nat.lt_succ_self _
  have hve := veq_book hc (n : Int)
  generalize h0.add [iv (n : Int), cv] = H1 at hb1 hk1 hlt ⊢
  unfold rdP at hK
  repeat refine S.seq ?_
  refine S.region ?_
  simp (disch := first | omega | (simp only [add_nx, upd_nx] <;> omega) | decide) only [rUz, ↓reduceIte, Nat.reduceEqDiff, Nat.reduceAdd, hb1, pA]
  refine wr_brings (fid := 58) (first := #[]) (captured := #[]) (Post := fun u _ => u = .bool (partB cs am)) (by first | rfl | (simp (disch := first | omega | (simp only [add_nx, upd_nx] <;> omega) | decide) only [rUz, ↓reduceIte, Nat.reduceEqDiff, Nat.reduceAdd] <;> rfl)) (hoff _ _ _ rfl) (by simp (disch := first | omega | (simp only [add_nx, upd_nx] <;> omega) | decide) only [rUz, ↓reduceIte, Nat.reduceEqDiff, Nat.reduceAdd]; exact listed_y S hoff _ _ cv cs (hc.mono hk1) hsz av am (ha.mono hk1) hal) ?_
  rintro v g hk rfl
  have hb2 := (hk.get hlt).trans hb1
  have hk2 := hk1.trans hk
  have hlt2 := Nat.lt_of_lt_of_le hlt hk.1
  cases hp : partB cs am with
  | false =>
    rw [hp, Bool.false_and, cond_false] at hK
    simp (disch := first | omega | (simp only [add_nx, upd_nx] <;> omega) | decide) only [rUz, ↓reduceIte, Nat.reduceEqDiff, Nat.reduceAdd, hp, un_not, Bool.not_false]
    repeat refine S.seq ?_
    refine S.cond (v := true) (by first | rfl | (simp (disch := first | omega | (simp only [add_nx, upd_nx] <;> omega) | decide) only [rUz, ↓reduceIte, Nat.reduceEqDiff, Nat.reduceAdd] <;> rfl)) (fun _ => ?_) (fun e => by cases e)
    repeat refine S.seq ?_
    refine S.region ?_
    simp (disch := first | omega | (simp only [add_nx, upd_nx] <;> omega) | decide) only [rUz, ↓reduceIte, Nat.reduceEqDiff, Nat.reduceAdd]
    refine S.ret ?_
    try simp only [seqK_ret, blockK_ret]
    subst hF
    simp only [finish, endMarks]
    rw [show Try.f35.results.toList = [.tmp 4, .tmp 5] from rfl]
    simp (disch := first | omega | (simp only [add_nx, upd_nx] <;> omega) | decide) only [resA, ev_tmp, tget_ne, tget_eq, get_ne, get_eq, upd_eq, upd_ne, ag_eq, ag_ne, result1]
    exact hK _ _ hk2 rfl
  | true =>
  rw [hp, Bool.true_and] at hK
  have hpl := partB_len hp
  simp (disch := first | omega | (simp only [add_nx, upd_nx] <;> omega) | decide) only [rUz, ↓reduceIte, Nat.reduceEqDiff, Nat.reduceAdd, hp, un_not, Bool.not_true]
  repeat refine S.seq ?_
  refine S.cond (v := false) (by first | rfl | (simp (disch := first | omega | (simp only [add_nx, upd_nx] <;> omega) | decide) only [rUz, ↓reduceIte, Nat.reduceEqDiff, Nat.reduceAdd] <;> rfl)) (fun e => by cases e) (fun _ => ?_)
  repeat refine S.seq ?_
  refine S.skip ?_
  simp (disch := first | omega | (simp only [add_nx, upd_nx] <;> omega) | decide) only [rUz, ↓reduceIte, Nat.reduceEqDiff, Nat.reduceAdd]
  repeat refine S.seq ?_
  refine S.drawnL [(false, 0), (false, 0), (true, 2), (true, 7), (false, 0), (false, 0), (true, 63), (false, 127), (false, 255)] (by kernel_rfl) (by kernel_rfl) (by kernel_rfl) ?_
  simp (disch := first | omega | (simp only [add_nx, upd_nx] <;> omega) | decide) only [rUz, ↓reduceIte, Nat.reduceEqDiff, Nat.reduceAdd, rDz, infoL, Nat.reduceSub, hb2, pA]
  refine draw_pick' rfl ?_
  simp (disch := first | omega | (simp only [add_nx, upd_nx] <;> omega) | decide) only [rUz, ↓reduceIte, Nat.reduceEqDiff, Nat.reduceAdd, rDz, infoL, Nat.reduceSub, hb2, pA]
  refine draw_pick' rfl ?_
  simp (disch := first | omega | (simp only [add_nx, upd_nx] <;> omega) | decide) only [rUz, ↓reduceIte, Nat.reduceEqDiff, Nat.reduceAdd, rDz, infoL, Nat.reduceSub, hb2, pA]
  refine drW_brings (fid := 18) (first := #[]) (captured := #[]) (Post := fun v h => IAt h v (nums cs)) (by first | rfl | (simp (disch := first | omega | (simp only [add_nx, upd_nx] <;> omega) | decide) only [rUz, ↓reduceIte, Nat.reduceEqDiff, Nat.reduceAdd]; rfl) | (simp (disch := first | omega | (simp only [add_nx, upd_nx] <;> omega) | decide) only [rUz, ↓reduceIte, Nat.reduceEqDiff, Nat.reduceAdd])) (hoff _ _ _ rfl) (by simp (disch := first | omega | (simp only [add_nx, upd_nx] <;> omega) | decide) only [rUz, ↓reduceIte, Nat.reduceEqDiff, Nat.reduceAdd]; exact all_y S _ _ cv cs (hc.mono hk2) hsz) (Nat.le_of_ble_eq_true rfl) ?_
  rintro v g2 hk3 hnu
  have hb3 := (hk3.get hlt2).trans hb2
  have hlt3 := Nat.lt_of_lt_of_le hlt2 hk3.1
  refine ⟨?_, ?_⟩
  · try simp (disch := first | decide | rfl) only [again_nil, again_skip, again_free]
    rw [again_same (v := .agg ⟨[iv (n : Int), cv]⟩) (by simp (disch := first | omega | (simp only [add_nx, upd_nx] <;> omega) | decide) only [rUz, ↓reduceIte, Nat.reduceEqDiff, Nat.reduceAdd, rDz, infoL, Nat.reduceSub, hb3, pA]) hve]
    try simp (disch := first | decide | rfl) only [again_nil, again_skip, again_free]
    rw [again_same (v := .agg ⟨[iv (n : Int), cv]⟩) (by simp (disch := first | omega | (simp only [add_nx, upd_nx] <;> omega) | decide) only [rUz, ↓reduceIte, Nat.reduceEqDiff, Nat.reduceAdd, rDz, infoL, Nat.reduceSub, hb3, pA]) hve]
    try simp (disch := first | decide | rfl) only [again_nil, again_skip, again_free]
  simp (disch := first | omega | (simp only [add_nx, upd_nx] <;> omega) | decide) only [rUz, ↓reduceIte, Nat.reduceEqDiff, Nat.reduceAdd, rDz, infoL, Nat.reduceSub]
  refine drW_brings (fid := 17) (first := #[]) (captured := #[]) (Post := fun v h => IAt h v (bal n cs (nums cs))) (by first | rfl | (simp (disch := first | omega | (simp only [add_nx, upd_nx] <;> omega) | decide) only [rUz, ↓reduceIte, Nat.reduceEqDiff, Nat.reduceAdd]; rfl) | (simp (disch := first | omega | (simp only [add_nx, upd_nx] <;> omega) | decide) only [rUz, ↓reduceIte, Nat.reduceEqDiff, Nat.reduceAdd])) (hoff _ _ _ rfl) (by simp (disch := first | omega | (simp only [add_nx, upd_nx] <;> omega) | decide) only [rUz, ↓reduceIte, Nat.reduceEqDiff, Nat.reduceAdd]; exact net_y S _ n hn6 cv cs (hc.mono (hk2.trans hk3)) hsz hv _ (nums cs) hnu (by rw [nums, List.length_map]) (nums_bnd hv)) (Nat.le_of_ble_eq_true rfl) ?_
  rintro wv g3 hk4 hw
  have hb4 := (hk4.get hlt3).trans hb3
  have hlt4 := Nat.lt_of_lt_of_le hlt3 hk4.1
  refine ⟨?_, ?_⟩
  · try simp (disch := first | decide | rfl) only [again_nil, again_skip, again_free]
    rw [again_same (v := .agg ⟨[iv (n : Int), cv]⟩) (by simp (disch := first | omega | (simp only [add_nx, upd_nx] <;> omega) | decide) only [rUz, ↓reduceIte, Nat.reduceEqDiff, Nat.reduceAdd, rDz, infoL, Nat.reduceSub, hb4, pA]) hve]
    try simp (disch := first | decide | rfl) only [again_nil, again_skip, again_free]
  simp (disch := first | omega | (simp only [add_nx, upd_nx] <;> omega) | decide) only [rUz, ↓reduceIte, Nat.reduceEqDiff, Nat.reduceAdd, rDz, infoL, Nat.reduceSub]
  have hk5 := hk2.trans (hk3.trans hk4)
  refine drW_brings (fid := 17) (first := #[]) (captured := #[]) (Post := fun v h => IAt h v (bal n cs am)) (by first | rfl | (simp (disch := first | omega | (simp only [add_nx, upd_nx] <;> omega) | decide) only [rUz, ↓reduceIte, Nat.reduceEqDiff, Nat.reduceAdd]; rfl) | (simp (disch := first | omega | (simp only [add_nx, upd_nx] <;> omega) | decide) only [rUz, ↓reduceIte, Nat.reduceEqDiff, Nat.reduceAdd])) (hoff _ _ _ rfl) (by simp (disch := first | omega | (simp only [add_nx, upd_nx] <;> omega) | decide) only [rUz, ↓reduceIte, Nat.reduceEqDiff, Nat.reduceAdd]; exact net_y S _ n hn6 cv cs (hc.mono hk5) hsz hv av am (ha.mono hk5) hpl (partB_bnd hv hp)) (Nat.le_of_ble_eq_true rfl) ?_
  rintro xv g4 hk6 hx
  have hb5 := (hk6.get hlt4).trans hb4
  have hk7 := hk5.trans hk6
  have hw' := hw.mono hk6
  refine ⟨?_, ?_⟩
  · try simp (disch := first | decide | rfl) only [again_nil, again_skip, again_free]
  have hl1 := bal_len n cs (nums cs)
  have hl2 := bal_len n cs am
  generalize bal n cs (nums cs) = a at hw hw' hl1 hK
  generalize bal n cs am = b at hx hl2 hK
  simp (disch := first | omega | (simp only [add_nx, upd_nx] <;> omega) | decide) only [rUz, ↓reduceIte, Nat.reduceEqDiff, Nat.reduceAdd, rDz, infoL, Nat.reduceSub]
  clear hb4 hb3 hk4 hk3 hk5 hk6 hnu hw
  repeat refine S.seq ?_
  refine S.region ?_
  simp (disch := first | omega | (simp only [add_nx, upd_nx] <;> omega) | decide) only [rUz, ↓reduceIte, Nat.reduceEqDiff, Nat.reduceAdd]
  repeat refine S.seq ?_
  refine S.block ?_
  refine S.loop (ι := Nat) (IDa n a b g4 h0.nx av wv xv) (fun k => n - k) ?_ 0 _ _ ?_
  · intro k t h ⟨hk, hh, htk, t1, t2, t6, t7, t8⟩ K' hn he
    subst hh
    repeat refine S.seq ?_
    refine S.region ?_
    simp (disch := first | omega | (simp only [add_nx, upd_nx] <;> omega) | decide) only [rUz, ↓reduceIte, Nat.reduceEqDiff, Nat.reduceAdd, t2, t8, hb5, fieldAddr_ptr fA0 s3, p3]
    repeat refine S.seq ?_
    refine S.cond (v := decide ((k : Int) < (n : Int))) (by first | rfl | (simp (disch := first | omega | (simp only [add_nx, upd_nx] <;> omega) | decide) only [rUz, ↓reduceIte, Nat.reduceEqDiff, Nat.reduceAdd] <;> rfl)) (fun e => ?_) (fun e => ?_)
    · have hka : k < a.length := by have := of_decide_eq_true e; omega
      have hkb : k < b.length := by have := of_decide_eq_true e; omega
      clear e
      obtain ⟨b1, f1, ro1, q1, q2, q3, q4⟩ := hw'.idx slI s3' hka
      obtain ⟨b2, f2, ro2, u1, u2, u3, u4⟩ := hx.idx slI s3' hkb
      repeat refine S.seq ?_
      refine S.skip ?_
      simp (disch := first | omega | (simp only [add_nx, upd_nx] <;> omega) | decide) only [rUz, ↓reduceIte, Nat.reduceEqDiff, Nat.reduceAdd]
      repeat refine S.seq ?_
      refine S.block ?_
      repeat refine S.seq ?_
      refine S.ordered (by kernel_rfl) (by kernel_rfl) (by kernel_rfl) (by kernel_rfl) ?_
      simp (disch := first | omega | (simp only [add_nx, upd_nx] <;> omega) | decide) only [rUz, ↓reduceIte, Nat.reduceEqDiff, Nat.reduceAdd, t6, t7, t8, q1, q3, q4, u1, u3, u4, p3]
      by_cases hxy : a[k] = b[k]
      · have hd : (!decide (a[k] = b[k])) = false := by rw [decide_eq_true hxy]; rfl
        repeat refine S.seq ?_
        refine S.cond (v := false) (by first | rfl | (simp (disch := first | omega | (simp only [add_nx, upd_nx] <;> omega) | decide) only [rUz, ↓reduceIte, Nat.reduceEqDiff, Nat.reduceAdd, hd] <;> rfl)) (fun e => by cases e) (fun _ => ?_)
        repeat refine S.seq ?_
        refine S.skip ?_
        simp (disch := first | omega | (simp only [add_nx, upd_nx] <;> omega) | decide) only [rUz, ↓reduceIte, Nat.reduceEqDiff, Nat.reduceAdd]
        repeat refine S.seq ?_
        refine S.region ?_
        simp (disch := first | omega | (simp only [add_nx, upd_nx] <;> omega) | decide) only [rUz, ↓reduceIte, Nat.reduceEqDiff, Nat.reduceAdd, t8]
        refine hn (k + 1) _ _ (by omega) ⟨by omega, rfl, by rw [List.take_add_one, List.take_add_one, htk, List.getElem?_eq_getElem hka, List.getElem?_eq_getElem hkb, hxy], ?_, ?_, ?_, ?_, ?_⟩
        all_goals (first | rfl | (simp (disch := first | omega | (simp only [add_nx, upd_nx] <;> omega) | decide) only [rUz, ↓reduceIte, Nat.reduceEqDiff, Nat.reduceAdd, t1, t2, t6, t7, t8]; done) | (simp (disch := first | omega | (simp only [add_nx, upd_nx] <;> omega) | decide) only [rUz, ↓reduceIte, Nat.reduceEqDiff, Nat.reduceAdd, t1, t2, t6, t7, t8]; rfl))
      · have hd : (!decide (a[k] = b[k])) = true := by rw [decide_eq_false hxy]; rfl
        have hne : decide (a = b) = false := decide_eq_false fun e => by subst e; exact hxy rfl
        rw [hne, cond_false] at hK
        repeat refine S.seq ?_
        refine S.cond (v := true) (by first | rfl | (simp (disch := first | omega | (simp only [add_nx, upd_nx] <;> omega) | decide) only [rUz, ↓reduceIte, Nat.reduceEqDiff, Nat.reduceAdd, hd] <;> rfl)) (fun _ => ?_) (fun e => by cases e)
        repeat refine S.seq ?_
        refine S.region ?_
        simp (disch := first | omega | (simp only [add_nx, upd_nx] <;> omega) | decide) only [rUz, ↓reduceIte, Nat.reduceEqDiff, Nat.reduceAdd]
        refine S.ret ?_
        simp only [seqK_ret, blockK_ret]
        refine he _ _ _ _ (fun e => by cases e) ?_
        simp only [seqK_ret, blockK_ret]
        subst hF
        simp only [finish, endMarks]
        rw [show Try.f35.results.toList = [.tmp 4, .tmp 5] from rfl]
        simp (disch := omega) only [resA, ev_tmp, tget_ne, tget_eq, result1]
        exact hK _ _ hk7 rfl
    · have hkn : k = n := by have := of_decide_eq_false e; omega
      subst hkn
      rw [List.take_of_length_le (by omega), List.take_of_length_le (by omega)] at htk
      rw [decide_eq_true htk, cond_true] at hK
      refine S.exit (he _ _ _ _ (fun e => by cases e) ?_)
      clear he hn e htk
      simp (disch := first | omega | (simp only [add_nx, upd_nx] <;> omega) | decide) only [rUz, ↓reduceIte, Nat.reduceEqDiff, Nat.reduceAdd]
      repeat refine S.seq ?_
      refine S.region ?_
      simp (disch := first | omega | (simp only [add_nx, upd_nx] <;> omega) | decide) only [rUz, ↓reduceIte, Nat.reduceEqDiff, Nat.reduceAdd]
      repeat refine S.seq ?_
      refine S.region ?_
      simp (disch := first | omega | (simp only [add_nx, upd_nx] <;> omega) | decide) only [rUz, ↓reduceIte, Nat.reduceEqDiff, Nat.reduceAdd]
      repeat refine S.seq ?_
      refine S.block ?_
      refine S.loop (ι := Nat) (IDb am h av) (fun k => am.length - k) ?_ 0 _ _ ?_
      · clear t1 t2 t6 t7 t8 t
        intro k t h5 ⟨hk, hh, t1, t9, t10⟩ K' hn he
        subst hh
        repeat refine S.seq ?_
        refine S.region ?_
        simp (disch := first | omega | (simp only [add_nx, upd_nx] <;> omega) | decide) only [rUz, ↓reduceIte, Nat.reduceEqDiff, Nat.reduceAdd, t1, t10, hla]
        repeat refine S.seq ?_
        refine S.cond (v := decide ((k : Int) < (am.length : Int))) (by first | rfl | (simp (disch := first | omega | (simp only [add_nx, upd_nx] <;> omega) | decide) only [rUz, ↓reduceIte, Nat.reduceEqDiff, Nat.reduceAdd] <;> rfl)) (fun e => ?_) (fun e => ?_)
        · have hkn : k < am.length := by have := of_decide_eq_true e; omega
          clear e
          obtain ⟨b, f, ro, q1, q2, q3, q4⟩ := (ha.mono hk7).idx slI s3' hkn
          have hct := cnt_bnd (am.take k)
          have hctl : ((am.take k).length : Int) ≤ 12 := by rw [List.length_take]; omega
          have hst := map_take_sum pos1 am k am[k] (List.getElem?_eq_getElem hkn)
          generalize ((am.take k).map pos1).sum = sm at t9 hct hst
          generalize am[k] = x at q4 hst
          repeat refine S.seq ?_
          refine S.skip ?_
          simp (disch := first | omega | (simp only [add_nx, upd_nx] <;> omega) | decide) only [rUz, ↓reduceIte, Nat.reduceEqDiff, Nat.reduceAdd]
          repeat refine S.seq ?_
          refine S.block ?_
          repeat refine S.seq ?_
          refine S.region ?_
          simp (disch := first | omega | (simp only [add_nx, upd_nx] <;> omega) | decide) only [rUz, ↓reduceIte, Nat.reduceEqDiff, Nat.reduceAdd, t1, t10, q1, q3, q4, p3]
          by_cases hx0 : 0 < x
          · have hp1 : pos1 x = 1 := if_pos hx0
            rw [hp1] at hst
            repeat refine S.seq ?_
            refine S.cond (v := true) (by first | rfl | (simp (disch := first | omega | (simp only [add_nx, upd_nx] <;> omega) | decide) only [rUz, ↓reduceIte, Nat.reduceEqDiff, Nat.reduceAdd, decide_eq_true hx0] <;> rfl)) (fun _ => ?_) (fun e => by cases e)
            repeat refine S.seq ?_
            refine S.region ?_
            simp (disch := first | omega | (simp only [add_nx, upd_nx] <;> omega) | decide) only [rUz, ↓reduceIte, Nat.reduceEqDiff, Nat.reduceAdd, t9]
            repeat refine S.seq ?_
            refine S.region ?_
            simp (disch := first | omega | (simp only [add_nx, upd_nx] <;> omega) | decide) only [rUz, ↓reduceIte, Nat.reduceEqDiff, Nat.reduceAdd, t10]
            refine hn (k + 1) _ _ (by omega) ⟨by omega, rfl, ?_, ?_, ?_⟩
            all_goals (try rw [hst])
            all_goals (first | rfl | (simp (disch := first | omega | (simp only [add_nx, upd_nx] <;> omega) | decide) only [rUz, ↓reduceIte, Nat.reduceEqDiff, Nat.reduceAdd, t1, t9, t10]; done) | (simp (disch := first | omega | (simp only [add_nx, upd_nx] <;> omega) | decide) only [rUz, ↓reduceIte, Nat.reduceEqDiff, Nat.reduceAdd, t1, t9, t10]; rfl))
          · have hp1 : pos1 x = 0 := if_neg hx0
            rw [hp1, Int.add_zero] at hst
            repeat refine S.seq ?_
            refine S.cond (v := false) (by first | rfl | (simp (disch := first | omega | (simp only [add_nx, upd_nx] <;> omega) | decide) only [rUz, ↓reduceIte, Nat.reduceEqDiff, Nat.reduceAdd, decide_eq_false hx0] <;> rfl)) (fun e => by cases e) (fun _ => ?_)
            repeat refine S.seq ?_
            refine S.skip ?_
            simp (disch := first | omega | (simp only [add_nx, upd_nx] <;> omega) | decide) only [rUz, ↓reduceIte, Nat.reduceEqDiff, Nat.reduceAdd]
            repeat refine S.seq ?_
            refine S.region ?_
            simp (disch := first | omega | (simp only [add_nx, upd_nx] <;> omega) | decide) only [rUz, ↓reduceIte, Nat.reduceEqDiff, Nat.reduceAdd, t10]
            refine hn (k + 1) _ _ (by omega) ⟨by omega, rfl, ?_, ?_, ?_⟩
            all_goals (try rw [hst])
            all_goals (first | rfl | (simp (disch := first | omega | (simp only [add_nx, upd_nx] <;> omega) | decide) only [rUz, ↓reduceIte, Nat.reduceEqDiff, Nat.reduceAdd, t1, t9, t10]; done) | (simp (disch := first | omega | (simp only [add_nx, upd_nx] <;> omega) | decide) only [rUz, ↓reduceIte, Nat.reduceEqDiff, Nat.reduceAdd, t1, t9, t10]; rfl))
        · have hkn : k = am.length := by have := of_decide_eq_false e; omega
          subst hkn
          rw [List.take_of_length_le (Nat.le_refl _)] at t9
          refine S.exit (he _ _ _ _ (fun e => by cases e) ?_)
          simp (disch := first | omega | (simp only [add_nx, upd_nx] <;> omega) | decide) only [rUz, ↓reduceIte, Nat.reduceEqDiff, Nat.reduceAdd]
          repeat refine S.seq ?_
          refine S.region ?_
          simp (disch := first | omega | (simp only [add_nx, upd_nx] <;> omega) | decide) only [rUz, ↓reduceIte, Nat.reduceEqDiff, Nat.reduceAdd, t9]
          refine S.ret ?_
          try simp only [seqK_ret, blockK_ret]
          subst hF
          simp only [finish, endMarks]
          rw [show Try.f35.results.toList = [.tmp 4, .tmp 5] from rfl]
          simp (disch := first | omega | (simp only [add_nx, upd_nx] <;> omega) | decide) only [resA, ev_tmp, tget_ne, tget_eq, get_ne, get_eq, upd_eq, upd_ne, ag_eq, ag_ne, result1]
          exact hK _ _ hk7 rfl
      · refine ⟨Nat.zero_le _, rfl, ?_, ?_, ?_⟩
        all_goals (first | rfl | (simp (disch := first | omega | (simp only [add_nx, upd_nx] <;> omega) | decide) only [rUz, ↓reduceIte, Nat.reduceEqDiff, Nat.reduceAdd, t1, List.take_zero, List.map_nil, List.sum_nil]; done) | (simp (disch := first | omega | (simp only [add_nx, upd_nx] <;> omega) | decide) only [rUz, ↓reduceIte, Nat.reduceEqDiff, Nat.reduceAdd, t1, List.take_zero, List.map_nil, List.sum_nil]; rfl))
  · refine ⟨Nat.zero_le _, rfl, by rw [List.take_zero, List.take_zero], ?_, ?_, ?_, ?_, ?_⟩
    all_goals (first | rfl | (simp (disch := first | omega | (simp only [add_nx, upd_nx] <;> omega) | decide) only [rUz, ↓reduceIte, Nat.reduceEqDiff, Nat.reduceAdd]; done) | (simp (disch := first | omega | (simp only [add_nx, upd_nx] <;> omega) | decide) only [rUz, ↓reduceIte, Nat.reduceEqDiff, Nat.reduceAdd]; rfl))
end Go.Proofs.Rg
