import Derived.Test.YtemmpnipmklacaaRpC
namespace Go.Proofs.Rg
open Go Go.Ev
set_option linter.unusedSimpArgs false

variable {pr : Prim} {R : ExT}
/-! ## Equal lists -/
def IEs (a b : List Int) (h0 : AHeap) (av bv : Value) (k : Nat) (t : T Value) (h : AHeap) : Prop :=
  k ≤ a.length ∧ h = h0 ∧ tget t 0 = av ∧ tget t 1 = bv ∧ tget t 12 = iv (a.length : Int) ∧ tget t 13 = iv (k : Int) ∧ a.take k = b.take k
set_option maxHeartbeats 8000000 in
theorem equal_y (S : Ev.Steps Try.prog pr R) (h0 : AHeap) (av bv : Value) (a b : List Int) (ha : IAt h0 av a) (hb : IAt h0 bv b) (hsz : (a.length : Int) ≤ 1000000) :
    Brings Try.prog R 57 [av, bv] h0 fun v h => v = .bool (decide (a = b)) ∧ h = h0 := by
  refine brings_of (fn := Try.f57) (c := (Try.f57.body).getD .skip) (by kernel_rfl) rfl (by kernel_rfl) rfl (fun K hK => ?_)
  generalize hF : finish Try.prog Try.f57 K = KF
  simp only [Try.f57, Option.getD_some, argsT, setArgs, fV1_eq, T.setK_eq, id]
  have hla := fun t h1 o => ha.len isI t h1 o
  have hlb := fun t h1 o => hb.len isI t h1 o
  repeat refine S.seq ?_
  refine S.region ?_
  simp (disch := first | omega | (simp only [add_nx, upd_nx] <;> omega) | decide) only [rUz, ↓reduceIte, Nat.reduceEqDiff, Nat.reduceAdd]
  by_cases hl : (a.length : Int) = (b.length : Int)
  · have hd : (!decide ((a.length : Int) = (b.length : Int))) = false := by rw [decide_eq_true hl]; rfl
    have hl' : a.length = b.length := by omega
    repeat refine S.seq ?_
    refine S.region ?_
    simp (disch := first | omega | (simp only [add_nx, upd_nx] <;> omega) | decide) only [rUz, ↓reduceIte, Nat.reduceEqDiff, Nat.reduceAdd, hla, hlb, hd]
    repeat refine S.seq ?_
    refine S.cond (v := false) (by first | rfl | (simp (disch := first | omega | (simp only [add_nx, upd_nx] <;> omega) | decide) only [rUz, ↓reduceIte, Nat.reduceEqDiff, Nat.reduceAdd] <;> rfl)) (fun e => by cases e) (fun _ => ?_)
    repeat refine S.seq ?_
    refine S.skip ?_
    simp (disch := first | omega | (simp only [add_nx, upd_nx] <;> omega) | decide) only [rUz, ↓reduceIte, Nat.reduceEqDiff, Nat.reduceAdd]
    repeat refine S.seq ?_
    refine S.region ?_
    simp (disch := first | omega | (simp only [add_nx, upd_nx] <;> omega) | decide) only [rUz, ↓reduceIte, Nat.reduceEqDiff, Nat.reduceAdd, hla]
    repeat refine S.seq ?_
    refine S.block ?_
    refine S.loop (ι := Nat) (IEs a b h0 av bv) (fun k => a.length - k) ?_ 0 _ _ ?_
    · intro k t h ⟨hk, hh, t0, t1, t12, t13, htk⟩ K' hn he
      subst hh
      repeat refine S.seq ?_
      refine S.region ?_
      simp (disch := first | omega | (simp only [add_nx, upd_nx] <;> omega) | decide) only [rUz, ↓reduceIte, Nat.reduceEqDiff, Nat.reduceAdd, t12, t13]
      repeat refine S.seq ?_
      refine S.cond (v := decide ((k : Int) < (a.length : Int))) (by first | rfl | (simp (disch := first | omega | (simp only [add_nx, upd_nx] <;> omega) | decide) only [rUz, ↓reduceIte, Nat.reduceEqDiff, Nat.reduceAdd] <;> rfl)) (fun e => ?_) (fun e => ?_)
      · have hkn : k < a.length := by have := of_decide_eq_true e; omega
        clear e
        have hkb : k < b.length := by omega
        obtain ⟨b1, f1, ro1, q1, q2, q3, q4⟩ := ha.idx slI s3' hkn
        obtain ⟨b2, f2, ro2, u1, u2, u3, u4⟩ := hb.idx slI s3' hkb
        repeat refine S.seq ?_
        refine S.skip ?_
        simp (disch := first | omega | (simp only [add_nx, upd_nx] <;> omega) | decide) only [rUz, ↓reduceIte, Nat.reduceEqDiff, Nat.reduceAdd]
        repeat refine S.seq ?_
        refine S.block ?_
        repeat refine S.seq ?_
        refine S.region ?_
        simp (disch := first | omega | (simp only [add_nx, upd_nx] <;> omega) | decide) only [rUz, ↓reduceIte, Nat.reduceEqDiff, Nat.reduceAdd, t13]
        repeat refine S.seq ?_
        refine S.ordered (by kernel_rfl) (by kernel_rfl) (by kernel_rfl) (by kernel_rfl) ?_
        simp (disch := first | omega | (simp only [add_nx, upd_nx] <;> omega) | decide) only [rUz, ↓reduceIte, Nat.reduceEqDiff, Nat.reduceAdd, t0, t1, q1, q3, q4, u1, u3, u4, p3]
        by_cases hx : a[k] = b[k]
        · have hd : (!decide (a[k] = b[k])) = false := by rw [decide_eq_true hx]; rfl
          repeat refine S.seq ?_
          refine S.cond (v := false) (by first | rfl | (simp (disch := first | omega | (simp only [add_nx, upd_nx] <;> omega) | decide) only [rUz, ↓reduceIte, Nat.reduceEqDiff, Nat.reduceAdd, hd] <;> rfl)) (fun e => by cases e) (fun _ => ?_)
          repeat refine S.seq ?_
          refine S.skip ?_
          simp (disch := first | omega | (simp only [add_nx, upd_nx] <;> omega) | decide) only [rUz, ↓reduceIte, Nat.reduceEqDiff, Nat.reduceAdd]
          repeat refine S.seq ?_
          refine S.region ?_
          simp (disch := first | omega | (simp only [add_nx, upd_nx] <;> omega) | decide) only [rUz, ↓reduceIte, Nat.reduceEqDiff, Nat.reduceAdd, t13]
          refine hn (k + 1) _ _ (by omega) ⟨by omega, rfl, ?_, ?_, ?_, ?_, ?_⟩
          rotate_right
          · rw [List.take_add_one, List.take_add_one, htk, List.getElem?_eq_getElem hkn, List.getElem?_eq_getElem hkb, hx]
          all_goals (first | rfl | (simp (disch := first | omega | (simp only [add_nx, upd_nx] <;> omega) | decide) only [rUz, ↓reduceIte, Nat.reduceEqDiff, Nat.reduceAdd, t0, t1, t12, t13]; done) | (simp (disch := first | omega | (simp only [add_nx, upd_nx] <;> omega) | decide) only [rUz, ↓reduceIte, Nat.reduceEqDiff, Nat.reduceAdd, t0, t1, t12, t13]; rfl))
        · have hd : (!decide (a[k] = b[k])) = true := by rw [decide_eq_false hx]; rfl
          have hne : decide (a = b) = false := decide_eq_false fun e => by subst e; exact hx rfl
          rw [hne] at hK
          repeat refine S.seq ?_
          refine S.cond (v := true) (by first | rfl | (simp (disch := first | omega | (simp only [add_nx, upd_nx] <;> omega) | decide) only [rUz, ↓reduceIte, Nat.reduceEqDiff, Nat.reduceAdd, hd] <;> rfl)) (fun _ => ?_) (fun e => by cases e)
          repeat refine S.seq ?_
          refine S.region ?_
          simp (disch := first | omega | (simp only [add_nx, upd_nx] <;> omega) | decide) only [rUz, ↓reduceIte, Nat.reduceEqDiff, Nat.reduceAdd]
          refine S.ret ?_
          simp only [seqK_ret, blockK_ret]
          refine he _ _ _ _ (fun e => by cases e) ?_
          simp only [seqK_ret, blockK_ret]
          subst hF
          simp only [finish, endMarks]
          rw [show Try.f57.results.toList = [.tmp 4] from rfl]
          simp (disch := omega) only [resA, ev_tmp, tget_ne, tget_eq, result1]
          exact hK _ _ Kp.refl ⟨rfl, rfl⟩
      · have hkn : k = a.length := by have := of_decide_eq_false e; omega
        subst hkn
        rw [List.take_of_length_le (Nat.le_refl _), hl', List.take_of_length_le (Nat.le_refl _)] at htk
        rw [decide_eq_true htk] at hK
        refine S.exit (he _ _ _ _ (fun e => by cases e) ?_)
        simp (disch := first | omega | (simp only [add_nx, upd_nx] <;> omega) | decide) only [rUz, ↓reduceIte, Nat.reduceEqDiff, Nat.reduceAdd]
        repeat refine S.seq ?_
        refine S.region ?_
        simp (disch := first | omega | (simp only [add_nx, upd_nx] <;> omega) | decide) only [rUz, ↓reduceIte, Nat.reduceEqDiff, Nat.reduceAdd]
        refine S.ret ?_
        try simp only [seqK_ret, blockK_ret]
        subst hF
        simp only [finish, endMarks]
        rw [show Try.f57.results.toList = [.tmp 4] from rfl]
        simp (disch := first | omega | (simp only [add_nx, upd_nx] <;> omega) | decide) only [resA, ev_tmp, tget_ne, tget_eq, get_ne, get_eq, upd_eq, upd_ne, ag_eq, ag_ne, result1]
        exact hK _ _ Kp.refl ⟨rfl, rfl⟩
    · refine ⟨Nat.zero_le _, rfl, ?_, ?_, ?_, ?_, rfl⟩
      all_goals (first | rfl | (simp (disch := first | omega | (simp only [add_nx, upd_nx] <;> omega) | decide) only [rUz, ↓reduceIte, Nat.reduceEqDiff, Nat.reduceAdd]; done) | (simp (disch := first | omega | (simp only [add_nx, upd_nx] <;> omega) | decide) only [rUz, ↓reduceIte, Nat.reduceEqDiff, Nat.reduceAdd]; rfl))
  · have hd : (!decide ((a.length : Int) = (b.length : Int))) = true := by rw [decide_eq_false hl]; rfl
    have hne : decide (a = b) = false := decide_eq_false fun e => by subst e; exact hl rfl
    rw [hne] at hK
    repeat refine S.seq ?_
    refine S.region ?_
    simp (disch := first | omega | (simp only [add_nx, upd_nx] <;> omega) | decide) only [rUz, ↓reduceIte, Nat.reduceEqDiff, Nat.reduceAdd, hla, hlb, hd]
    repeat refine S.seq ?_
    refine S.cond (v := true) (by first | rfl | (simp (disch := first | omega | (simp only [add_nx, upd_nx] <;> omega) | decide) only [rUz, ↓reduceIte, Nat.reduceEqDiff, Nat.reduceAdd] <;> rfl)) (fun _ => ?_) (fun e => by cases e)
    repeat refine S.seq ?_
    refine S.region ?_
    simp (disch := first | omega | (simp only [add_nx, upd_nx] <;> omega) | decide) only [rUz, ↓reduceIte, Nat.reduceEqDiff, Nat.reduceAdd]
    refine S.ret ?_
    try simp only [seqK_ret, blockK_ret]
    subst hF
    simp only [finish, endMarks]
    rw [show Try.f57.results.toList = [.tmp 4] from rfl]
    simp (disch := first | omega | (simp only [add_nx, upd_nx] <;> omega) | decide) only [resA, ev_tmp, tget_ne, tget_eq, get_ne, get_eq, upd_eq, upd_ne, ag_eq, ag_ne, result1]
    exact hK _ _ Kp.refl ⟨rfl, rfl⟩

/-! ## Deliveries -/
def pos1 (x : Int) : Int := if 0 < x then 1 else 0
def cnt (l : List Int) : Int := (l.map pos1).sum
theorem cnt_bnd : ∀ (l : List Int), 0 ≤ (l.map pos1).sum ∧ (l.map pos1).sum ≤ l.length
  | [] => by simp
  | x :: l => by
    have := cnt_bnd l
    have hp : 0 ≤ pos1 x ∧ pos1 x ≤ 1 := by unfold pos1; split <;> omega
    simp only [List.map_cons, List.sum_cons, List.length_cons]
    omega
def pdP (hs : Int) (cs : List C4) (am : List Int) (many : Int) : Bool :=
  decide (faultZ hs cs = 0) && (partB cs am && (decide (cnt am ≤ many) && decide (bal hs.toNat cs am = bal hs.toNat cs (nums cs))))
def IDl (am : List Int) (_h0 g : AHeap) (B3 : Nat) (av : Value) (many : Int) (k : Nat) (t : T Value) (h : AHeap) : Prop :=
  k ≤ am.length ∧ h = g ∧ tget t 1 = av ∧ tget t 2 = iv many ∧ tget t 3 = ptr0 B3 ∧ tget t 7 = iv ((am.take k).map pos1).sum ∧ tget t 19 = av ∧ tget t 20 = iv (am.length : Int) ∧ tget t 21 = iv (k : Int)
set_option maxHeartbeats 8000000 in
theorem proveDeliveries_y (S : Ev.Steps Try.prog pr R) (hoff : Off pr) (h0 : AHeap) (hs : Int) (cv : Value) (cs : List C4) (hc : CAt h0 cv cs) (hsz : cs.length ≤ 12) (av : Value) (am : List Int) (ha : IAt h0 av am) (many : Int) :
    Brings Try.prog R 31 [.agg ⟨[iv hs, cv]⟩, av, iv many] h0 fun u _ => u = .bool (pdP hs cs am many) := by
  refine brings_of (fn := Try.f31) (c := (Try.f31.body).getD .skip) (by kernel_rfl) rfl (by kernel_rfl) rfl (fun K hK => ?_)
  generalize hF : finish Try.prog Try.f31 K = KF
  simp only [Try.f31, Option.getD_some, argsT, setArgs, fV1_eq, T.setK_eq, id]
  repeat refine S.seq ?_
  refine S.region ?_
  simp (disch := first | omega | (simp only [add_nx, upd_nx] <;> omega) | decide) only [rUz, ↓reduceIte, Nat.reduceEqDiff, Nat.reduceAdd]
  have hb1 : (h0.add [iv hs, cv]).bl.get h0.nx = some (.cells [iv hs, cv] h0.nx false) := ag_eq rfl
  have hk1 : Kp h0 (h0.add [iv hs, cv]) := Kp.refl.add
  have hlt : h0.nx < (h0.add [iv hs, cv]).nx := Nat.lt_succ_self _
  have hve := veq_book hc hs
  generalize h0.add [iv hs, cv] = H1 at hb1 hk1 hlt ⊢
  unfold pdP at hK
  repeat refine S.seq ?_
  refine S.region ?_
  simp (disch := first | omega | (simp only [add_nx, upd_nx] <;> omega) | decide) only [rUz, ↓reduceIte, Nat.reduceEqDiff, Nat.reduceAdd, hb1, pB]
  refine wr_brings (fid := 14) (first := #[]) (captured := #[]) (Post := fun v _ => v = iv (faultZ hs cs)) (by first | rfl | (simp (disch := first | omega | (simp only [add_nx, upd_nx] <;> omega) | decide) only [rUz, ↓reduceIte, Nat.reduceEqDiff, Nat.reduceAdd] <;> rfl)) (hoff _ _ _ rfl) (by simp (disch := first | omega | (simp only [add_nx, upd_nx] <;> omega) | decide) only [rUz, ↓reduceIte, Nat.reduceEqDiff, Nat.reduceAdd]; exact check_y S hoff _ hs cv cs (hc.mono hk1) (by omega)) ?_
  rintro v g hk rfl
  have hb2 := (hk.get hlt).trans hb1
  have hk2 := hk1.trans hk
  by_cases hz : faultZ hs cs = 0
  rotate_left
  · rw [decide_eq_false hz, Bool.false_and] at hK
    have hd : (!decide (faultZ hs cs = 0)) = true := by rw [decide_eq_false hz]; rfl
    simp (disch := first | omega | (simp only [add_nx, upd_nx] <;> omega) | decide) only [rUz, ↓reduceIte, Nat.reduceEqDiff, Nat.reduceAdd, hd]
    repeat refine S.seq ?_
    refine S.cond (v := true) (by first | rfl | (simp (disch := first | omega | (simp only [add_nx, upd_nx] <;> omega) | decide) only [rUz, ↓reduceIte, Nat.reduceEqDiff, Nat.reduceAdd] <;> rfl)) (fun _ => ?_) (fun e => by cases e)
    repeat refine S.seq ?_
    refine S.region ?_
    simp (disch := first | omega | (simp only [add_nx, upd_nx] <;> omega) | decide) only [rUz, ↓reduceIte, Nat.reduceEqDiff, Nat.reduceAdd]
    refine S.ret ?_
    try simp only [seqK_ret, blockK_ret]
    subst hF
    simp only [finish, endMarks]
    rw [show Try.f31.results.toList = [.tmp 6] from rfl]
    simp (disch := first | omega | (simp only [add_nx, upd_nx] <;> omega) | decide) only [resA, ev_tmp, tget_ne, tget_eq, get_ne, get_eq, upd_eq, upd_ne, ag_eq, ag_ne, result1]
    exact hK _ _ hk2 rfl
  rw [decide_eq_true hz, Bool.true_and] at hK
  obtain ⟨n, rfl, hn1, hn6, hcl, hv'⟩ := Hs.of_fault hz
  rw [Int.toNat_natCast] at hK
  have hd : (!decide (faultZ (n : Int) cs = 0)) = false := by rw [decide_eq_true hz]; rfl
  simp (disch := first | omega | (simp only [add_nx, upd_nx] <;> omega) | decide) only [rUz, ↓reduceIte, Nat.reduceEqDiff, Nat.reduceAdd, hd, hb2, pB]
  refine wr_brings (fid := 56) (first := #[]) (captured := #[]) (Post := fun u _ => u = .bool (partB cs am)) (by first | rfl | (simp (disch := first | omega | (simp only [add_nx, upd_nx] <;> omega) | decide) only [rUz, ↓reduceIte, Nat.reduceEqDiff, Nat.reduceAdd] <;> rfl)) (hoff _ _ _ rfl) (by simp (disch := first | omega | (simp only [add_nx, upd_nx] <;> omega) | decide) only [rUz, ↓reduceIte, Nat.reduceEqDiff, Nat.reduceAdd]; exact isPart_y S hoff g _ cv cs (hc.mono hk2) hsz av am (ha.mono hk2)) ?_
  rintro v g2 hk3 rfl
  have hlt2 : h0.nx < g.nx := Nat.lt_of_lt_of_le hlt hk.1
  have hb3 := (hk3.get hlt2).trans hb2
  have hk4 := hk2.trans hk3
  have hlt3 : h0.nx < g2.nx := Nat.lt_of_lt_of_le hlt2 hk3.1
  cases hp : partB cs am with
  | false =>
    rw [hp, Bool.false_and] at hK
    simp (disch := first | omega | (simp only [add_nx, upd_nx] <;> omega) | decide) only [rUz, ↓reduceIte, Nat.reduceEqDiff, Nat.reduceAdd, hp, un_not, Bool.not_false]
    repeat refine S.seq ?_
    refine S.cond (v := true) (by first | rfl | (simp (disch := first | omega | (simp only [add_nx, upd_nx] <;> omega) | decide) only [rUz, ↓reduceIte, Nat.reduceEqDiff, Nat.reduceAdd] <;> rfl)) (fun _ => ?_) (fun e => by cases e)
    repeat refine S.seq ?_
    refine S.region ?_
    simp (disch := first | omega | (simp only [add_nx, upd_nx] <;> omega) | decide) only [rUz, ↓reduceIte, Nat.reduceEqDiff, Nat.reduceAdd]
    refine S.ret ?_
    try simp only [seqK_ret, blockK_ret]
    subst hF
    simp only [finish, endMarks]
    rw [show Try.f31.results.toList = [.tmp 6] from rfl]
    simp (disch := first | omega | (simp only [add_nx, upd_nx] <;> omega) | decide) only [resA, ev_tmp, tget_ne, tget_eq, get_ne, get_eq, upd_eq, upd_ne, ag_eq, ag_ne, result1]
    exact hK _ _ hk4 rfl
  | true =>
  rw [hp, Bool.true_and] at hK
  have hpl := partB_len hp
  simp (disch := first | omega | (simp only [add_nx, upd_nx] <;> omega) | decide) only [rUz, ↓reduceIte, Nat.reduceEqDiff, Nat.reduceAdd, hp, un_not, Bool.not_true]
  repeat refine S.seq ?_
  refine S.cond (v := false) (by first | rfl | (simp (disch := first | omega | (simp only [add_nx, upd_nx] <;> omega) | decide) only [rUz, ↓reduceIte, Nat.reduceEqDiff, Nat.reduceAdd] <;> rfl)) (fun e => by cases e) (fun _ => ?_)
  repeat refine S.seq ?_
  refine S.skip ?_
  simp (disch := first | omega | (simp only [add_nx, upd_nx] <;> omega) | decide) only [rUz, ↓reduceIte, Nat.reduceEqDiff, Nat.reduceAdd]
  have hla := fun t h1 o => ha.len isI t h1 o
  repeat refine S.seq ?_
  refine S.region ?_
  simp (disch := first | omega | (simp only [add_nx, upd_nx] <;> omega) | decide) only [rUz, ↓reduceIte, Nat.reduceEqDiff, Nat.reduceAdd]
  repeat refine S.seq ?_
  refine S.region ?_
  simp (disch := first | omega | (simp only [add_nx, upd_nx] <;> omega) | decide) only [rUz, ↓reduceIte, Nat.reduceEqDiff, Nat.reduceAdd, hla]
  repeat refine S.seq ?_
  refine S.block ?_
  refine S.loop (ι := Nat) (IDl am h0 g2 h0.nx av many) (fun k => am.length - k) ?_ 0 _ _ ?_
  · intro k t h ⟨hk, hh, t1, t2, t3, t7, t19, t20, t21⟩ K' hn he
    subst hh
    repeat refine S.seq ?_
    refine S.region ?_
    simp (disch := first | omega | (simp only [add_nx, upd_nx] <;> omega) | decide) only [rUz, ↓reduceIte, Nat.reduceEqDiff, Nat.reduceAdd, t20, t21]
    repeat refine S.seq ?_
    refine S.cond (v := decide ((k : Int) < (am.length : Int))) (by first | rfl | (simp (disch := first | omega | (simp only [add_nx, upd_nx] <;> omega) | decide) only [rUz, ↓reduceIte, Nat.reduceEqDiff, Nat.reduceAdd] <;> rfl)) (fun e => ?_) (fun e => ?_)
    · have hkn : k < am.length := by have := of_decide_eq_true e; omega
      clear e
      obtain ⟨b, f, ro, q1, q2, q3, q4⟩ := (ha.mono hk4).idx slI s3' hkn
      have hct := cnt_bnd (am.take k)
      have hctl : ((am.take k).length : Int) ≤ 12 := by rw [List.length_take]; omega
      have hst := map_take_sum pos1 am k am[k] (List.getElem?_eq_getElem hkn)
      generalize ((am.take k).map pos1).sum = sm at t7 hct hst
      generalize am[k] = x at q4 hst
      repeat refine S.seq ?_
      refine S.skip ?_
      simp (disch := first | omega | (simp only [add_nx, upd_nx] <;> omega) | decide) only [rUz, ↓reduceIte, Nat.reduceEqDiff, Nat.reduceAdd]
      repeat refine S.seq ?_
      refine S.block ?_
      repeat refine S.seq ?_
      refine S.region ?_
      simp (disch := first | omega | (simp only [add_nx, upd_nx] <;> omega) | decide) only [rUz, ↓reduceIte, Nat.reduceEqDiff, Nat.reduceAdd, t19, t21, q1, q3, q4, p3]
      repeat refine S.seq ?_
      refine S.region ?_
      simp (disch := first | omega | (simp only [add_nx, upd_nx] <;> omega) | decide) only [rUz, ↓reduceIte, Nat.reduceEqDiff, Nat.reduceAdd]
      by_cases hx : 0 < x
      · have hp1 : pos1 x = 1 := if_pos hx
        rw [hp1] at hst
        repeat refine S.seq ?_
        refine S.cond (v := true) (by first | rfl | (simp (disch := first | omega | (simp only [add_nx, upd_nx] <;> omega) | decide) only [rUz, ↓reduceIte, Nat.reduceEqDiff, Nat.reduceAdd, decide_eq_true hx] <;> rfl)) (fun _ => ?_) (fun e => by cases e)
        repeat refine S.seq ?_
        refine S.region ?_
        simp (disch := first | omega | (simp only [add_nx, upd_nx] <;> omega) | decide) only [rUz, ↓reduceIte, Nat.reduceEqDiff, Nat.reduceAdd, t7]
        repeat refine S.seq ?_
        refine S.region ?_
        simp (disch := first | omega | (simp only [add_nx, upd_nx] <;> omega) | decide) only [rUz, ↓reduceIte, Nat.reduceEqDiff, Nat.reduceAdd, t21]
        refine hn (k + 1) _ _ (by omega) ⟨by omega, rfl, ?_, ?_, ?_, ?_, ?_, ?_, ?_⟩
        all_goals (try rw [hst])
        all_goals (first | rfl | (simp (disch := first | omega | (simp only [add_nx, upd_nx] <;> omega) | decide) only [rUz, ↓reduceIte, Nat.reduceEqDiff, Nat.reduceAdd, t1, t2, t3, t7, t19, t20, t21]; done) | (simp (disch := first | omega | (simp only [add_nx, upd_nx] <;> omega) | decide) only [rUz, ↓reduceIte, Nat.reduceEqDiff, Nat.reduceAdd, t1, t2, t3, t7, t19, t20, t21]; rfl))
      · have hp1 : pos1 x = 0 := if_neg hx
        rw [hp1, Int.add_zero] at hst
        repeat refine S.seq ?_
        refine S.cond (v := false) (by first | rfl | (simp (disch := first | omega | (simp only [add_nx, upd_nx] <;> omega) | decide) only [rUz, ↓reduceIte, Nat.reduceEqDiff, Nat.reduceAdd, decide_eq_false hx] <;> rfl)) (fun e => by cases e) (fun _ => ?_)
        repeat refine S.seq ?_
        refine S.skip ?_
        simp (disch := first | omega | (simp only [add_nx, upd_nx] <;> omega) | decide) only [rUz, ↓reduceIte, Nat.reduceEqDiff, Nat.reduceAdd]
        repeat refine S.seq ?_
        refine S.region ?_
        simp (disch := first | omega | (simp only [add_nx, upd_nx] <;> omega) | decide) only [rUz, ↓reduceIte, Nat.reduceEqDiff, Nat.reduceAdd, t21]
        refine hn (k + 1) _ _ (by omega) ⟨by omega, rfl, ?_, ?_, ?_, ?_, ?_, ?_, ?_⟩
        all_goals (try rw [hst])
        all_goals (first | rfl | (simp (disch := first | omega | (simp only [add_nx, upd_nx] <;> omega) | decide) only [rUz, ↓reduceIte, Nat.reduceEqDiff, Nat.reduceAdd, t1, t2, t3, t7, t19, t20, t21]; done) | (simp (disch := first | omega | (simp only [add_nx, upd_nx] <;> omega) | decide) only [rUz, ↓reduceIte, Nat.reduceEqDiff, Nat.reduceAdd, t1, t2, t3, t7, t19, t20, t21]; rfl))
    · have hkn : k = am.length := by have := of_decide_eq_false e; omega
      subst hkn
      rw [List.take_of_length_le (Nat.le_refl _)] at t7
      refine S.exit (he _ _ _ _ (fun e => by cases e) ?_)
      simp (disch := first | omega | (simp only [add_nx, upd_nx] <;> omega) | decide) only [rUz, ↓reduceIte, Nat.reduceEqDiff, Nat.reduceAdd]
      have hcn : ((am.map pos1).sum : Int) = cnt am := rfl
      rw [hcn] at t7
      by_cases hm : cnt am ≤ many
      · rw [decide_eq_true hm, Bool.true_and] at hK
        repeat refine S.seq ?_
        refine S.drawnL [(false, 0), (false, 0), (false, 3), (false, 7), (false, 15), (false, 15), (true, 63), (false, 15), (true, 255), (true, 511), (false, 1023), (false, 2047)] (by kernel_rfl) (by kernel_rfl) (by kernel_rfl) ?_
        simp (disch := first | omega | (simp only [add_nx, upd_nx] <;> omega) | decide) only [rUz, ↓reduceIte, Nat.reduceEqDiff, Nat.reduceAdd, rDz, infoL, Nat.reduceSub, t1, t2, t3, t7, decide_eq_true hm, hb3, pB]
        refine draw_pick' rfl ?_
        simp (disch := first | omega | (simp only [add_nx, upd_nx] <;> omega) | decide) only [rUz, ↓reduceIte, Nat.reduceEqDiff, Nat.reduceAdd, rDz, infoL, Nat.reduceSub, t3, hb3, pB]
        refine drW_brings (fid := 43) (first := #[]) (captured := #[]) (Post := fun v h' => ∃ B, v = .slice (some ⟨B, 0, none⟩) n n ∧ h.nx ≤ B ∧ Own h' B (bal n cs am)) (by first | rfl | (simp (disch := first | omega | (simp only [add_nx, upd_nx] <;> omega) | decide) only [rUz, ↓reduceIte, Nat.reduceEqDiff, Nat.reduceAdd]; rfl) | (simp (disch := first | omega | (simp only [add_nx, upd_nx] <;> omega) | decide) only [rUz, ↓reduceIte, Nat.reduceEqDiff, Nat.reduceAdd])) (hoff _ _ _ rfl) (by simp (disch := first | omega | (simp only [add_nx, upd_nx] <;> omega) | decide) only [rUz, ↓reduceIte, Nat.reduceEqDiff, Nat.reduceAdd]; exact balances_y S hoff h n hn6 cv cs (hc.mono hk4) hsz hv' av am (ha.mono hk4) hpl (partB_bnd hv' hp)) (Nat.le_of_ble_eq_true rfl) ?_
        rintro v g3 hk5 ⟨B, rfl, _, hO⟩
        have hb4 := (hk5.get hlt3).trans hb3
        refine ⟨?_, ?_⟩
        · try simp (disch := first | decide | rfl) only [again_nil, again_skip, again_free]
          rw [again_same (v := .agg ⟨[iv (n : Int), cv]⟩) (by simp (disch := first | omega | (simp only [add_nx, upd_nx] <;> omega) | decide) only [rUz, ↓reduceIte, Nat.reduceEqDiff, Nat.reduceAdd, rDz, infoL, Nat.reduceSub, t3, hb4, pB]) hve]
          try simp (disch := first | decide | rfl) only [again_nil, again_skip, again_free]
        simp (disch := first | omega | (simp only [add_nx, upd_nx] <;> omega) | decide) only [rUz, ↓reduceIte, Nat.reduceEqDiff, Nat.reduceAdd, rDz, infoL, Nat.reduceSub]
        refine drW_brings (fid := 40) (first := #[]) (captured := #[]) (Post := fun v h' => ∃ B, v = .slice (some ⟨B, 0, none⟩) n n ∧ g3.nx ≤ B ∧ Own h' B (bal n cs (nums cs))) (by first | rfl | (simp (disch := first | omega | (simp only [add_nx, upd_nx] <;> omega) | decide) only [rUz, ↓reduceIte, Nat.reduceEqDiff, Nat.reduceAdd]; rfl) | (simp (disch := first | omega | (simp only [add_nx, upd_nx] <;> omega) | decide) only [rUz, ↓reduceIte, Nat.reduceEqDiff, Nat.reduceAdd])) (hoff _ _ _ rfl) (by simp (disch := first | omega | (simp only [add_nx, upd_nx] <;> omega) | decide) only [rUz, ↓reduceIte, Nat.reduceEqDiff, Nat.reduceAdd]; exact differences_y S hoff g3 n hn6 cv cs (hc.mono (hk4.trans hk5)) hsz hv') (Nat.le_of_ble_eq_true rfl) ?_
        rintro v g4 hk6 ⟨B', rfl, _, hO'⟩
        refine ⟨?_, ?_⟩
        · try simp (disch := first | decide | rfl) only [again_nil, again_skip, again_free]
        simp (disch := first | omega | (simp only [add_nx, upd_nx] <;> omega) | decide) only [rUz, ↓reduceIte, Nat.reduceEqDiff, Nat.reduceAdd, rDz, infoL, Nat.reduceSub]
        refine drW_brings (fid := 57) (first := #[]) (captured := #[]) (Post := fun v h' => v = .bool (decide (bal n cs am = bal n cs (nums cs))) ∧ h' = g4) (by first | rfl | (simp (disch := first | omega | (simp only [add_nx, upd_nx] <;> omega) | decide) only [rUz, ↓reduceIte, Nat.reduceEqDiff, Nat.reduceAdd]; rfl) | (simp (disch := first | omega | (simp only [add_nx, upd_nx] <;> omega) | decide) only [rUz, ↓reduceIte, Nat.reduceEqDiff, Nat.reduceAdd])) (hoff _ _ _ rfl) (by simp (disch := first | omega | (simp only [add_nx, upd_nx] <;> omega) | decide) only [rUz, ↓reduceIte, Nat.reduceEqDiff, Nat.reduceAdd]; exact equal_y S g4 _ _ _ _ ((hO.mono hk6).at' (by rw [bal_len])) (hO'.at' (by rw [bal_len])) (by rw [bal_len]; omega)) (Nat.le_of_ble_eq_true rfl) ?_
        rintro v g5 - ⟨rfl, rfl⟩
        refine ⟨?_, ?_⟩
        · try simp (disch := first | decide | rfl) only [again_nil, again_skip, again_free]
        simp (disch := first | omega | (simp only [add_nx, upd_nx] <;> omega) | decide) only [rUz, ↓reduceIte, Nat.reduceEqDiff, Nat.reduceAdd, rDz, infoL, Nat.reduceSub]
        refine S.ret ?_
        try simp only [seqK_ret, blockK_ret]
        subst hF
        simp only [finish, endMarks]
        rw [show Try.f31.results.toList = [.tmp 6] from rfl]
        simp (disch := first | omega | (simp only [add_nx, upd_nx] <;> omega) | decide) only [resA, ev_tmp, tget_ne, tget_eq, get_ne, get_eq, upd_eq, upd_ne, ag_eq, ag_ne, result1]
        exact hK _ _ (hk4.trans (hk5.trans hk6)) rfl
      · rw [decide_eq_false hm, Bool.false_and] at hK
        repeat refine S.seq ?_
        refine S.drawnL [(false, 0), (false, 0), (false, 3), (false, 7), (false, 15), (false, 15), (true, 63), (false, 15), (true, 255), (true, 511), (false, 1023), (false, 2047)] (by kernel_rfl) (by kernel_rfl) (by kernel_rfl) ?_
        simp (disch := first | omega | (simp only [add_nx, upd_nx] <;> omega) | decide) only [rUz, ↓reduceIte, Nat.reduceEqDiff, Nat.reduceAdd, rDz, infoL, Nat.reduceSub, t1, t2, t3, t7, decide_eq_false hm]
        refine draw_pick' rfl ?_
        simp (disch := first | omega | (simp only [add_nx, upd_nx] <;> omega) | decide) only [rUz, ↓reduceIte, Nat.reduceEqDiff, Nat.reduceAdd, rDz, infoL, Nat.reduceSub, t3]
        refine S.ret ?_
        try simp only [seqK_ret, blockK_ret]
        subst hF
        simp only [finish, endMarks]
        rw [show Try.f31.results.toList = [.tmp 6] from rfl]
        simp (disch := first | omega | (simp only [add_nx, upd_nx] <;> omega) | decide) only [resA, ev_tmp, tget_ne, tget_eq, get_ne, get_eq, upd_eq, upd_ne, ag_eq, ag_ne, result1]
        exact hK _ _ hk4 rfl
  · refine ⟨Nat.zero_le _, rfl, ?_, ?_, ?_, ?_, ?_, ?_, ?_⟩
    all_goals (first | rfl | (simp (disch := first | omega | (simp only [add_nx, upd_nx] <;> omega) | decide) only [rUz, ↓reduceIte, Nat.reduceEqDiff, Nat.reduceAdd, List.take_zero, List.map_nil, List.sum_nil]; done) | (simp (disch := first | omega | (simp only [add_nx, upd_nx] <;> omega) | decide) only [rUz, ↓reduceIte, Nat.reduceEqDiff, Nat.reduceAdd, List.take_zero, List.map_nil, List.sum_nil]; rfl))

/-! ## The other side: parts -/
def zipB : List C4 → List Int → Bool
  | c :: cs, a :: am => inB a 0 c.2.2.1 && zipB cs am
  | _, _ => true
theorem partB_zip : ∀ (cs : List C4) (am : List Int), partB cs am = (zipB cs am && decide ((am.length : Int) = (cs.length : Int)))
  | [], [] => rfl
  | [], a :: am => by simp [partB, zipB]; omega
  | c :: cs, [] => by simp [partB, zipB]; omega
  | c :: cs, a :: am => by
    simp only [partB, zipB, partB_zip cs am, List.length_cons, Bool.and_assoc]
    congr 2
    by_cases h : (am.length : Int) = (cs.length : Int)
    · rw [decide_eq_true h, decide_eq_true (by omega)]
    · rw [decide_eq_false h, decide_eq_false (by omega)]
theorem zipB_stop {cs : List C4} {am : List Int} (h : cs = [] ∨ am = []) : zipB cs am = true := by
  rcases h with rfl | rfl
  · cases am <;> rfl
  · cases cs <;> rfl
def ILi (_hs : Int) (cs : List C4) (am : List Int) (H : AHeap) (B2 : Nat) (_cv av : Value) (k : Nat) (t : T Value) (h : AHeap) : Prop :=
  k ≤ cs.length ∧ k ≤ am.length ∧ h = H ∧ zipB cs am = zipB (cs.drop k) (am.drop k) ∧ tget t 1 = av ∧ tget t 2 = ptr0 B2 ∧ tget t 5 = iv (k : Int)
set_option maxHeartbeats 8000000 in
theorem listed_y (S : Ev.Steps Try.prog pr R) (hoff : Off pr) (h0 : AHeap) (hs : Int) (cv : Value) (cs : List C4) (hc : CAt h0 cv cs) (hsz : cs.length ≤ 12) (av : Value) (am : List Int) (ha : IAt h0 av am) (_hal : am.length ≤ 1000) :
    Brings Try.prog R 58 [.agg ⟨[iv hs, cv]⟩, av] h0 fun u _ => u = .bool (partB cs am) := by
  refine brings_of (fn := Try.f58) (c := (Try.f58.body).getD .skip) (by kernel_rfl) rfl (by kernel_rfl) rfl (fun K hK => ?_)
  generalize hF : finish Try.prog Try.f58 K = KF
  simp only [Try.f58, Option.getD_some, argsT, setArgs, fV1_eq, T.setK_eq, id]
  have hlc := fun t h1 o => hc.len isA t h1 o
  have hla := fun t h1 o => ha.len isI t h1 o
  repeat refine S.seq ?_
  refine S.region ?_
  simp (disch := first | omega | (simp only [add_nx, upd_nx] <;> omega) | decide) only [rUz, ↓reduceIte, Nat.reduceEqDiff, Nat.reduceAdd]
  have hb1 : (h0.add [iv hs, cv]).bl.get h0.nx = some (.cells [iv hs, cv] h0.nx false) := ag_eq rfl
  have hk1 : Kp h0 (h0.add [iv hs, cv]) := Kp.refl.add
  generalize h0.add [iv hs, cv] = H1 at hb1 hk1 ⊢
  rw [partB_zip] at hK
  repeat refine S.seq ?_
  refine S.region ?_
  simp (disch := first | omega | (simp only [add_nx, upd_nx] <;> omega) | decide) only [rUz, ↓reduceIte, Nat.reduceEqDiff, Nat.reduceAdd]
  repeat refine S.seq ?_
  refine S.block ?_
  refine S.loop (ι := Nat) (ILi hs cs am H1 h0.nx cv av) (fun k => am.length - k) ?_ 0 _ _ ?_
  · intro k t h ⟨hk, hka, hh, hzb, t1, t2, t5⟩ K' hn he
    subst hh
    by_cases h1 : (k : Int) < (am.length : Int)
    · by_cases h2 : (k : Int) < (cs.length : Int)
      · have hkn : k < cs.length := by omega
        have hkn2 : k < am.length := by omega
        have hps : cs[k]? = some cs[k] := List.getElem?_eq_getElem hkn
        rw [List.drop_eq_getElem_cons hkn, List.drop_eq_getElem_cons hkn2] at hzb
        simp only [zipB] at hzb
        obtain ⟨b1, f1, ro1, a1, a2, a3, a4⟩ := (ha.mono hk1).idx slI s3' hkn2
        generalize cs[k] = c at hps hzb
        generalize am[k] = a at hzb a4
        obtain ⟨b, f, ro, cells, q1, q2, q3, q4, q5, q6, q7, q8, q9⟩ := (hc.mono hk1).idx slA sK hps
        repeat refine S.seq ?_
        refine S.region ?_
        simp (disch := first | omega | (simp only [add_nx, upd_nx] <;> omega) | decide) only [rUz, ↓reduceIte, Nat.reduceEqDiff, Nat.reduceAdd, t1, t2, t5, hla, decide_eq_true h1, hb1, fieldAddr_ptr fA1 sAc, pAc, hlc, decide_eq_true h2]
        repeat refine S.seq ?_
        refine S.cond (v := true) (by first | rfl | (simp (disch := first | omega | (simp only [add_nx, upd_nx] <;> omega) | decide) only [rUz, ↓reduceIte, Nat.reduceEqDiff, Nat.reduceAdd] <;> rfl)) (fun _ => ?_) (fun e => by cases e)
        repeat refine S.seq ?_
        refine S.skip ?_
        simp (disch := first | omega | (simp only [add_nx, upd_nx] <;> omega) | decide) only [rUz, ↓reduceIte, Nat.reduceEqDiff, Nat.reduceAdd]
        repeat refine S.seq ?_
        refine S.block ?_
        repeat refine S.seq ?_
        refine S.ordered (by kernel_rfl) (by kernel_rfl) (by kernel_rfl) (by kernel_rfl) ?_
        simp (disch := first | omega | (simp only [add_nx, upd_nx] <;> omega) | decide) only [rUz, ↓reduceIte, Nat.reduceEqDiff, Nat.reduceAdd, t1, t2, t5, hb1, fieldAddr_ptr fA1 sAc, pAc, a1, a3, a4, q1, q3, fieldAddr_ptr fK2 s3, p3, q8]
        refine wr_brings (fid := 19) (first := #[]) (captured := #[]) (Post := fun v g => v = .bool (inB a 0 c.2.2.1) ∧ g = h) (by first | rfl | (simp (disch := first | omega | (simp only [add_nx, upd_nx] <;> omega) | decide) only [rUz, ↓reduceIte, Nat.reduceEqDiff, Nat.reduceAdd] <;> rfl)) (hoff _ _ _ rfl) (by simp (disch := first | omega | (simp only [add_nx, upd_nx] <;> omega) | decide) only [rUz, ↓reduceIte, Nat.reduceEqDiff, Nat.reduceAdd]; exact in_y S _ _ _ _) ?_
        rintro v g - ⟨rfl, rfl⟩
        simp (disch := first | omega | (simp only [add_nx, upd_nx] <;> omega) | decide) only [rUz, ↓reduceIte, Nat.reduceEqDiff, Nat.reduceAdd, un_not]
        cases hi : inB a 0 c.2.2.1 with
        | true =>
          rw [hi, Bool.true_and] at hzb
          repeat refine S.seq ?_
          refine S.cond (v := false) (by first | rfl | (simp (disch := first | omega | (simp only [add_nx, upd_nx] <;> omega) | decide) only [rUz, ↓reduceIte, Nat.reduceEqDiff, Nat.reduceAdd, hi, Bool.not_true] <;> rfl)) (fun e => by cases e) (fun _ => ?_)
          repeat refine S.seq ?_
          refine S.skip ?_
          simp (disch := first | omega | (simp only [add_nx, upd_nx] <;> omega) | decide) only [rUz, ↓reduceIte, Nat.reduceEqDiff, Nat.reduceAdd]
          repeat refine S.seq ?_
          refine S.region ?_
          simp (disch := first | omega | (simp only [add_nx, upd_nx] <;> omega) | decide) only [rUz, ↓reduceIte, Nat.reduceEqDiff, Nat.reduceAdd, t5]
          refine hn (k + 1) _ _ (by omega) ⟨by omega, by omega, rfl, hzb, ?_, ?_, ?_⟩
          all_goals (first | rfl | (simp (disch := first | omega | (simp only [add_nx, upd_nx] <;> omega) | decide) only [rUz, ↓reduceIte, Nat.reduceEqDiff, Nat.reduceAdd, t1, t2, t5]; done) | (simp (disch := first | omega | (simp only [add_nx, upd_nx] <;> omega) | decide) only [rUz, ↓reduceIte, Nat.reduceEqDiff, Nat.reduceAdd, t1, t2, t5]; rfl))
        | false =>
          rw [hi, Bool.false_and] at hzb
          rw [hzb, Bool.false_and] at hK
          repeat refine S.seq ?_
          refine S.cond (v := true) (by first | rfl | (simp (disch := first | omega | (simp only [add_nx, upd_nx] <;> omega) | decide) only [rUz, ↓reduceIte, Nat.reduceEqDiff, Nat.reduceAdd, hi, Bool.not_false] <;> rfl)) (fun _ => ?_) (fun e => by cases e)
          repeat refine S.seq ?_
          refine S.region ?_
          simp (disch := first | omega | (simp only [add_nx, upd_nx] <;> omega) | decide) only [rUz, ↓reduceIte, Nat.reduceEqDiff, Nat.reduceAdd]
          refine S.ret ?_
          simp only [seqK_ret, blockK_ret]
          refine he _ _ _ _ (fun e => by cases e) ?_
          simp only [seqK_ret, blockK_ret]
          subst hF
          simp only [finish, endMarks]
          rw [show Try.f58.results.toList = [.tmp 4] from rfl]
          simp (disch := omega) only [resA, ev_tmp, tget_ne, tget_eq, result1]
          exact hK _ _ hk1 rfl
      · have hkc : k = cs.length := by omega
        rw [hkc, List.drop_of_length_le (Nat.le_refl cs.length), zipB_stop (.inl rfl)] at hzb
        rw [hzb, Bool.true_and] at hK
        repeat refine S.seq ?_
        refine S.region ?_
        simp (disch := first | omega | (simp only [add_nx, upd_nx] <;> omega) | decide) only [rUz, ↓reduceIte, Nat.reduceEqDiff, Nat.reduceAdd, t1, t2, t5, hla, decide_eq_true h1, hb1, fieldAddr_ptr fA1 sAc, pAc, hlc, decide_eq_false h2]
        repeat refine S.seq ?_
        refine S.cond (v := false) (by first | rfl | (simp (disch := first | omega | (simp only [add_nx, upd_nx] <;> omega) | decide) only [rUz, ↓reduceIte, Nat.reduceEqDiff, Nat.reduceAdd] <;> rfl)) (fun e => by cases e) (fun _ => ?_)
        refine S.exit (he _ _ _ _ (fun e => by cases e) ?_)
        simp (disch := first | omega | (simp only [add_nx, upd_nx] <;> omega) | decide) only [rUz, ↓reduceIte, Nat.reduceEqDiff, Nat.reduceAdd]
        repeat refine S.seq ?_
        refine S.region ?_
        simp (disch := first | omega | (simp only [add_nx, upd_nx] <;> omega) | decide) only [rUz, ↓reduceIte, Nat.reduceEqDiff, Nat.reduceAdd, t1, t2, hla, hlc, hb1, fieldAddr_ptr fA1 sAc, pAc]
        refine S.ret ?_
        try simp only [seqK_ret, blockK_ret]
        subst hF
        simp only [finish, endMarks]
        rw [show Try.f58.results.toList = [.tmp 4] from rfl]
        simp (disch := first | omega | (simp only [add_nx, upd_nx] <;> omega) | decide) only [resA, ev_tmp, tget_ne, tget_eq, get_ne, get_eq, upd_eq, upd_ne, ag_eq, ag_ne, result1]
        exact hK _ _ hk1 rfl
    · have hkc : k = am.length := by omega
      rw [hkc, List.drop_of_length_le (Nat.le_refl am.length), zipB_stop (.inr rfl)] at hzb
      rw [hzb, Bool.true_and] at hK
      repeat refine S.seq ?_
      refine S.region ?_
      simp (disch := first | omega | (simp only [add_nx, upd_nx] <;> omega) | decide) only [rUz, ↓reduceIte, Nat.reduceEqDiff, Nat.reduceAdd, t1, t5, hla, decide_eq_false h1]
      repeat refine S.seq ?_
      refine S.cond (v := false) (by first | rfl | (simp (disch := first | omega | (simp only [add_nx, upd_nx] <;> omega) | decide) only [rUz, ↓reduceIte, Nat.reduceEqDiff, Nat.reduceAdd] <;> rfl)) (fun e => by cases e) (fun _ => ?_)
      refine S.exit (he _ _ _ _ (fun e => by cases e) ?_)
      simp (disch := first | omega | (simp only [add_nx, upd_nx] <;> omega) | decide) only [rUz, ↓reduceIte, Nat.reduceEqDiff, Nat.reduceAdd]
      repeat refine S.seq ?_
      refine S.region ?_
      simp (disch := first | omega | (simp only [add_nx, upd_nx] <;> omega) | decide) only [rUz, ↓reduceIte, Nat.reduceEqDiff, Nat.reduceAdd, t1, t2, hla, hlc, hb1, fieldAddr_ptr fA1 sAc, pAc]
      refine S.ret ?_
      try simp only [seqK_ret, blockK_ret]
      subst hF
      simp only [finish, endMarks]
      rw [show Try.f58.results.toList = [.tmp 4] from rfl]
      simp (disch := first | omega | (simp only [add_nx, upd_nx] <;> omega) | decide) only [resA, ev_tmp, tget_ne, tget_eq, get_ne, get_eq, upd_eq, upd_ne, ag_eq, ag_ne, result1]
      exact hK _ _ hk1 rfl
  · refine ⟨Nat.zero_le _, Nat.zero_le _, rfl, rfl, ?_, ?_, ?_⟩
    all_goals (first | rfl | (simp (disch := first | omega | (simp only [add_nx, upd_nx] <;> omega) | decide) only [rUz, ↓reduceIte, Nat.reduceEqDiff, Nat.reduceAdd]; done) | (simp (disch := first | omega | (simp only [add_nx, upd_nx] <;> omega) | decide) only [rUz, ↓reduceIte, Nat.reduceEqDiff, Nat.reduceAdd]; rfl))
end Go.Proofs.Rg
