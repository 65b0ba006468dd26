import Derived.Test.YtnlmonmeapbblaaGreatCn8
import Derived.Test.YtnlmonmeapbblaaGreatEv45
/- CouponLater: a trade that is delivered later is registered no earlier; with one more range of closed books neither. -/
namespace Go.Proofs.Cp
open Go Go.Ev Go.RowKit
set_option linter.unusedSimpArgs false

theorem regG_rng (cl : List R2) (d : Int) : ∀ (n : Nat) (k : Int), regG cl d n k = -1 ∨ (k ≤ regG cl d n k ∧ regG cl d n k < k + n ∧ d ≤ regG cl d n k)
  | 0, k => .inl rfl
  | n + 1, k => by
    unfold regG
    cases h : (decide (d ≤ k) && openB cl k) with
    | true =>
      rw [Bool.and_eq_true, decide_eq_true_eq] at h
      simp only [cond_true]
      exact .inr ⟨Int.le_refl _, by omega, h.1⟩
    | false =>
      simp only [cond_false]
      rcases regG_rng cl d n (k + 1) with h1 | ⟨h1, h2, h3⟩
      · exact .inl h1
      · exact .inr ⟨by omega, by omega, h3⟩
theorem regG_mono {cl cl' : List R2} {d d' : Int} (h : ∀ x, (decide (d' ≤ x) && openB cl' x) = true → (decide (d ≤ x) && openB cl x) = true) : ∀ (n : Nat) (k : Int), 0 ≤ k → regG cl' d' n k = -1 ∨ (0 ≤ regG cl d n k ∧ regG cl d n k ≤ regG cl' d' n k)
  | 0, k, _ => .inl rfl
  | n + 1, k, hk => by
    unfold regG
    cases h1 : (decide (d' ≤ k) && openB cl' k) with
    | true =>
      rw [h k h1]
      simp only [cond_true]
      exact .inr ⟨hk, Int.le_refl _⟩
    | false =>
      simp only [cond_false]
      cases h2 : (decide (d ≤ k) && openB cl k) with
      | true =>
        simp only [cond_true]
        rcases regG_rng cl' d' n (k + 1) with h3 | ⟨h3, _⟩
        · exact .inl h3
        · exact .inr ⟨hk, by omega⟩
      | false =>
        simp only [cond_false]
        exact regG_mono h n (k + 1) (by omega)
theorem regP_rng (cl : List R2) (d : Int) : regP cl d = -1 ∨ (0 ≤ regP cl d ∧ d ≤ regP cl d ∧ regP cl d ≤ 11) := by
  rcases regG_rng cl d 12 0 with h | ⟨h1, h2, h3⟩
  · exact .inl h
  · exact .inr ⟨h1, h3, by unfold regP; omega⟩
theorem regP_later (cl : List R2) {d d' : Int} (h : d ≤ d') : regP cl d' = -1 ∨ (0 ≤ regP cl d ∧ regP cl d ≤ regP cl d') :=
  regG_mono (fun x hx => by
    simp only [Bool.and_eq_true, decide_eq_true_eq] at hx ⊢
    exact ⟨by omega, hx.2⟩) 12 0 (Int.le_refl _)
theorem regP_more (cl : List R2) (r : R2) (d : Int) : regP (cl ++ [r]) d = -1 ∨ (0 ≤ regP cl d ∧ regP cl d ≤ regP (cl ++ [r]) d) :=
  regG_mono (fun x hx => by
    simp only [openB, List.all_append, Bool.and_eq_true] at hx ⊢
    exact ⟨hx.1, hx.2.1⟩) 12 0 (Int.le_refl _)
theorem bU0 : rBuild Tryz.prog 30 [] = some (.agg ⟨[nl, nl]⟩) := by kernel_rfl
theorem w_cv8 {x : Operand} : isW Tryz.prog (.convert 5 3 x) = false := by
  show isDig Tryz.prog 5 3 = false
  kernel_rfl
theorem wf_u8 {n : Int} (h : (Lit.int .u8 n).wf = true) : 0 ≤ n ∧ n ≤ 255 := by
  simp only [Lit.wf, Bool.and_eq_true, decide_eq_true_eq] at h; exact h
theorem fault0 {c : Co} (h : faultZ c = 0) : c.cl.length ≤ 2 := by
  unfold faultZ at h
  cases h1 : manyZ c with
  | true => rw [h1, cond_true] at h; omega
  | false =>
    simp only [manyZ, Bool.or_eq_false_iff, decide_eq_false_iff_not] at h1
    omega
def more (c : Co) (r : R2) : Co := ⟨c.hs, c.held, c.tr, c.dv, c.sp, c.cl ++ [r]⟩
theorem thin_more {c : Co} {r : R2} (h : thinB c [] [] = true) (h2 : c.cl.length ≤ 2) : thinB (more c r) [] [] = true := by
  unfold thinB at h ⊢
  simp only [Bool.and_eq_true, decide_eq_true_eq] at h
  have h3 : ((more c r).cl.length : Int) ≤ 7 := by
    show ((c.cl ++ [r]).length : Int) ≤ 7
    rw [List.length_append, List.length_singleton]; omega
  simp only [Bool.and_eq_true, decide_eq_true_eq]
  exact ⟨h.1, h.2.1, h.2.2.1, h.2.2.2.1, h3, h.2.2.2.2.2⟩
def wth (v : Vs) (e : Value) : Vs := ⟨v.a, v.b, v.c, v.d, e⟩

variable {pr : Prim} {R : ExT}
set_option maxHeartbeats 64000000 in
theorem later_law (S : Ev.Steps Tryz.prog pr R) (hT : Tab pr) (h0 : AHeap) (v : Vs) (c : Co) (hc : CoAt h0 v c) (hh : SlAt h0 1 v.a (c.held.map fun n => [iv n])) (wa : Int) (hwa : (Lit.int .u8 wa).wf = true) (wb : Int) (hwb : (Lit.int .u8 wb).wf = true) (r : R2) :
    Brings Tryz.prog R 6 [.agg ⟨coV c.hs v⟩, .int .u8 wa, .int .u8 wb, .agg ⟨c2 r⟩] h0 fun u _ => u = .bool true := by
  have hoff := hT.off
  refine brings_of (fn := Tryz.f6) (c := (Tryz.f6.body).getD .skip) (by kernel_rfl) rfl (by kernel_rfl) rfl (fun K hK => ?_)
  generalize hF : finish Tryz.prog Tryz.f6 K = KF
  simp only [Tryz.f6, Option.getD_some, argsT, setArgs, fV1_eq, T.setK_eq, id]
  have hKr : ∀ g, Kp h0 g → K (.bool true) g = true := fun g hk => hK _ _ hk rfl
  clear hK
  have awake : ∀ {ops : Array Oper} {n : Nat} {rest : List Oper} {t : T Value} {h : AHeap} {KR : T Value → AHeap → Bool} {dst : Option Tmp}, putR Tryz.prog (withPrim pr (callVal Tryz.prog R)) ops n rest dst t (.bool true) h KR = true →
      wrR Tryz.prog (withPrim pr (callVal Tryz.prog R)) ops n rest (.call ⟨.value (.func 9), #[], #[]⟩) dst t h KR = true := fun k => wr_prim (fid := 9) (first := #[]) (captured := #[]) (v := .bool true) rfl (hT.awake _) k
  have ha' := wf_u8 hwa
  have hb' := wf_u8 hwb
  repeat refine S.seq ?_
  refine S.region ?_
  simp (disch := first | omega | (simp only [add_nx, upd_nx, res_nx, putAt_nx] <;> omega) | decide) only [rUz, ↓reduceIte, Nat.reduceEqDiff, Nat.reduceAdd]
  obtain ⟨B4, hB4⟩ : ∃ x, x = h0.nx := ⟨_, rfl⟩
  obtain ⟨B7, hB7⟩ : ∃ x, x = h0.nx + 1 := ⟨_, rfl⟩
  have hb4 : ((h0.add (coV c.hs v)).add (c2 r)).bl.get B4 = some (.cells (coV c.hs v) B4 false) := by rw [ag_ne (by show B4 ≠ h0.nx + 1; omega)]; subst hB4; exact ag_eq rfl
  have hb7 : ((h0.add (coV c.hs v)).add (c2 r)).bl.get B7 = some (.cells (c2 r) B7 false) := by subst hB7; exact ag_eq rfl
  have hn7 : B7 < ((h0.add (coV c.hs v)).add (c2 r)).nx := by show B7 < h0.nx + 2; omega
  have hk1 : Kp h0 ((h0.add (coV c.hs v)).add (c2 r)) := Kp.refl.add.add
  have hve := veq_co hc c.hs
  have hB47 : B4 < B7 := by omega
  rw [← hB7, ← hB4]
  clear hB4 hB7
  generalize (h0.add (coV c.hs v)).add (c2 r) = H at hb4 hb7 hn7 hk1 ⊢
  repeat refine S.seq ?_
  refine S.region ?_
  simp (disch := first | omega | (simp only [add_nx, upd_nx, res_nx, putAt_nx] <;> omega) | decide) only [rUz, ↓reduceIte, Nat.reduceEqDiff, Nat.reduceAdd, hb4, part_0 pA (coV_len c.hs v), rd_build, List.map_nil, bU0]
  refine wr_brings (fid := 8) (first := #[]) (captured := #[]) (Post := fun u _ => u = .bool (thinB c [] [])) (by first | rfl | (simp (disch := first | omega | (simp only [add_nx, upd_nx, res_nx, putAt_nx] <;> omega) | decide) only [rUz, ↓reduceIte, Nat.reduceEqDiff, Nat.reduceAdd] <;> rfl)) (hoff _ _ _ rfl) (by simp (disch := first | omega | (simp only [add_nx, upd_nx, res_nx, putAt_nx] <;> omega) | decide) only [rUz, ↓reduceIte, Nat.reduceEqDiff, Nat.reduceAdd]; exact thin_y S _ v c (hc.mono hk1) nl nl [] [] (.inl ⟨rfl, .inl rfl⟩) (.inl ⟨rfl, .inl rfl⟩)) ?_
  rintro u g hk rfl
  simp (disch := first | omega | (simp only [add_nx, upd_nx, res_nx, putAt_nx] <;> omega) | decide) only [rUz, ↓reduceIte, Nat.reduceEqDiff, Nat.reduceAdd, un_not]
  cases hth : thinB c [] [] with
  | false =>
    simp (disch := first | omega | (simp only [add_nx, upd_nx, res_nx, putAt_nx] <;> omega) | decide) only [rUz, ↓reduceIte, Nat.reduceEqDiff, Nat.reduceAdd, hth, Bool.not_false]
    repeat refine S.seq ?_
    refine S.cond (v := true) (by first | rfl | (simp (disch := first | omega | (simp only [add_nx, upd_nx, res_nx, putAt_nx] <;> omega) | decide) only [rUz, ↓reduceIte, Nat.reduceEqDiff, Nat.reduceAdd] <;> rfl)) (fun _ => ?_) (fun e => by cases e)
    repeat refine S.seq ?_
    refine S.region ?_
    simp (disch := first | omega | (simp only [add_nx, upd_nx, res_nx, putAt_nx] <;> omega) | decide) only [rUz, ↓reduceIte, Nat.reduceEqDiff, Nat.reduceAdd]
    refine awake ?_
    simp (disch := first | omega | (simp only [add_nx, upd_nx, res_nx, putAt_nx] <;> omega) | decide) only [rUz, ↓reduceIte, Nat.reduceEqDiff, Nat.reduceAdd]
    refine S.ret ?_
    try simp only [seqK_ret, blockK_ret]
    subst hF
    simp only [finish, endMarks]
    rw [show Tryz.f6.results.toList = [.tmp 8] from rfl]
    simp (disch := first | omega | (simp only [add_nx, upd_nx, res_nx, putAt_nx] <;> omega) | decide) only [resA, ev_tmp, tget_ne, tget_eq, get_ne, get_eq, upd_eq, upd_ne, ag_eq, ag_ne, result1]
    exact hKr _ (hk1.trans hk)
  | true =>
  have hb := (hk.get (by omega : B4 < H.nx)).trans hb4
  simp (disch := first | omega | (simp only [add_nx, upd_nx, res_nx, putAt_nx] <;> omega) | decide) only [rUz, ↓reduceIte, Nat.reduceEqDiff, Nat.reduceAdd, hth, Bool.not_true, hb, part_0 pA (coV_len c.hs v)]
  refine wr_brings (fid := 14) (first := #[]) (captured := #[]) (Post := fun u _ => u = iv (faultZ c)) (by first | rfl | (simp (disch := first | omega | (simp only [add_nx, upd_nx, res_nx, putAt_nx] <;> omega) | decide) only [rUz, ↓reduceIte, Nat.reduceEqDiff, Nat.reduceAdd] <;> rfl)) (hoff _ _ _ rfl) (by simp (disch := first | omega | (simp only [add_nx, upd_nx, res_nx, putAt_nx] <;> omega) | decide) only [rUz, ↓reduceIte, Nat.reduceEqDiff, Nat.reduceAdd]; exact faultw_y S hoff _ v c (hc.mono (hk1.trans hk)) hth) ?_
  rintro u g1 hk2 rfl
  simp (disch := first | omega | (simp only [add_nx, upd_nx, res_nx, putAt_nx] <;> omega) | decide) only [rUz, ↓reduceIte, Nat.reduceEqDiff, Nat.reduceAdd]
  by_cases hz : faultZ c = 0
  rotate_left
  · repeat refine S.seq ?_
    refine S.cond (v := true) (by first | rfl | (simp (disch := first | omega | (simp only [add_nx, upd_nx, res_nx, putAt_nx] <;> omega) | decide) only [rUz, ↓reduceIte, Nat.reduceEqDiff, Nat.reduceAdd, decide_eq_false hz, Bool.not_false] <;> rfl)) (fun _ => ?_) (fun e => by cases e)
    repeat refine S.seq ?_
    refine S.region ?_
    simp (disch := first | omega | (simp only [add_nx, upd_nx, res_nx, putAt_nx] <;> omega) | decide) only [rUz, ↓reduceIte, Nat.reduceEqDiff, Nat.reduceAdd]
    refine awake ?_
    simp (disch := first | omega | (simp only [add_nx, upd_nx, res_nx, putAt_nx] <;> omega) | decide) only [rUz, ↓reduceIte, Nat.reduceEqDiff, Nat.reduceAdd]
    refine S.ret ?_
    try simp only [seqK_ret, blockK_ret]
    subst hF
    simp only [finish, endMarks]
    rw [show Tryz.f6.results.toList = [.tmp 8] from rfl]
    simp (disch := first | omega | (simp only [add_nx, upd_nx, res_nx, putAt_nx] <;> omega) | decide) only [resA, ev_tmp, tget_ne, tget_eq, get_ne, get_eq, upd_eq, upd_ne, ag_eq, ag_ne, result1]
    exact hKr _ (hk1.trans (hk.trans hk2))
  repeat refine S.seq ?_
  refine S.cond (v := false) (by first | rfl | (simp (disch := first | omega | (simp only [add_nx, upd_nx, res_nx, putAt_nx] <;> omega) | decide) only [rUz, ↓reduceIte, Nat.reduceEqDiff, Nat.reduceAdd, decide_eq_true hz, Bool.not_true] <;> rfl)) (fun e => by cases e) (fun _ => ?_)
  repeat refine S.seq ?_
  refine S.skip ?_
  simp (disch := first | omega | (simp only [add_nx, upd_nx, res_nx, putAt_nx] <;> omega) | decide) only [rUz, ↓reduceIte, Nat.reduceEqDiff, Nat.reduceAdd]
  have hkA := hk1.trans (hk.trans hk2)
  have hbA := ((hk.trans hk2).get (by omega : B4 < H.nx)).trans hb4
  have h7A := ((hk.trans hk2).get (by omega : B7 < H.nx)).trans hb7
  have hnA : B7 < g1.nx := Nat.lt_of_lt_of_le hn7 (hk.trans hk2).1
  have hkA1 := hkA.1
  clear hb hk hk2 hk1 hb4 hb7 hn7
  clear g H
  -- both days
  repeat refine S.seq ?_
  refine S.region ?_
  simp (disch := first | omega | (simp only [add_nx, upd_nx, res_nx, putAt_nx] <;> omega) | decide) only [rUz, ↓reduceIte, Nat.reduceEqDiff, Nat.reduceAdd, w_cv8, rd_conv]
  refine optR_of' (v := iv wa) (conv_int Tryz.underlying5 Tryz.underlying3 (by omega) (by omega)) ?_
  simp (disch := first | omega | (simp only [add_nx, upd_nx, res_nx, putAt_nx] <;> omega) | decide) only [rUz, ↓reduceIte, Nat.reduceEqDiff, Nat.reduceAdd]
  refine optR_of' (bin_rem (i := wa) (j := 12) (by simp (disch := first | omega | (simp only [add_nx, upd_nx, res_nx, putAt_nx] <;> omega) | decide) only [rUz, ↓reduceIte, Nat.reduceEqDiff, Nat.reduceAdd]) (by simp (disch := first | omega | (simp only [add_nx, upd_nx, res_nx, putAt_nx] <;> omega) | decide) only [rUz, ↓reduceIte, Nat.reduceEqDiff, Nat.reduceAdd]) (by omega)) ?_
  obtain ⟨i, hi⟩ : ∃ i, i = wa.tmod 12 := ⟨_, rfl⟩
  have hi0 : 0 ≤ i ∧ i < 12 := by rw [hi]; exact ⟨Int.tmod_nonneg _ ha'.1, Int.tmod_lt_of_pos _ (by omega)⟩
  rw [← hi]
  simp (disch := first | omega | (simp only [add_nx, upd_nx, res_nx, putAt_nx] <;> omega) | decide) only [rUz, ↓reduceIte, Nat.reduceEqDiff, Nat.reduceAdd]
  repeat refine S.seq ?_
  refine S.region ?_
  simp (disch := first | omega | (simp only [add_nx, upd_nx, res_nx, putAt_nx] <;> omega) | decide) only [rUz, ↓reduceIte, Nat.reduceEqDiff, Nat.reduceAdd, w_cv8, rd_conv]
  refine optR_of' (v := iv wb) (conv_int Tryz.underlying5 Tryz.underlying3 (by omega) (by omega)) ?_
  simp (disch := first | omega | (simp only [add_nx, upd_nx, res_nx, putAt_nx] <;> omega) | decide) only [rUz, ↓reduceIte, Nat.reduceEqDiff, Nat.reduceAdd]
  refine optR_of' (bin_rem (i := wb) (j := 12 - i) (by simp (disch := first | omega | (simp only [add_nx, upd_nx, res_nx, putAt_nx] <;> omega) | decide) only [rUz, ↓reduceIte, Nat.reduceEqDiff, Nat.reduceAdd]) (by simp (disch := first | omega | (simp only [add_nx, upd_nx, res_nx, putAt_nx] <;> omega) | decide) only [rUz, ↓reduceIte, Nat.reduceEqDiff, Nat.reduceAdd]) (by omega)) ?_
  obtain ⟨k, hk⟩ : ∃ k, k = i + wb.tmod (12 - i) := ⟨_, rfl⟩
  have hk0 : i ≤ k ∧ k < 12 := by
    have h1 := Int.tmod_nonneg (12 - i) hb'.1
    have h2 := Int.tmod_lt_of_pos wb (by omega : 0 < 12 - i)
    omega
  have hr1 : -9223372036854775808 ≤ i + wb.tmod (12 - i) := by omega
  have hr2 : i + wb.tmod (12 - i) < 9223372036854775808 := by omega
  simp (disch := first | omega | (simp only [add_nx, upd_nx, res_nx, putAt_nx] <;> omega) | decide) only [rUz, ↓reduceIte, Nat.reduceEqDiff, Nat.reduceAdd]
  rw [← hk]
  clear hr1 hr2 hk hi ha' hb'
  -- the copy
  obtain ⟨B11, hB11⟩ : ∃ x, x = g1.nx := ⟨_, rfl⟩
  repeat refine S.seq ?_
  refine S.region ?_
  generalize hJJ : (fun (t : T Value) (h : AHeap) => _) = KJ
  suffices hJ : ∀ t h, Kp h0 h → Kp g1 h → h.bl.get B11 = some (.cells (coV c.hs v) B11 false) → h.fams.get B11 = some [B11] → B11 < h.nx → tget t 4 = ptr0 B4 → tget t 7 = ptr0 B7 → tget t 9 = iv i → tget t 10 = iv k → tget t 11 = ptr0 B11 → KJ t h = true by
    clear hJJ hKr
    simp (disch := first | omega | (simp only [add_nx, upd_nx, res_nx, putAt_nx] <;> omega) | decide) only [rUz, ↓reduceIte, Nat.reduceEqDiff, Nat.reduceAdd, hbA, part_0 pA (coV_len c.hs v), wr_alloc zA]
    refine wr_storeN (B := g1.nx) (c := [iv 0, nl, nl, nl, nl, nl]) (fam := g1.nx) (k := g1.nx) (l := coV c.hs v) (by simp (disch := first | omega | (simp only [add_nx, upd_nx, res_nx, putAt_nx] <;> omega) | decide) only [rUz, ↓reduceIte, Nat.reduceEqDiff, Nat.reduceAdd]) (by simp (disch := first | omega | (simp only [add_nx, upd_nx, res_nx, putAt_nx] <;> omega) | decide) only [rUz, ↓reduceIte, Nat.reduceEqDiff, Nat.reduceAdd]) sA (by omega) rfl (ag_eq rfl) (af_eq rfl) rfl ?_
    simp (disch := first | omega | (simp only [add_nx, upd_nx, res_nx, putAt_nx] <;> omega) | decide) only [rUz, ↓reduceIte, Nat.reduceEqDiff, Nat.reduceAdd]
    subst hB11
    refine hJ _ _ (hkA.add.upd (by omega)) (Kp.refl.add.upd (Nat.le_refl _)) (upd_eq _ _ _) ?_ (Nat.lt_succ_self _) ?_ ?_ ?_ ?_ ?_
    · rw [upd_fams]; exact af_eq rfl
    all_goals (first | rfl | (simp (disch := first | omega | (simp only [add_nx, upd_nx, res_nx, putAt_nx] <;> omega) | decide) only [rUz, ↓reduceIte, Nat.reduceEqDiff, Nat.reduceAdd]; done) | (simp (disch := first | omega | (simp only [add_nx, upd_nx, res_nx, putAt_nx] <;> omega) | decide) only [rUz, ↓reduceIte, Nat.reduceEqDiff, Nat.reduceAdd]; rfl))
  clear hkA
  intro t h hkA hgh hb11 hf11 hn11 t4 t7 t9 t10 t11
  subst hJJ
  simp only [seqK_normal]
  have hb4 := (hgh.get (by omega : B4 < g1.nx)).trans hbA
  have hb7 := (hgh.get hnA).trans h7A
  have h0g : h0.nx ≤ B11 := by omega
  have hgn := hgh.1
  repeat refine S.seq ?_
  refine S.drawnM [(true, 0), (false, 0), (false, 2), (true, 7), (false, 0), (true, 16), (true, 63), (false, 127), (true, 255)] 0 [] (by kernel_rfl) (by kernel_rfl) (by kernel_rfl) (by kernel_rfl) (by kernel_rfl) ?_
  generalize hJJ : (fun (t : T Value) (h : AHeap) => _) = KJ
  suffices hJ : ∀ t h w, Kp h0 h → h.bl.get B4 = some (.cells (coV c.hs v) B4 false) → B11 < h.nx → h.bl.get B11 = some (.cells (coV c.hs (wth v w)) B11 false) → SlAt h 2 w ((c.cl ++ [r]).map c2) → tget t 4 = ptr0 B4 → tget t 9 = iv i → tget t 10 = iv k → tget t 11 = ptr0 B11 → KJ t h = true by
    clear hJJ hKr
    have hv5 := (hc.mono hkA).cl
    have hvE : veq v.e v.e = true := veq_row hv5
    have hlen5 : (c.cl.map c2).length + 1 < bigNat := by rw [List.length_map]; have := fault0 hz; show _ < 1000000; omega
    have hsz5 : ∀ d, d ∈ c.cl.map c2 → d.length = 2 := fun d hd => by
      obtain ⟨y, _, rfl⟩ := List.mem_map.1 hd
      rfl
    have h7n : B7 < h.nx := by omega
    have h4n : B4 < h.nx := by omega
    have hend : ∀ (X X' : AHeap) (w' : Value), Kp h X → RNew h.nx X' 2 w' (c.cl.map c2 ++ [c2 r]) → Sm h.nx X X' → ∃ q m z, w' = .slice q m z ∧ X'.bl.get B11 = some (.cells (coV c.hs v) B11 false) ∧ X'.fams.get B11 = some [B11] ∧
        (∀ w'', w'' = w' → Kp h0 (X'.upd B11 ((coV c.hs v).set 5 w'') B11) ∧ (X'.upd B11 ((coV c.hs v).set 5 w'') B11).bl.get B4 = some (.cells (coV c.hs v) B4 false) ∧ B11 < (X'.upd B11 ((coV c.hs v).set 5 w'') B11).nx ∧ (X'.upd B11 ((coV c.hs v).set 5 w'') B11).bl.get B11 = some (.cells (coV c.hs (wth v w'')) B11 false) ∧ SlAt (X'.upd B11 ((coV c.hs v).set 5 w'') B11) 2 w'' ((c.cl ++ [r]).map c2)) := by
      intro X X' w' kX hR hS
      have kX' : Kp h X' := hS.kp (Nat.le_refl _) kX
      obtain ⟨b, z, f, hw', _⟩ := hR.2.2
      refine ⟨_, _, _, hw', (kX'.get hn11).trans hb11, (kX'.fget hn11).trans hf11, ?_⟩
      rintro w'' rfl
      refine ⟨(hkA.trans kX').upd (by omega), ?_, Nat.lt_of_lt_of_le hn11 kX'.1, upd_eq _ _ _, ?_⟩
      · rw [upd_ne _ _ _ (by omega)]; exact (kX'.get h4n).trans hb4
      · rw [List.map_append]; exact (hR.upd hn11).at
    simp (disch := first | omega | (simp only [add_nx, upd_nx, res_nx, putAt_nx] <;> omega) | decide) only [rUz, ↓reduceIte, Nat.reduceEqDiff, Nat.reduceAdd, rMz, infoL, Nat.reduceSub]
    refine dm_pick rfl ?_
    simp (disch := first | omega | (simp only [add_nx, upd_nx, res_nx, putAt_nx] <;> omega) | decide) only [rUz, ↓reduceIte, Nat.reduceEqDiff, Nat.reduceAdd, rMz, infoL, Nat.reduceSub, t4, t7, hb4, hb7, fieldAddr_ptr fA5 lrR, qrR, co5, part_0 prR (c2_len r)]
    refine dm_pick rfl ?_
    simp (disch := first | omega | (simp only [add_nx, upd_nx, res_nx, putAt_nx] <;> omega) | decide) only [rUz, ↓reduceIte, Nat.reduceEqDiff, Nat.reduceAdd, rMz, infoL, Nat.reduceSub, t4, t7, hb4, hb7, fieldAddr_ptr fA5 lrR, qrR, co5, part_0 prR (c2_len r)]
    refine dm_pick rfl ?_
    simp (disch := first | omega | (simp only [add_nx, upd_nx, res_nx, putAt_nx] <;> omega) | decide) only [rUz, ↓reduceIte, Nat.reduceEqDiff, Nat.reduceAdd, rMz, infoL, Nat.reduceSub, t4, t7, hb4, hb7, fieldAddr_ptr fA5 lrR, qrR, co5, part_0 prR (c2_len r)]
    refine dm_two rfl rfl ?_ ?_
    · skip
      have k0 : Kp h (h.add []) := Kp.refl.add
      refine dmW_some (v := .slice (some ⟨h.nx, 0, none⟩) 0 0) (h' := h.add []) rfl rfl (aw_lit0 slrR srR zrR rfl) (Nat.le_of_ble_eq_true rfl) ?_ ?_
      · try simp (disch := first | decide | rfl) only [again_nil, again_skip, again_free]
        rw [again_same (v := .agg ⟨c2 r⟩) (by simp (disch := first | omega | (simp only [add_nx, upd_nx, res_nx, putAt_nx] <;> omega) | decide) only [rUz, ↓reduceIte, Nat.reduceEqDiff, Nat.reduceAdd, rDz, infoL, Nat.reduceSub, t7, (k0.get h7n).trans hb7, part_0 prR (c2_len r)]) (veq_rg r)]
        try simp (disch := first | decide | rfl) only [again_nil, again_skip, again_free]
        rw [again_same (v := v.e) (by simp (disch := first | omega | (simp only [add_nx, upd_nx, res_nx, putAt_nx] <;> omega) | decide) only [rUz, ↓reduceIte, Nat.reduceEqDiff, Nat.reduceAdd, rDz, infoL, Nat.reduceSub, t4, (k0.get h4n).trans hb4, fieldAddr_ptr fA5 lrR, qrR, co5]) (by first | assumption | exact veq_int | rfl)]
        try simp (disch := first | decide | rfl) only [again_nil, again_skip, again_free]
      simp (disch := first | omega | (simp only [add_nx, upd_nx, res_nx, putAt_nx] <;> omega) | decide) only [rUz, ↓reduceIte, Nat.reduceEqDiff, Nat.reduceAdd, rMz, infoL, Nat.reduceSub]
      refine dm_two rfl rfl ?_ ?_
      · skip
        refine dmW_copyE (b := h.nx) (v := v.e) (cs := c.cl.map c2) rfl rfl slrR urR (by simp (disch := first | omega | (simp only [add_nx, upd_nx, res_nx, putAt_nx] <;> omega) | decide) only [rUz, ↓reduceIte, Nat.reduceEqDiff, Nat.reduceAdd, rMz, infoL, Nat.reduceSub]) (by simp (disch := first | omega | (simp only [add_nx, upd_nx, res_nx, putAt_nx] <;> omega) | decide) only [rUz, ↓reduceIte, Nat.reduceEqDiff, Nat.reduceAdd, rMz, infoL, Nat.reduceSub]) srR (by exact ag_eq rfl) (by exact af_eq rfl) (by show h.nx < _; have := k0.1; simp only [add_nx] at this ⊢; omega) (SlAt.mono hv5 k0) nrR (by omega) (Nat.le_of_ble_eq_true rfl) ?_
        intro v1 X1 hcp
        have hbn : h.nx ≤ h.nx := by have := (Kp.refl : Kp h h).1; simp only [add_nx] at *; omega
        have k1 : Kp h X1 := hcp.kp k0 hbn
        refine ⟨?_, ?_⟩
        · try simp (disch := first | decide | rfl) only [again_nil, again_skip, again_free]
          rw [again_same (v := .agg ⟨c2 r⟩) (by simp (disch := first | omega | (simp only [add_nx, upd_nx, res_nx, putAt_nx] <;> omega) | decide) only [rUz, ↓reduceIte, Nat.reduceEqDiff, Nat.reduceAdd, rDz, infoL, Nat.reduceSub, t7, (k1.get h7n).trans hb7, part_0 prR (c2_len r)]) (veq_rg r)]
          try simp (disch := first | decide | rfl) only [again_nil, again_skip, again_free]
        simp (disch := first | omega | (simp only [add_nx, upd_nx, res_nx, putAt_nx] <;> omega) | decide) only [rUz, ↓reduceIte, Nat.reduceEqDiff, Nat.reduceAdd, rMz, infoL, Nat.reduceSub]
        refine dm_one rfl rfl ?_
        have k2 : Kp h (X1.add (c2 r)) := k1.add
        refine dmW_some (v := .slice (some ⟨X1.nx, 0, none⟩) 1 1) (h' := X1.add (c2 r)) rfl rfl (aw_lit1 slrR srR zrR rfl (by omega) (u := .agg ⟨c2 r⟩) (l := c2 r) (by simp (disch := first | omega | (simp only [add_nx, upd_nx, res_nx, putAt_nx] <;> omega) | decide) only [rUz, ↓reduceIte, Nat.reduceEqDiff, Nat.reduceAdd, rMz, infoL, Nat.reduceSub]) rfl rfl) (Nat.le_of_ble_eq_true rfl) ?_ ?_
        · try simp (disch := first | decide | rfl) only [again_nil, again_skip, again_free]
          rw [again_same (v := v.e) (by simp (disch := first | omega | (simp only [add_nx, upd_nx, res_nx, putAt_nx] <;> omega) | decide) only [rUz, ↓reduceIte, Nat.reduceEqDiff, Nat.reduceAdd, rDz, infoL, Nat.reduceSub, t4, (k2.get h4n).trans hb4, fieldAddr_ptr fA5 lrR, qrR, co5]) (by first | assumption | exact veq_int | rfl)]
          try simp (disch := first | decide | rfl) only [again_nil, again_skip, again_free]
        simp (disch := first | omega | (simp only [add_nx, upd_nx, res_nx, putAt_nx] <;> omega) | decide) only [rUz, ↓reduceIte, Nat.reduceEqDiff, Nat.reduceAdd, rMz, infoL, Nat.reduceSub]
        refine dm_one rfl rfl ?_
        refine dmW_appC (lo := h.nx) (F := h.nx) (v := v1) (cs := c.cl.map c2) (bx := X1.nx) (cx := 1) rfl rfl slrR urR (by simp (disch := first | omega | (simp only [add_nx, upd_nx, res_nx, putAt_nx] <;> omega) | decide) only [rUz, ↓reduceIte, Nat.reduceEqDiff, Nat.reduceAdd, rMz, infoL, Nat.reduceSub]) (by simp (disch := first | omega | (simp only [add_nx, upd_nx, res_nx, putAt_nx] <;> omega) | decide) only [rUz, ↓reduceIte, Nat.reduceEqDiff, Nat.reduceAdd, rMz, infoL, Nat.reduceSub]) ((hcp.appC (by omega) (Nat.lt_succ_self _) hsz5).mono Kp.refl.add) (k2.1) srR (c2_len r) (ag_eq rfl) nrR hlen5 (Nat.le_of_ble_eq_true rfl) ?_
        intro w3 X3 hR hS
        refine ⟨?_, ?_⟩
        · try simp (disch := first | decide | rfl) only [again_nil, again_skip, again_free]
        obtain ⟨q, m, z, hw, e1, e2, e3⟩ := hend _ _ _ k2 hR hS
        subst hw
        simp (disch := first | omega | (simp only [add_nx, upd_nx, res_nx, putAt_nx] <;> omega) | decide) only [rUz, ↓reduceIte, Nat.reduceEqDiff, Nat.reduceAdd, rMz, infoL, Nat.reduceSub, t11, fieldAddr_ptr fA5 lrR]
        refine dm_one rfl rfl ?_
        refine dmW_none rfl rfl (aw_store1 (B := B11) (off := 5) (v := .slice q m z) (by simp (disch := first | omega | (simp only [add_nx, upd_nx, res_nx, putAt_nx] <;> omega) | decide) only [rUz, ↓reduceIte, Nat.reduceEqDiff, Nat.reduceAdd, rMz, infoL, Nat.reduceSub]) (by simp (disch := first | omega | (simp only [add_nx, upd_nx, res_nx, putAt_nx] <;> omega) | decide) only [rUz, ↓reduceIte, Nat.reduceEqDiff, Nat.reduceAdd, rMz, infoL, Nat.reduceSub]) lrR' rfl rfl e1 e2 (by show 5 < 6; omega)) ?_ ?_
        · try simp (disch := first | decide | rfl) only [again_nil, again_skip, again_free]
        simp (disch := first | omega | (simp only [add_nx, upd_nx, res_nx, putAt_nx] <;> omega) | decide) only [rUz, ↓reduceIte, Nat.reduceEqDiff, Nat.reduceAdd, rMz, infoL, Nat.reduceSub]
        obtain ⟨f1, f2, f3, f4, f5⟩ := e3 _ rfl
        refine hJ _ _ _ f1 f2 f3 f4 f5 ?_ ?_ ?_ ?_
        all_goals (first | rfl | (simp (disch := first | omega | (simp only [add_nx, upd_nx, res_nx, putAt_nx] <;> omega) | decide) only [rUz, ↓reduceIte, Nat.reduceEqDiff, Nat.reduceAdd, t4, t9, t10, t11]; done) | (simp (disch := first | omega | (simp only [add_nx, upd_nx, res_nx, putAt_nx] <;> omega) | decide) only [rUz, ↓reduceIte, Nat.reduceEqDiff, Nat.reduceAdd, t4, t9, t10, t11]; rfl))
      · skip
        have k1 : Kp h ((h.add []).add (c2 r)) := k0.add
        refine dmW_some (v := .slice (some ⟨(h.add []).nx, 0, none⟩) 1 1) (h' := (h.add []).add (c2 r)) rfl rfl (aw_lit1 slrR srR zrR rfl (by omega) (u := .agg ⟨c2 r⟩) (l := c2 r) (by simp (disch := first | omega | (simp only [add_nx, upd_nx, res_nx, putAt_nx] <;> omega) | decide) only [rUz, ↓reduceIte, Nat.reduceEqDiff, Nat.reduceAdd, rMz, infoL, Nat.reduceSub]) rfl rfl) (Nat.le_of_ble_eq_true rfl) ?_ ?_
        · try simp (disch := first | decide | rfl) only [again_nil, again_skip, again_free]
          rw [again_same (v := v.e) (by simp (disch := first | omega | (simp only [add_nx, upd_nx, res_nx, putAt_nx] <;> omega) | decide) only [rUz, ↓reduceIte, Nat.reduceEqDiff, Nat.reduceAdd, rDz, infoL, Nat.reduceSub, t4, (k1.get h4n).trans hb4, fieldAddr_ptr fA5 lrR, qrR, co5]) (by first | assumption | exact veq_int | rfl)]
          try simp (disch := first | decide | rfl) only [again_nil, again_skip, again_free]
        simp (disch := first | omega | (simp only [add_nx, upd_nx, res_nx, putAt_nx] <;> omega) | decide) only [rUz, ↓reduceIte, Nat.reduceEqDiff, Nat.reduceAdd, rMz, infoL, Nat.reduceSub]
        refine dm_one rfl rfl ?_
        refine dmW_copyE (b := h.nx) (v := v.e) (cs := c.cl.map c2) rfl rfl slrR urR (by simp (disch := first | omega | (simp only [add_nx, upd_nx, res_nx, putAt_nx] <;> omega) | decide) only [rUz, ↓reduceIte, Nat.reduceEqDiff, Nat.reduceAdd, rMz, infoL, Nat.reduceSub]) (by simp (disch := first | omega | (simp only [add_nx, upd_nx, res_nx, putAt_nx] <;> omega) | decide) only [rUz, ↓reduceIte, Nat.reduceEqDiff, Nat.reduceAdd, rMz, infoL, Nat.reduceSub]) srR (by rw [ag_ne (by simp only [add_nx]; omega)]; exact ag_eq rfl) (by rw [af_ne (by simp only [add_nx]; omega)]; exact af_eq rfl) (by show h.nx < _; have := k1.1; simp only [add_nx] at this ⊢; omega) (SlAt.mono hv5 k1) nrR (by omega) (Nat.le_of_ble_eq_true rfl) ?_
        intro v2 X2 hcp
        have hbn : h.nx ≤ h.nx := by have := (Kp.refl : Kp h h).1; simp only [add_nx] at *; omega
        have k2 : Kp h X2 := hcp.kp k1 hbn
        refine ⟨?_, ?_⟩
        · try simp (disch := first | decide | rfl) only [again_nil, again_skip, again_free]
          rw [again_same (v := .agg ⟨c2 r⟩) (by simp (disch := first | omega | (simp only [add_nx, upd_nx, res_nx, putAt_nx] <;> omega) | decide) only [rUz, ↓reduceIte, Nat.reduceEqDiff, Nat.reduceAdd, rDz, infoL, Nat.reduceSub, t7, (k2.get h7n).trans hb7, part_0 prR (c2_len r)]) (veq_rg r)]
          try simp (disch := first | decide | rfl) only [again_nil, again_skip, again_free]
        simp (disch := first | omega | (simp only [add_nx, upd_nx, res_nx, putAt_nx] <;> omega) | decide) only [rUz, ↓reduceIte, Nat.reduceEqDiff, Nat.reduceAdd, rMz, infoL, Nat.reduceSub]
        refine dm_one rfl rfl ?_
        refine dmW_appC (lo := h.nx) (F := h.nx) (v := v2) (cs := c.cl.map c2) (bx := (h.add []).nx) (cx := 1) rfl rfl slrR urR (by simp (disch := first | omega | (simp only [add_nx, upd_nx, res_nx, putAt_nx] <;> omega) | decide) only [rUz, ↓reduceIte, Nat.reduceEqDiff, Nat.reduceAdd, rMz, infoL, Nat.reduceSub]) (by simp (disch := first | omega | (simp only [add_nx, upd_nx, res_nx, putAt_nx] <;> omega) | decide) only [rUz, ↓reduceIte, Nat.reduceEqDiff, Nat.reduceAdd, rMz, infoL, Nat.reduceSub]) (hcp.appC (by omega) (by simp only [add_nx]; omega) hsz5) (k2.1) srR (c2_len r) ((hcp.bl _ (by simp only [add_nx]; omega) (by simp only [add_nx]; omega)).trans (ag_eq rfl)) nrR hlen5 (Nat.le_of_ble_eq_true rfl) ?_
        intro w3 X3 hR hS
        refine ⟨?_, ?_⟩
        · try simp (disch := first | decide | rfl) only [again_nil, again_skip, again_free]
        obtain ⟨q, m, z, hw, e1, e2, e3⟩ := hend _ _ _ k2 hR hS
        subst hw
        simp (disch := first | omega | (simp only [add_nx, upd_nx, res_nx, putAt_nx] <;> omega) | decide) only [rUz, ↓reduceIte, Nat.reduceEqDiff, Nat.reduceAdd, rMz, infoL, Nat.reduceSub, t11, fieldAddr_ptr fA5 lrR]
        refine dm_one rfl rfl ?_
        refine dmW_none rfl rfl (aw_store1 (B := B11) (off := 5) (v := .slice q m z) (by simp (disch := first | omega | (simp only [add_nx, upd_nx, res_nx, putAt_nx] <;> omega) | decide) only [rUz, ↓reduceIte, Nat.reduceEqDiff, Nat.reduceAdd, rMz, infoL, Nat.reduceSub]) (by simp (disch := first | omega | (simp only [add_nx, upd_nx, res_nx, putAt_nx] <;> omega) | decide) only [rUz, ↓reduceIte, Nat.reduceEqDiff, Nat.reduceAdd, rMz, infoL, Nat.reduceSub]) lrR' rfl rfl e1 e2 (by show 5 < 6; omega)) ?_ ?_
        · try simp (disch := first | decide | rfl) only [again_nil, again_skip, again_free]
        simp (disch := first | omega | (simp only [add_nx, upd_nx, res_nx, putAt_nx] <;> omega) | decide) only [rUz, ↓reduceIte, Nat.reduceEqDiff, Nat.reduceAdd, rMz, infoL, Nat.reduceSub]
        obtain ⟨f1, f2, f3, f4, f5⟩ := e3 _ rfl
        refine hJ _ _ _ f1 f2 f3 f4 f5 ?_ ?_ ?_ ?_
        all_goals (first | rfl | (simp (disch := first | omega | (simp only [add_nx, upd_nx, res_nx, putAt_nx] <;> omega) | decide) only [rUz, ↓reduceIte, Nat.reduceEqDiff, Nat.reduceAdd, t4, t9, t10, t11]; done) | (simp (disch := first | omega | (simp only [add_nx, upd_nx, res_nx, putAt_nx] <;> omega) | decide) only [rUz, ↓reduceIte, Nat.reduceEqDiff, Nat.reduceAdd, t4, t9, t10, t11]; rfl))
    · skip
      have k0 : Kp h (h.add (c2 r)) := Kp.refl.add
      refine dmW_some (v := .slice (some ⟨h.nx, 0, none⟩) 1 1) (h' := h.add (c2 r)) rfl rfl (aw_lit1 slrR srR zrR rfl (by omega) (u := .agg ⟨c2 r⟩) (l := c2 r) (by simp (disch := first | omega | (simp only [add_nx, upd_nx, res_nx, putAt_nx] <;> omega) | decide) only [rUz, ↓reduceIte, Nat.reduceEqDiff, Nat.reduceAdd, rMz, infoL, Nat.reduceSub]) rfl rfl) (Nat.le_of_ble_eq_true rfl) ?_ ?_
      · try simp (disch := first | decide | rfl) only [again_nil, again_skip, again_free]
        rw [again_same (v := v.e) (by simp (disch := first | omega | (simp only [add_nx, upd_nx, res_nx, putAt_nx] <;> omega) | decide) only [rUz, ↓reduceIte, Nat.reduceEqDiff, Nat.reduceAdd, rDz, infoL, Nat.reduceSub, t4, (k0.get h4n).trans hb4, fieldAddr_ptr fA5 lrR, qrR, co5]) (by first | assumption | exact veq_int | rfl)]
        try simp (disch := first | decide | rfl) only [again_nil, again_skip, again_free]
      simp (disch := first | omega | (simp only [add_nx, upd_nx, res_nx, putAt_nx] <;> omega) | decide) only [rUz, ↓reduceIte, Nat.reduceEqDiff, Nat.reduceAdd, rMz, infoL, Nat.reduceSub]
      refine dm_one rfl rfl ?_
      have k1 : Kp h ((h.add (c2 r)).add []) := k0.add
      refine dmW_some (v := .slice (some ⟨(h.add (c2 r)).nx, 0, none⟩) 0 0) (h' := (h.add (c2 r)).add []) rfl rfl (aw_lit0 slrR srR zrR rfl) (Nat.le_of_ble_eq_true rfl) ?_ ?_
      · try simp (disch := first | decide | rfl) only [again_nil, again_skip, again_free]
        rw [again_same (v := .agg ⟨c2 r⟩) (by simp (disch := first | omega | (simp only [add_nx, upd_nx, res_nx, putAt_nx] <;> omega) | decide) only [rUz, ↓reduceIte, Nat.reduceEqDiff, Nat.reduceAdd, rDz, infoL, Nat.reduceSub, t7, (k1.get h7n).trans hb7, part_0 prR (c2_len r)]) (veq_rg r)]
        try simp (disch := first | decide | rfl) only [again_nil, again_skip, again_free]
        rw [again_same (v := v.e) (by simp (disch := first | omega | (simp only [add_nx, upd_nx, res_nx, putAt_nx] <;> omega) | decide) only [rUz, ↓reduceIte, Nat.reduceEqDiff, Nat.reduceAdd, rDz, infoL, Nat.reduceSub, t4, (k1.get h4n).trans hb4, fieldAddr_ptr fA5 lrR, qrR, co5]) (by first | assumption | exact veq_int | rfl)]
        try simp (disch := first | decide | rfl) only [again_nil, again_skip, again_free]
      simp (disch := first | omega | (simp only [add_nx, upd_nx, res_nx, putAt_nx] <;> omega) | decide) only [rUz, ↓reduceIte, Nat.reduceEqDiff, Nat.reduceAdd, rMz, infoL, Nat.reduceSub]
      refine dm_one rfl rfl ?_
      refine dmW_copyE (b := (h.add (c2 r)).nx) (v := v.e) (cs := c.cl.map c2) rfl rfl slrR urR (by simp (disch := first | omega | (simp only [add_nx, upd_nx, res_nx, putAt_nx] <;> omega) | decide) only [rUz, ↓reduceIte, Nat.reduceEqDiff, Nat.reduceAdd, rMz, infoL, Nat.reduceSub]) (by simp (disch := first | omega | (simp only [add_nx, upd_nx, res_nx, putAt_nx] <;> omega) | decide) only [rUz, ↓reduceIte, Nat.reduceEqDiff, Nat.reduceAdd, rMz, infoL, Nat.reduceSub]) srR (by exact ag_eq rfl) (by exact af_eq rfl) (by show (h.add (c2 r)).nx < _; have := k1.1; simp only [add_nx] at this ⊢; omega) (SlAt.mono hv5 k1) nrR (by omega) (Nat.le_of_ble_eq_true rfl) ?_
      intro v2 X2 hcp
      have hbn : h.nx ≤ (h.add (c2 r)).nx := by have := (Kp.refl.add : Kp h (h.add (c2 r))).1; simp only [add_nx] at *; omega
      have k2 : Kp h X2 := hcp.kp k1 hbn
      refine ⟨?_, ?_⟩
      · try simp (disch := first | decide | rfl) only [again_nil, again_skip, again_free]
        rw [again_same (v := .agg ⟨c2 r⟩) (by simp (disch := first | omega | (simp only [add_nx, upd_nx, res_nx, putAt_nx] <;> omega) | decide) only [rUz, ↓reduceIte, Nat.reduceEqDiff, Nat.reduceAdd, rDz, infoL, Nat.reduceSub, t7, (k2.get h7n).trans hb7, part_0 prR (c2_len r)]) (veq_rg r)]
        try simp (disch := first | decide | rfl) only [again_nil, again_skip, again_free]
      simp (disch := first | omega | (simp only [add_nx, upd_nx, res_nx, putAt_nx] <;> omega) | decide) only [rUz, ↓reduceIte, Nat.reduceEqDiff, Nat.reduceAdd, rMz, infoL, Nat.reduceSub]
      refine dm_one rfl rfl ?_
      refine dmW_appC (lo := h.nx) (F := (h.add (c2 r)).nx) (v := v2) (cs := c.cl.map c2) (bx := h.nx) (cx := 1) rfl rfl slrR urR (by simp (disch := first | omega | (simp only [add_nx, upd_nx, res_nx, putAt_nx] <;> omega) | decide) only [rUz, ↓reduceIte, Nat.reduceEqDiff, Nat.reduceAdd, rMz, infoL, Nat.reduceSub]) (by simp (disch := first | omega | (simp only [add_nx, upd_nx, res_nx, putAt_nx] <;> omega) | decide) only [rUz, ↓reduceIte, Nat.reduceEqDiff, Nat.reduceAdd, rMz, infoL, Nat.reduceSub]) (hcp.appC (by omega) (by simp only [add_nx]; omega) hsz5) (k2.1) srR (c2_len r) ((hcp.bl _ (by simp only [add_nx]; omega) (by simp only [add_nx]; omega)).trans (by rw [ag_ne (by simp only [add_nx]; omega)]; exact ag_eq rfl)) nrR hlen5 (Nat.le_of_ble_eq_true rfl) ?_
      intro w3 X3 hR hS
      refine ⟨?_, ?_⟩
      · try simp (disch := first | decide | rfl) only [again_nil, again_skip, again_free]
      obtain ⟨q, m, z, hw, e1, e2, e3⟩ := hend _ _ _ k2 hR hS
      subst hw
      simp (disch := first | omega | (simp only [add_nx, upd_nx, res_nx, putAt_nx] <;> omega) | decide) only [rUz, ↓reduceIte, Nat.reduceEqDiff, Nat.reduceAdd, rMz, infoL, Nat.reduceSub, t11, fieldAddr_ptr fA5 lrR]
      refine dm_one rfl rfl ?_
      refine dmW_none rfl rfl (aw_store1 (B := B11) (off := 5) (v := .slice q m z) (by simp (disch := first | omega | (simp only [add_nx, upd_nx, res_nx, putAt_nx] <;> omega) | decide) only [rUz, ↓reduceIte, Nat.reduceEqDiff, Nat.reduceAdd, rMz, infoL, Nat.reduceSub]) (by simp (disch := first | omega | (simp only [add_nx, upd_nx, res_nx, putAt_nx] <;> omega) | decide) only [rUz, ↓reduceIte, Nat.reduceEqDiff, Nat.reduceAdd, rMz, infoL, Nat.reduceSub]) lrR' rfl rfl e1 e2 (by show 5 < 6; omega)) ?_ ?_
      · try simp (disch := first | decide | rfl) only [again_nil, again_skip, again_free]
      simp (disch := first | omega | (simp only [add_nx, upd_nx, res_nx, putAt_nx] <;> omega) | decide) only [rUz, ↓reduceIte, Nat.reduceEqDiff, Nat.reduceAdd, rMz, infoL, Nat.reduceSub]
      obtain ⟨f1, f2, f3, f4, f5⟩ := e3 _ rfl
      refine hJ _ _ _ f1 f2 f3 f4 f5 ?_ ?_ ?_ ?_
      all_goals (first | rfl | (simp (disch := first | omega | (simp only [add_nx, upd_nx, res_nx, putAt_nx] <;> omega) | decide) only [rUz, ↓reduceIte, Nat.reduceEqDiff, Nat.reduceAdd, t4, t9, t10, t11]; done) | (simp (disch := first | omega | (simp only [add_nx, upd_nx, res_nx, putAt_nx] <;> omega) | decide) only [rUz, ↓reduceIte, Nat.reduceEqDiff, Nat.reduceAdd, t4, t9, t10, t11]; rfl))
  clear hgn
  clear hb11 hf11 hn11 hgh t4 t7 t9 t10 t11 hkA hb4 hb7
  clear t h
  intro t h w hkA hb4 hn11 hb11 hw5 t4 t9 t10 t11
  subst hJJ
  simp only [seqK_normal]
  have hcw : CoAt h (wth v w) (more c r) := ⟨(hc.mono hkA).held, (hc.mono hkA).tr, (hc.mono hkA).dv, (hc.mono hkA).sp, hw5⟩
  have hthm : thinB (more c r) [] [] = true := thin_more hth (fault0 hz)
  have hn4 : B4 < h.nx := by omega
  clear hbA h7A hnA hw5
  -- the first day
  repeat refine S.seq ?_
  refine S.region ?_
  simp (disch := first | omega | (simp only [add_nx, upd_nx, res_nx, putAt_nx] <;> omega) | decide) only [rUz, ↓reduceIte, Nat.reduceEqDiff, Nat.reduceAdd, t4, hb4, part_0 pA (coV_len c.hs v)]
  refine wr_brings (fid := 11) (first := #[]) (captured := #[]) (Post := fun u h => ∃ v', u = .agg ⟨coV c.hs v'⟩ ∧ CoAt h v' c) (by first | rfl | (simp (disch := first | omega | (simp only [add_nx, upd_nx, res_nx, putAt_nx] <;> omega) | decide) only [rUz, ↓reduceIte, Nat.reduceEqDiff, Nat.reduceAdd] <;> rfl)) (hoff _ _ _ rfl) (by simp (disch := first | omega | (simp only [add_nx, upd_nx, res_nx, putAt_nx] <;> omega) | decide) only [rUz, ↓reduceIte, Nat.reduceEqDiff, Nat.reduceAdd]; exact company_y S hoff _ v c (hc.mono hkA) (SlAt.mono hh hkA) hth) ?_
  rintro u g hk2 ⟨v2, rfl, hc2⟩
  simp (disch := first | omega | (simp only [add_nx, upd_nx, res_nx, putAt_nx] <;> omega) | decide) only [rUz, ↓reduceIte, Nat.reduceEqDiff, Nat.reduceAdd, t9]
  refine wr_brings (fid := 10) (first := #[]) (captured := #[]) (Post := fun u _ => u = .tuple ⟨[iv (registeredP c i).1, iv (registeredP c i).2]⟩) (by first | rfl | (simp (disch := first | omega | (simp only [add_nx, upd_nx, res_nx, putAt_nx] <;> omega) | decide) only [rUz, ↓reduceIte, Nat.reduceEqDiff, Nat.reduceAdd] <;> rfl)) (hoff _ _ _ rfl) (by simp (disch := first | omega | (simp only [add_nx, upd_nx, res_nx, putAt_nx] <;> omega) | decide) only [rUz, ↓reduceIte, Nat.reduceEqDiff, Nat.reduceAdd]; exact Registered_y S hoff _ v2 c hc2 hth i) ?_
  rintro u g2 hk3 rfl
  have ei : registeredP c i = (regP c.cl i, 0) := by
    unfold registeredP
    rw [if_pos hz, inB_iff.2 (by omega), cond_true]
  have ek : registeredP c k = (regP c.cl k, 0) := by
    unfold registeredP
    rw [if_pos hz, inB_iff.2 (by omega), cond_true]
  rw [ei]
  simp (disch := first | omega | (simp only [add_nx, upd_nx, res_nx, putAt_nx] <;> omega) | decide) only [rUz, ↓reduceIte, Nat.reduceEqDiff, Nat.reduceAdd, tup0, tup1]
  have hkB := hk2.trans hk3
  have hbB := (hkB.get hn4).trans hb4
  -- the second day
  repeat refine S.seq ?_
  refine S.region ?_
  simp (disch := first | omega | (simp only [add_nx, upd_nx, res_nx, putAt_nx] <;> omega) | decide) only [rUz, ↓reduceIte, Nat.reduceEqDiff, Nat.reduceAdd, t4, hbB, part_0 pA (coV_len c.hs v)]
  refine wr_brings (fid := 11) (first := #[]) (captured := #[]) (Post := fun u h => ∃ v', u = .agg ⟨coV c.hs v'⟩ ∧ CoAt h v' c) (by first | rfl | (simp (disch := first | omega | (simp only [add_nx, upd_nx, res_nx, putAt_nx] <;> omega) | decide) only [rUz, ↓reduceIte, Nat.reduceEqDiff, Nat.reduceAdd] <;> rfl)) (hoff _ _ _ rfl) (by simp (disch := first | omega | (simp only [add_nx, upd_nx, res_nx, putAt_nx] <;> omega) | decide) only [rUz, ↓reduceIte, Nat.reduceEqDiff, Nat.reduceAdd]; exact company_y S hoff _ v c (hc.mono (hkA.trans hkB)) (SlAt.mono hh (hkA.trans hkB)) hth) ?_
  rintro u g3 hk4 ⟨v3, rfl, hc3⟩
  simp (disch := first | omega | (simp only [add_nx, upd_nx, res_nx, putAt_nx] <;> omega) | decide) only [rUz, ↓reduceIte, Nat.reduceEqDiff, Nat.reduceAdd, t10]
  refine wr_brings (fid := 10) (first := #[]) (captured := #[]) (Post := fun u _ => u = .tuple ⟨[iv (registeredP c k).1, iv (registeredP c k).2]⟩) (by first | rfl | (simp (disch := first | omega | (simp only [add_nx, upd_nx, res_nx, putAt_nx] <;> omega) | decide) only [rUz, ↓reduceIte, Nat.reduceEqDiff, Nat.reduceAdd] <;> rfl)) (hoff _ _ _ rfl) (by simp (disch := first | omega | (simp only [add_nx, upd_nx, res_nx, putAt_nx] <;> omega) | decide) only [rUz, ↓reduceIte, Nat.reduceEqDiff, Nat.reduceAdd]; exact Registered_y S hoff _ v3 c hc3 hth k) ?_
  rintro u g4 hk5 rfl
  rw [ek]
  simp (disch := first | omega | (simp only [add_nx, upd_nx, res_nx, putAt_nx] <;> omega) | decide) only [rUz, ↓reduceIte, Nat.reduceEqDiff, Nat.reduceAdd, tup0, tup1]
  have hkC := hkB.trans (hk4.trans hk5)
  have hb11C := (hkC.get hn11).trans hb11
  have hm := regP_rng c.cl i
  have hn := regP_rng c.cl k
  have hmn := regP_later c.cl hk0.1
  have ho := regP_more c.cl r i
  generalize hme : regP c.cl i = m at hm hmn ho ⊢
  generalize regP c.cl k = n at hn hmn ⊢
  repeat refine S.seq ?_
  refine S.region ?_
  generalize hJJ : (fun (t : T Value) (h : AHeap) => _) = KJ
  suffices hJ : ∀ t, tget t 9 = iv i → tget t 11 = ptr0 B11 → tget t 12 = iv m → tget t 96 = .bool false → KJ t g4 = true by
    clear hJJ hKr
    by_cases hm1 : m = -1
    · have hn1 : n = -1 := by omega
      simp (disch := first | omega | (simp only [add_nx, upd_nx, res_nx, putAt_nx] <;> omega) | decide) only [rUz, ↓reduceIte, Nat.reduceEqDiff, Nat.reduceAdd, t9, decide_true, Bool.not_true, decide_eq_true hm1, decide_eq_true hn1]
      refine hJ _ ?_ ?_ ?_ ?_
      all_goals (first | rfl | (simp (disch := first | omega | (simp only [add_nx, upd_nx, res_nx, putAt_nx] <;> omega) | decide) only [rUz, ↓reduceIte, Nat.reduceEqDiff, Nat.reduceAdd, t9, t11]; done) | (simp (disch := first | omega | (simp only [add_nx, upd_nx, res_nx, putAt_nx] <;> omega) | decide) only [rUz, ↓reduceIte, Nat.reduceEqDiff, Nat.reduceAdd, t9, t11]; rfl))
    · by_cases hn1 : n = -1
      · simp (disch := first | omega | (simp only [add_nx, upd_nx, res_nx, putAt_nx] <;> omega) | decide) only [rUz, ↓reduceIte, Nat.reduceEqDiff, Nat.reduceAdd, t9, decide_true, Bool.not_true, decide_eq_false hm1, decide_eq_true hn1, Bool.not_false, decide_eq_false (by omega : ¬ m < i), decide_eq_false (by omega : ¬ 11 < m)]
        refine hJ _ ?_ ?_ ?_ ?_
        all_goals (first | rfl | (simp (disch := first | omega | (simp only [add_nx, upd_nx, res_nx, putAt_nx] <;> omega) | decide) only [rUz, ↓reduceIte, Nat.reduceEqDiff, Nat.reduceAdd, t9, t11]; done) | (simp (disch := first | omega | (simp only [add_nx, upd_nx, res_nx, putAt_nx] <;> omega) | decide) only [rUz, ↓reduceIte, Nat.reduceEqDiff, Nat.reduceAdd, t9, t11]; rfl))
      · simp (disch := first | omega | (simp only [add_nx, upd_nx, res_nx, putAt_nx] <;> omega) | decide) only [rUz, ↓reduceIte, Nat.reduceEqDiff, Nat.reduceAdd, t9, decide_true, Bool.not_true, decide_eq_false hm1, decide_eq_false hn1, Bool.not_false, decide_eq_false (by omega : ¬ m < i), decide_eq_false (by omega : ¬ 11 < m), decide_eq_false (by omega : ¬ n < m)]
        refine hJ _ ?_ ?_ ?_ ?_
        all_goals (first | rfl | (simp (disch := first | omega | (simp only [add_nx, upd_nx, res_nx, putAt_nx] <;> omega) | decide) only [rUz, ↓reduceIte, Nat.reduceEqDiff, Nat.reduceAdd, t9, t11]; done) | (simp (disch := first | omega | (simp only [add_nx, upd_nx, res_nx, putAt_nx] <;> omega) | decide) only [rUz, ↓reduceIte, Nat.reduceEqDiff, Nat.reduceAdd, t9, t11]; rfl))
  clear t4 t9 t10 t11
  clear t
  intro t t9 t11 t12 t96
  subst hJJ
  simp only [seqK_normal]
  repeat refine S.seq ?_
  refine S.cond (v := false) (by first | rfl | (simp (disch := first | omega | (simp only [add_nx, upd_nx, res_nx, putAt_nx] <;> omega) | decide) only [rUz, ↓reduceIte, Nat.reduceEqDiff, Nat.reduceAdd, t96] <;> rfl)) (fun e => by cases e) (fun _ => ?_)
  repeat refine S.seq ?_
  refine S.skip ?_
  simp (disch := first | omega | (simp only [add_nx, upd_nx, res_nx, putAt_nx] <;> omega) | decide) only [rUz, ↓reduceIte, Nat.reduceEqDiff, Nat.reduceAdd]
  clear t96
  repeat refine S.seq ?_
  refine S.region ?_
  simp (disch := first | omega | (simp only [add_nx, upd_nx, res_nx, putAt_nx] <;> omega) | decide) only [rUz, ↓reduceIte, Nat.reduceEqDiff, Nat.reduceAdd, t11, hb11C, part_0 pA (coV_len c.hs (wth v w))]
  have hkD := hkA.trans hkC
  refine wr_brings (fid := 14) (first := #[]) (captured := #[]) (Post := fun u _ => u = iv (faultZ (more c r))) (by first | rfl | (simp (disch := first | omega | (simp only [add_nx, upd_nx, res_nx, putAt_nx] <;> omega) | decide) only [rUz, ↓reduceIte, Nat.reduceEqDiff, Nat.reduceAdd] <;> rfl)) (hoff _ _ _ rfl) (by simp (disch := first | omega | (simp only [add_nx, upd_nx, res_nx, putAt_nx] <;> omega) | decide) only [rUz, ↓reduceIte, Nat.reduceEqDiff, Nat.reduceAdd]; exact faultw_y S hoff _ (wth v w) (more c r) (hcw.mono hkC) hthm) ?_
  rintro u g5 hk6 rfl
  simp (disch := first | omega | (simp only [add_nx, upd_nx, res_nx, putAt_nx] <;> omega) | decide) only [rUz, ↓reduceIte, Nat.reduceEqDiff, Nat.reduceAdd]
  have hb11D := (hk6.get (Nat.lt_of_lt_of_le hn11 hkC.1)).trans hb11C
  by_cases hz2 : faultZ (more c r) = 0
  rotate_left
  · repeat refine S.seq ?_
    refine S.cond (v := true) (by first | rfl | (simp (disch := first | omega | (simp only [add_nx, upd_nx, res_nx, putAt_nx] <;> omega) | decide) only [rUz, ↓reduceIte, Nat.reduceEqDiff, Nat.reduceAdd, decide_eq_false hz2, Bool.not_false] <;> rfl)) (fun _ => ?_) (fun e => by cases e)
    repeat refine S.seq ?_
    refine S.region ?_
    simp (disch := first | omega | (simp only [add_nx, upd_nx, res_nx, putAt_nx] <;> omega) | decide) only [rUz, ↓reduceIte, Nat.reduceEqDiff, Nat.reduceAdd]
    refine awake ?_
    simp (disch := first | omega | (simp only [add_nx, upd_nx, res_nx, putAt_nx] <;> omega) | decide) only [rUz, ↓reduceIte, Nat.reduceEqDiff, Nat.reduceAdd]
    refine S.ret ?_
    try simp only [seqK_ret, blockK_ret]
    subst hF
    simp only [finish, endMarks]
    rw [show Tryz.f6.results.toList = [.tmp 8] from rfl]
    simp (disch := first | omega | (simp only [add_nx, upd_nx, res_nx, putAt_nx] <;> omega) | decide) only [resA, ev_tmp, tget_ne, tget_eq, get_ne, get_eq, upd_eq, upd_ne, ag_eq, ag_ne, result1]
    exact hKr _ (hkD.trans hk6)
  repeat refine S.seq ?_
  refine S.cond (v := false) (by first | rfl | (simp (disch := first | omega | (simp only [add_nx, upd_nx, res_nx, putAt_nx] <;> omega) | decide) only [rUz, ↓reduceIte, Nat.reduceEqDiff, Nat.reduceAdd, decide_eq_true hz2, Bool.not_true] <;> rfl)) (fun e => by cases e) (fun _ => ?_)
  repeat refine S.seq ?_
  refine S.skip ?_
  simp (disch := first | omega | (simp only [add_nx, upd_nx, res_nx, putAt_nx] <;> omega) | decide) only [rUz, ↓reduceIte, Nat.reduceEqDiff, Nat.reduceAdd]
  have hkE := hkC.trans hk6
  repeat refine S.seq ?_
  refine S.region ?_
  simp (disch := first | omega | (simp only [add_nx, upd_nx, res_nx, putAt_nx] <;> omega) | decide) only [rUz, ↓reduceIte, Nat.reduceEqDiff, Nat.reduceAdd, t11, hb11D, part_0 pA (coV_len c.hs (wth v w))]
  refine wr_brings (fid := 11) (first := #[]) (captured := #[]) (Post := fun u h => ∃ v', u = .agg ⟨coV c.hs v'⟩ ∧ CoAt h v' (more c r)) (by first | rfl | (simp (disch := first | omega | (simp only [add_nx, upd_nx, res_nx, putAt_nx] <;> omega) | decide) only [rUz, ↓reduceIte, Nat.reduceEqDiff, Nat.reduceAdd] <;> rfl)) (hoff _ _ _ rfl) (by simp (disch := first | omega | (simp only [add_nx, upd_nx, res_nx, putAt_nx] <;> omega) | decide) only [rUz, ↓reduceIte, Nat.reduceEqDiff, Nat.reduceAdd]; exact company_y S hoff _ (wth v w) (more c r) (hcw.mono hkE) (SlAt.mono hh (hkA.trans hkE)) hthm) ?_
  rintro u g6 hk7 ⟨v4, rfl, hc4⟩
  simp (disch := first | omega | (simp only [add_nx, upd_nx, res_nx, putAt_nx] <;> omega) | decide) only [rUz, ↓reduceIte, Nat.reduceEqDiff, Nat.reduceAdd, t9]
  refine wr_brings (fid := 10) (first := #[]) (captured := #[]) (Post := fun u _ => u = .tuple ⟨[iv (registeredP (more c r) i).1, iv (registeredP (more c r) i).2]⟩) (by first | rfl | (simp (disch := first | omega | (simp only [add_nx, upd_nx, res_nx, putAt_nx] <;> omega) | decide) only [rUz, ↓reduceIte, Nat.reduceEqDiff, Nat.reduceAdd] <;> rfl)) (hoff _ _ _ rfl) (by simp (disch := first | omega | (simp only [add_nx, upd_nx, res_nx, putAt_nx] <;> omega) | decide) only [rUz, ↓reduceIte, Nat.reduceEqDiff, Nat.reduceAdd]; exact Registered_y S hoff _ v4 (more c r) hc4 hthm i) ?_
  rintro u g7 hk8 rfl
  have eo : registeredP (more c r) i = (regP (c.cl ++ [r]) i, 0) := by
    unfold registeredP
    rw [if_pos hz2, inB_iff.2 (by omega), cond_true]
    rfl
  rw [eo]
  simp (disch := first | omega | (simp only [add_nx, upd_nx, res_nx, putAt_nx] <;> omega) | decide) only [rUz, ↓reduceIte, Nat.reduceEqDiff, Nat.reduceAdd, tup0, tup1]
  generalize regP (c.cl ++ [r]) i = o at ho ⊢
  have hkF : Kp h0 g7 := (hkA.trans hkE).trans (hk7.trans hk8)
  by_cases ho1 : o = -1
  · repeat refine S.seq ?_
    refine S.region ?_
    simp (disch := first | omega | (simp only [add_nx, upd_nx, res_nx, putAt_nx] <;> omega) | decide) only [rUz, ↓reduceIte, Nat.reduceEqDiff, Nat.reduceAdd, t12, decide_true, Bool.not_true, decide_eq_true ho1]
    refine awake ?_
    simp (disch := first | omega | (simp only [add_nx, upd_nx, res_nx, putAt_nx] <;> omega) | decide) only [rUz, ↓reduceIte, Nat.reduceEqDiff, Nat.reduceAdd]
    refine S.ret ?_
    try simp only [seqK_ret, blockK_ret]
    subst hF
    simp only [finish, endMarks]
    rw [show Tryz.f6.results.toList = [.tmp 8] from rfl]
    simp (disch := first | omega | (simp only [add_nx, upd_nx, res_nx, putAt_nx] <;> omega) | decide) only [resA, ev_tmp, tget_ne, tget_eq, get_ne, get_eq, upd_eq, upd_ne, ag_eq, ag_ne, result1]
    exact hKr _ hkF
  · have hm1 : ¬ m = -1 := by omega
    have hmo : m ≤ o := by omega
    repeat refine S.seq ?_
    refine S.region ?_
    simp (disch := first | omega | (simp only [add_nx, upd_nx, res_nx, putAt_nx] <;> omega) | decide) only [rUz, ↓reduceIte, Nat.reduceEqDiff, Nat.reduceAdd, t12, decide_true, Bool.not_true, decide_eq_false ho1, decide_eq_false hm1, Bool.not_false, decide_eq_true hmo]
    refine awake ?_
    simp (disch := first | omega | (simp only [add_nx, upd_nx, res_nx, putAt_nx] <;> omega) | decide) only [rUz, ↓reduceIte, Nat.reduceEqDiff, Nat.reduceAdd]
    refine S.ret ?_
    try simp only [seqK_ret, blockK_ret]
    subst hF
    simp only [finish, endMarks]
    rw [show Tryz.f6.results.toList = [.tmp 8] from rfl]
    simp (disch := first | omega | (simp only [add_nx, upd_nx, res_nx, putAt_nx] <;> omega) | decide) only [resA, ev_tmp, tget_ne, tget_eq, get_ne, get_eq, upd_eq, upd_ne, ag_eq, ag_ne, result1]
    exact hKr _ hkF
end Go.Proofs.Cp
