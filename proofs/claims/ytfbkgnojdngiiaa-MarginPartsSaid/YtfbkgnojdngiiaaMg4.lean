import Derived.Test.YtfbkgnojdngiiaaMg3
import Derived.Test.YtfbkgnojdngiiaaEvE
/- The program's parts. -/
namespace Go.Proofs.Mg
open Go Go.Ev
set_option linter.unusedSimpArgs false
variable {pr : Prim} {R : ExT}
/-! ## Lists that are filled -/
def fillK (b : List Int) (k : Nat) : List Int := b.take k ++ List.replicate (b.length - k) 0
theorem fillK_zero (b : List Int) : fillK b 0 = List.replicate b.length 0 := by simp [fillK]
theorem fillK_len (b : List Int) {k : Nat} (hk : k ≤ b.length) : (fillK b k).length = b.length := by simp [fillK]; omega
theorem fillK_full (b : List Int) : fillK b b.length = b := by simp [fillK]
theorem fillK_set (b : List Int) {k : Nat} (hk : k < b.length) : (fillK b k).set k b[k] = fillK b (k + 1) := by
  unfold fillK
  rw [List.set_append_right _ _ (by rw [List.length_take]; omega), List.length_take, Nat.min_eq_left (by omega), Nat.sub_self, show b.length - k = (b.length - (k + 1)) + 1 by omega, List.replicate_succ, List.set_cons_zero, List.take_add_one, List.getElem?_eq_getElem hk, Option.toList_some, List.append_assoc]
  rfl
theorem amts_bnd {l : List Int} {sum : Int} (h : Amts l sum) (hm : ∀ x, x ∈ l → 0 ≤ x ∧ x ≤ 100000) {k : Nat} (hk : k < l.length) :
    (0 ≤ l[k] * sum ∧ l[k] * sum ≤ 100000 * sum) ∧ (0 ≤ (l[k] * sum).tdiv (sumL l) ∧ (l[k] * sum).tdiv (sumL l) ≤ 100000) := by
  have h1 := hm l[k] (List.getElem_mem hk)
  have h2 := h.s0
  have h3 := h.T
  have h4 := h.sT
  have h5 : 0 ≤ l[k] * sum := Int.mul_nonneg h1.1 h2
  have h6 : l[k] * sum ≤ 100000 * sum := Int.mul_le_mul_of_nonneg_right h1.2 h2
  refine ⟨⟨h5, h6⟩, Int.tdiv_nonneg h5 (by omega), ?_⟩
  have h7 := Int.mul_tdiv_add_tmod (l[k] * sum) (sumL l)
  have h8 := Int.tmod_nonneg (sumL l) h5
  have h9 : sumL l * (l[k] * sum).tdiv (sumL l) ≤ sumL l * 100000 := by
    have : 100000 * sum ≤ 100000 * sumL l := Int.mul_le_mul_of_nonneg_left h4 (by omega)
    rw [Int.mul_comm (sumL l) 100000]
    omega
  exact Int.le_of_mul_le_mul_left h9 h3
structure IPf (cv : Value) (cs : List Int) (sum : Int) (H : AHeap) (B6 B7 : Nat) (k : Nat) (t : T Value) (h : AHeap) : Prop where
  kp : Kp H h
  o6 : Own h B6 (fillK (base cs sum (sumL cs)) k)
  o7 : Own h B7 (fillK (rest cs sum (sumL cs)) k)
  t0 : tget t 0 = cv
  t1 : tget t 1 = iv sum
  t5 : tget t 5 = iv (sumL cs)
  t6 : tget t 6 = .slice (some ⟨B6, 0, none⟩) cs.length cs.length
  t7 : tget t 7 = .slice (some ⟨B7, 0, none⟩) cs.length cs.length
  t19 : tget t 19 = cv
  t20 : tget t 20 = iv (cs.length : Int)
  t21 : tget t 21 = iv (k : Int)
  hk : k ≤ cs.length
structure IPr (cs : List Int) (sum : Int) (H : AHeap) (B6 B7 : Nat) (k : Nat) (t : T Value) (h : AHeap) : Prop where
  kp : Kp H h
  ex : ∃ x s, InvR (base cs sum (sumL cs)) (rest cs sum (sumL cs)) (sumL cs) (leftN cs sum) k x s ∧ Own h B6 x.1 ∧ Own h B7 x.2 ∧ rounds (leftN cs sum - k) x = rounds (leftN cs sum) (base cs sum (sumL cs), rest cs sum (sumL cs))
  t6 : tget t 6 = .slice (some ⟨B6, 0, none⟩) cs.length cs.length
  t7 : tget t 7 = .slice (some ⟨B7, 0, none⟩) cs.length cs.length
  t46 : tget t 46 = iv (leftN cs sum : Int)
  t47 : tget t 47 = iv (k : Int)
set_option maxHeartbeats 16000000 in
theorem parts_y (S : Ev.Steps Try.prog pr R) (hoff : Off pr) (h0 : AHeap) (cv : Value) (cs : List Int) (hc : IAt h0 cv cs) (hsz : cs.length ≤ 4) (hm : ∀ x, x ∈ cs → 0 ≤ x ∧ x ≤ 100000) (sum : Int) (ha : Amts cs sum) :
    Brings Try.prog R 35 [cv, iv sum] h0 fun u h => ∃ B, u = .slice (some ⟨B, 0, none⟩) cs.length cs.length ∧ h0.nx ≤ B ∧ Own h B (partsP cs sum) := by
  refine brings_of (fn := Try.f35) (c := (Try.f35.body).getD .skip) (by kernel_rfl) rfl (by kernel_rfl) rfl (fun K hK => ?_)
  generalize hF : finish Try.prog Try.f35 K = KF
  simp only [Try.f35, Option.getD_some, argsT, setArgs, fV1_eq, T.setK_eq, id]
  have hlen := fun t h1 o => iv_len hc t h1 o
  have hT := ha.T
  have hs0 := ha.s0
  have hsT := ha.sT
  have hTb := (sumL_bnd (by omega) hm).2
  have hTb2 : sumL cs ≤ 400000 := by omega
  clear hTb
  repeat refine S.seq ?_
  refine S.region ?_
  simp (disch := first | omega | (simp only [add_nx, upd_nx] <;> omega) | decide) only [rUz, ↓reduceIte, Nat.reduceEqDiff, Nat.reduceAdd]
  repeat refine S.seq ?_
  refine S.region ?_
  simp (disch := first | omega | (simp only [add_nx, upd_nx] <;> omega) | decide) only [rUz, ↓reduceIte, Nat.reduceEqDiff, Nat.reduceAdd]
  refine wr_brings (fid := 34) (first := #[]) (captured := #[]) (Post := fun u h => u = iv (sumL cs) ∧ h = h0) rfl (hoff _ _ _ rfl) (by simp (disch := first | omega | (simp only [add_nx, upd_nx] <;> omega) | decide) only [rUz, ↓reduceIte, Nat.reduceEqDiff, Nat.reduceAdd]; exact total_y S h0 cv cs hc (by omega) (fun x hx => by have := hm x hx; omega)) ?_
  rintro u g - ⟨rfl, rfl⟩
  simp (disch := first | omega | (simp only [add_nx, upd_nx] <;> omega) | decide) only [rUz, ↓reduceIte, Nat.reduceEqDiff, Nat.reduceAdd]
  repeat refine S.seq ?_
  refine S.drawnM [(false, 0), (false, 1), (true, 3), (false, 0), (false, 8), (true, 24), (false, 7), (false, 127)] 0 [] (by kernel_rfl) (by kernel_rfl) (by kernel_rfl) (by kernel_rfl) (by kernel_rfl) ?_
  generalize hJJ : (fun (t : T Value) (h : AHeap) => _) = KJ
  suffices hJ : ∀ t h B6 B7, Kp g h → Own h B6 (List.replicate cs.length 0) → Own h B7 (List.replicate cs.length 0) → B6 ≠ B7 → g.nx ≤ B6 → g.nx ≤ B7 → tget t 6 = .slice (some ⟨B6, 0, none⟩) cs.length cs.length → tget t 7 = .slice (some ⟨B7, 0, none⟩) cs.length cs.length → tget t 0 = cv → tget t 1 = iv sum → tget t 5 = iv (sumL cs) → KJ t h = true by
    clear hJJ hK
    simp (disch := first | omega | (simp only [add_nx, upd_nx] <;> omega) | decide) only [rUz, ↓reduceIte, Nat.reduceEqDiff, Nat.reduceAdd, rMz, infoL, Nat.reduceSub, hlen]
    refine dm_pick rfl ?_
    simp (disch := first | omega | (simp only [add_nx, upd_nx] <;> omega) | decide) only [rUz, ↓reduceIte, Nat.reduceEqDiff, Nat.reduceAdd, rMz, infoL, Nat.reduceSub, hlen]
    refine dm_pick rfl ?_
    simp (disch := first | omega | (simp only [add_nx, upd_nx] <;> omega) | decide) only [rUz, ↓reduceIte, Nat.reduceEqDiff, Nat.reduceAdd, rMz, infoL, Nat.reduceSub, hlen]
    refine dm_two rfl rfl ?_ ?_
    · skip
      refine dmW_some (v := .slice (some ⟨g.nx, 0, none⟩) cs.length cs.length) (h' := g.add ((List.replicate cs.length 0).map iv)) rfl rfl (aw_makeInts slI info3 z3 info3b info3s (by simp (disch := first | omega | (simp only [add_nx, upd_nx] <;> omega) | decide) only [rUz, ↓reduceIte, Nat.reduceEqDiff, Nat.reduceAdd, rMz, infoL, Nat.reduceSub]) (by simp (disch := first | omega | (simp only [add_nx, upd_nx] <;> omega) | decide) only [rUz, ↓reduceIte, Nat.reduceEqDiff, Nat.reduceAdd, rMz, infoL, Nat.reduceSub]) (by omega)) (Nat.le_of_ble_eq_true rfl) ?_ ?_
      · try simp (disch := first | decide | rfl) only [again_nil, again_skip, again_free]
        rw [again_same (v := iv (cs.length : Int)) (by simp (disch := first | omega | (simp only [add_nx, upd_nx] <;> omega) | decide) only [rUz, ↓reduceIte, Nat.reduceEqDiff, Nat.reduceAdd, rDz, infoL, Nat.reduceSub, hlen]) (by first | assumption | exact veq_int | rfl)]
        try simp (disch := first | decide | rfl) only [again_nil, again_skip, again_free]
      simp (disch := first | omega | (simp only [add_nx, upd_nx] <;> omega) | decide) only [rUz, ↓reduceIte, Nat.reduceEqDiff, Nat.reduceAdd, rMz, infoL, Nat.reduceSub]
      refine dm_pick rfl ?_
      simp (disch := first | omega | (simp only [add_nx, upd_nx] <;> omega) | decide) only [rUz, ↓reduceIte, Nat.reduceEqDiff, Nat.reduceAdd, rMz, infoL, Nat.reduceSub]
      refine dm_one rfl rfl ?_
      refine dmW_some (v := .slice (some ⟨g.nx + 1, 0, none⟩) cs.length cs.length) (h' := (g.add ((List.replicate cs.length 0).map iv)).add ((List.replicate cs.length 0).map iv)) rfl rfl (aw_makeInts slI info3 z3 info3b info3s (by simp (disch := first | omega | (simp only [add_nx, upd_nx] <;> omega) | decide) only [rUz, ↓reduceIte, Nat.reduceEqDiff, Nat.reduceAdd, rMz, infoL, Nat.reduceSub]) (by simp (disch := first | omega | (simp only [add_nx, upd_nx] <;> omega) | decide) only [rUz, ↓reduceIte, Nat.reduceEqDiff, Nat.reduceAdd, rMz, infoL, Nat.reduceSub]) (by omega)) (Nat.le_of_ble_eq_true rfl) ?_ ?_
      · try simp (disch := first | decide | rfl) only [again_nil, again_skip, again_free]
        rw [again_same (v := iv (cs.length : Int)) (by simp (disch := first | omega | (simp only [add_nx, upd_nx] <;> omega) | decide) only [rUz, ↓reduceIte, Nat.reduceEqDiff, Nat.reduceAdd, rDz, infoL, Nat.reduceSub, hlen]) (by first | assumption | exact veq_int | rfl)]
        try simp (disch := first | decide | rfl) only [again_nil, again_skip, again_free]
      simp (disch := first | omega | (simp only [add_nx, upd_nx] <;> omega) | decide) only [rUz, ↓reduceIte, Nat.reduceEqDiff, Nat.reduceAdd, rMz, infoL, Nat.reduceSub]
      refine hJ _ _ g.nx (g.nx + 1) Kp.refl.add.add ((own_new _ _).mono Kp.refl.add) (own_new (g.add _) _) (by omega) (by omega) (by omega) ?_ ?_ ?_ ?_ ?_
      all_goals (first | rfl | (simp (disch := first | omega | (simp only [add_nx, upd_nx] <;> omega) | decide) only [rUz, ↓reduceIte, Nat.reduceEqDiff, Nat.reduceAdd]; done) | (simp (disch := first | omega | (simp only [add_nx, upd_nx] <;> omega) | decide) only [rUz, ↓reduceIte, Nat.reduceEqDiff, Nat.reduceAdd]; rfl))
    · skip
      refine dmW_some (v := .slice (some ⟨g.nx, 0, none⟩) cs.length cs.length) (h' := g.add ((List.replicate cs.length 0).map iv)) rfl rfl (aw_makeInts slI info3 z3 info3b info3s (by simp (disch := first | omega | (simp only [add_nx, upd_nx] <;> omega) | decide) only [rUz, ↓reduceIte, Nat.reduceEqDiff, Nat.reduceAdd, rMz, infoL, Nat.reduceSub]) (by simp (disch := first | omega | (simp only [add_nx, upd_nx] <;> omega) | decide) only [rUz, ↓reduceIte, Nat.reduceEqDiff, Nat.reduceAdd, rMz, infoL, Nat.reduceSub]) (by omega)) (Nat.le_of_ble_eq_true rfl) ?_ ?_
      · try simp (disch := first | decide | rfl) only [again_nil, again_skip, again_free]
        rw [again_same (v := iv (cs.length : Int)) (by simp (disch := first | omega | (simp only [add_nx, upd_nx] <;> omega) | decide) only [rUz, ↓reduceIte, Nat.reduceEqDiff, Nat.reduceAdd, rDz, infoL, Nat.reduceSub, hlen]) (by first | assumption | exact veq_int | rfl)]
        try simp (disch := first | decide | rfl) only [again_nil, again_skip, again_free]
      simp (disch := first | omega | (simp only [add_nx, upd_nx] <;> omega) | decide) only [rUz, ↓reduceIte, Nat.reduceEqDiff, Nat.reduceAdd, rMz, infoL, Nat.reduceSub]
      refine dm_one rfl rfl ?_
      refine dmW_some (v := .slice (some ⟨g.nx + 1, 0, none⟩) cs.length cs.length) (h' := (g.add ((List.replicate cs.length 0).map iv)).add ((List.replicate cs.length 0).map iv)) rfl rfl (aw_makeInts slI info3 z3 info3b info3s (by simp (disch := first | omega | (simp only [add_nx, upd_nx] <;> omega) | decide) only [rUz, ↓reduceIte, Nat.reduceEqDiff, Nat.reduceAdd, rMz, infoL, Nat.reduceSub]) (by simp (disch := first | omega | (simp only [add_nx, upd_nx] <;> omega) | decide) only [rUz, ↓reduceIte, Nat.reduceEqDiff, Nat.reduceAdd, rMz, infoL, Nat.reduceSub]) (by omega)) (Nat.le_of_ble_eq_true rfl) ?_ ?_
      · try simp (disch := first | decide | rfl) only [again_nil, again_skip, again_free]
        rw [again_same (v := iv (cs.length : Int)) (by simp (disch := first | omega | (simp only [add_nx, upd_nx] <;> omega) | decide) only [rUz, ↓reduceIte, Nat.reduceEqDiff, Nat.reduceAdd, rDz, infoL, Nat.reduceSub, hlen]) (by first | assumption | exact veq_int | rfl)]
        try simp (disch := first | decide | rfl) only [again_nil, again_skip, again_free]
      simp (disch := first | omega | (simp only [add_nx, upd_nx] <;> omega) | decide) only [rUz, ↓reduceIte, Nat.reduceEqDiff, Nat.reduceAdd, rMz, infoL, Nat.reduceSub]
      refine hJ _ _ (g.nx + 1) g.nx Kp.refl.add.add (own_new (g.add _) _) ((own_new _ _).mono Kp.refl.add) (by omega) (by omega) (by omega) ?_ ?_ ?_ ?_ ?_
      all_goals (first | rfl | (simp (disch := first | omega | (simp only [add_nx, upd_nx] <;> omega) | decide) only [rUz, ↓reduceIte, Nat.reduceEqDiff, Nat.reduceAdd]; done) | (simp (disch := first | omega | (simp only [add_nx, upd_nx] <;> omega) | decide) only [rUz, ↓reduceIte, Nat.reduceEqDiff, Nat.reduceAdd]; rfl))
  intro t h B6 B7 hkp o6 o7 hne hB6 hB7 t6 t7 t0 t1 t5
  subst hJJ
  simp only [seqK_normal]
  have lb : (base cs sum (sumL cs)).length = cs.length := by simp [base]
  have lr : (rest cs sum (sumL cs)).length = cs.length := by simp [rest]
  repeat refine S.seq ?_
  refine S.region ?_
  simp (disch := first | omega | (simp only [add_nx, upd_nx] <;> omega) | decide) only [rUz, ↓reduceIte, Nat.reduceEqDiff, Nat.reduceAdd, t0, hlen]
  repeat refine S.seq ?_
  refine S.block ?_
  refine S.loop (ι := Nat) (IPf cv cs sum g B6 B7) (fun k => cs.length - k) ?_ 0 _ _ ?_
  rotate_left
  · refine ⟨hkp, by rw [fillK_zero, lb]; exact o6, by rw [fillK_zero, lr]; exact o7, ?_, ?_, ?_, ?_, ?_, ?_, ?_, ?_, Nat.zero_le _⟩
    all_goals (first | rfl | (simp (disch := first | omega | (simp only [add_nx, upd_nx] <;> omega) | decide) only [rUz, ↓reduceIte, Nat.reduceEqDiff, Nat.reduceAdd, t0, t1, t5, t6, t7]; done) | (simp (disch := first | omega | (simp only [add_nx, upd_nx] <;> omega) | decide) only [rUz, ↓reduceIte, Nat.reduceEqDiff, Nat.reduceAdd, t0, t1, t5, t6, t7]; rfl))
  clear t6 t7 t0 t1 t5 o6 o7 hkp
  clear t h
  intro k t h ⟨hkp, o6, o7, t0, t1, t5, t6, t7, t19, t20, t21, hk⟩ K' hn he
  repeat refine S.seq ?_
  refine S.region ?_
  simp (disch := first | omega | (simp only [add_nx, upd_nx] <;> omega) | decide) only [rUz, ↓reduceIte, Nat.reduceEqDiff, Nat.reduceAdd, t20, t21]
  repeat refine S.seq ?_
  refine S.cond (v := decide ((k : Int) < (cs.length : Int))) (by first | rfl | (simp (disch := first | omega | (simp only [add_nx, upd_nx] <;> omega) | decide) only [rUz, ↓reduceIte, Nat.reduceEqDiff, Nat.reduceAdd] <;> rfl)) (fun e => ?_) (fun e => ?_)
  · have hkn : k < cs.length := by have := of_decide_eq_true e; omega
    obtain ⟨b1, f1, w1, q1, q2, q3, q4⟩ := (hc.mono hkp).idx slI s3' hkn
    obtain ⟨⟨m1, m2⟩, m3, m4⟩ := amts_bnd ha hm hkn
    have e6 := fillK_set (base cs sum (sumL cs)) (k := k) (by omega)
    have e7 := fillK_set (rest cs sum (sumL cs)) (k := k) (by omega)
    have g6 : (base cs sum (sumL cs))[k]'(by omega) = (cs[k] * sum).tdiv (sumL cs) := by simp [base]
    have g7 : (rest cs sum (sumL cs))[k]'(by omega) = (cs[k] * sum).tmod (sumL cs) := by simp [rest]
    rw [g6] at e6
    rw [g7] at e7
    have l6 := fillK_len (base cs sum (sumL cs)) (k := k) (by omega)
    have l7 := fillK_len (rest cs sum (sumL cs)) (k := k) (by omega)
    clear g6 g7
    generalize cs[k] = a at q4 m1 m2 m3 m4 e6 e7
    generalize hD : a * sum = D at m1 m2 m3 m4 e6 e7
    have hD2 : D ≤ 40000000000 := by omega
    generalize fillK (base cs sum (sumL cs)) k = L6 at o6 e6 l6
    generalize fillK (rest cs sum (sumL cs)) k = L7 at o7 e7 l7
    have i6 : ∀ q, rIndexAddr Try.prog 22 (.slice (some ⟨B6, 0, none⟩) cs.length q) (iv (k : Int)) = some (.pointer (some ⟨B6, k, none⟩)) := fun q => by rw [indexAddr_sl slI s3' hkn, Nat.zero_add, Nat.mul_one]
    have i7 : ∀ q, rIndexAddr Try.prog 22 (.slice (some ⟨B7, 0, none⟩) cs.length q) (iv (k : Int)) = some (.pointer (some ⟨B7, k, none⟩)) := fun q => by rw [indexAddr_sl slI s3' hkn, Nat.zero_add, Nat.mul_one]
    have hl6 : k < (L6.map iv).length := by rw [List.length_map]; omega
    have hl7 : k < (L7.map iv).length := by rw [List.length_map]; omega
    have s6 : (L6.map iv).set k (iv (D.tdiv (sumL cs))) = ((fillK (base cs sum (sumL cs)) (k + 1))).map iv := by rw [← e6, List.map_set]
    have s7 : (L7.map iv).set k (iv (D.tmod (sumL cs))) = ((fillK (rest cs sum (sumL cs)) (k + 1))).map iv := by rw [← e7, List.map_set]
    repeat refine S.seq ?_
    refine S.skip ?_
    simp (disch := first | omega | (simp only [add_nx, upd_nx] <;> omega) | decide) only [rUz, ↓reduceIte, Nat.reduceEqDiff, Nat.reduceAdd]
    repeat refine S.seq ?_
    refine S.block ?_
    repeat refine S.seq ?_
    refine S.region ?_
    simp (disch := first | omega | (simp only [add_nx, upd_nx] <;> omega) | decide) only [rUz, ↓reduceIte, Nat.reduceEqDiff, Nat.reduceAdd, t19, t21, q1, q3, p3, q4]
    repeat refine S.seq ?_
    refine S.region ?_
    simp (disch := first | omega | (simp only [add_nx, upd_nx] <;> omega) | decide) only [rUz, ↓reduceIte, Nat.reduceEqDiff, Nat.reduceAdd, t1, t5, t6, hD]
    refine optR_of' (bin_quo (i := D) (j := sumL cs) (by simp (disch := first | omega | (simp only [add_nx, upd_nx] <;> omega) | decide) only [rUz, ↓reduceIte, Nat.reduceEqDiff, Nat.reduceAdd]) (by simp (disch := first | omega | (simp only [add_nx, upd_nx] <;> omega) | decide) only [rUz, ↓reduceIte, Nat.reduceEqDiff, Nat.reduceAdd]) (by omega) (by omega) (by omega)) ?_
    simp (disch := first | omega | (simp only [add_nx, upd_nx] <;> omega) | decide) only [rUz, ↓reduceIte, Nat.reduceEqDiff, Nat.reduceAdd, i6]
    refine wr_store s3' ?_
    simp (disch := first | omega | (simp only [add_nx, upd_nx] <;> omega) | decide) only [rUz, ↓reduceIte, Nat.reduceEqDiff, Nat.reduceAdd, o6.2.1, o6.2.2, hl6]
    rw [s6]
    have p6 : Own (h.upd B6 ((fillK (base cs sum (sumL cs)) (k + 1)).map iv) B6) B6 (fillK (base cs sum (sumL cs)) (k + 1)) := ⟨o6.1, upd_eq _ _ _, o6.2.2⟩
    have p7 : Own (h.upd B6 ((fillK (base cs sum (sumL cs)) (k + 1)).map iv) B6) B7 L7 := ⟨o7.1, by rw [upd_ne _ _ _ (by omega)]; exact o7.2.1, o7.2.2⟩
    have hkp1 : Kp g (h.upd B6 ((fillK (base cs sum (sumL cs)) (k + 1)).map iv) B6) := hkp.upd hB6
    generalize h.upd B6 ((fillK (base cs sum (sumL cs)) (k + 1)).map iv) B6 = h1 at p6 p7 hkp1 ⊢
    repeat refine S.seq ?_
    refine S.region ?_
    simp (disch := first | omega | (simp only [add_nx, upd_nx] <;> omega) | decide) only [rUz, ↓reduceIte, Nat.reduceEqDiff, Nat.reduceAdd, t1, t5, t7, hD]
    refine optR_of' (bin_rem (i := D) (j := sumL cs) (by simp (disch := first | omega | (simp only [add_nx, upd_nx] <;> omega) | decide) only [rUz, ↓reduceIte, Nat.reduceEqDiff, Nat.reduceAdd]) (by simp (disch := first | omega | (simp only [add_nx, upd_nx] <;> omega) | decide) only [rUz, ↓reduceIte, Nat.reduceEqDiff, Nat.reduceAdd]) (by omega)) ?_
    simp (disch := first | omega | (simp only [add_nx, upd_nx] <;> omega) | decide) only [rUz, ↓reduceIte, Nat.reduceEqDiff, Nat.reduceAdd, i7]
    refine wr_store s3' ?_
    simp (disch := first | omega | (simp only [add_nx, upd_nx] <;> omega) | decide) only [rUz, ↓reduceIte, Nat.reduceEqDiff, Nat.reduceAdd, p7.2.1, p7.2.2, hl7]
    rw [s7]
    have r7 : Own (h1.upd B7 ((fillK (rest cs sum (sumL cs)) (k + 1)).map iv) B7) B7 (fillK (rest cs sum (sumL cs)) (k + 1)) := ⟨p7.1, upd_eq _ _ _, p7.2.2⟩
    have r6 : Own (h1.upd B7 ((fillK (rest cs sum (sumL cs)) (k + 1)).map iv) B7) B6 (fillK (base cs sum (sumL cs)) (k + 1)) := ⟨p6.1, by rw [upd_ne _ _ _ (by omega)]; exact p6.2.1, p6.2.2⟩
    have hkp2 : Kp g (h1.upd B7 ((fillK (rest cs sum (sumL cs)) (k + 1)).map iv) B7) := hkp1.upd hB7
    generalize h1.upd B7 ((fillK (rest cs sum (sumL cs)) (k + 1)).map iv) B7 = h2 at r6 r7 hkp2 ⊢
    repeat refine S.seq ?_
    refine S.region ?_
    simp (disch := first | omega | (simp only [add_nx, upd_nx] <;> omega) | decide) only [rUz, ↓reduceIte, Nat.reduceEqDiff, Nat.reduceAdd, t21]
    refine hn (k + 1) _ _ (by omega) ⟨hkp2, r6, r7, ?_, ?_, ?_, ?_, ?_, ?_, ?_, ?_, by omega⟩
    all_goals (first | rfl | (simp (disch := first | omega | (simp only [add_nx, upd_nx] <;> omega) | decide) only [rUz, ↓reduceIte, Nat.reduceEqDiff, Nat.reduceAdd, t0, t1, t5, t6, t7, t19, t20]; done) | (simp (disch := first | omega | (simp only [add_nx, upd_nx] <;> omega) | decide) only [rUz, ↓reduceIte, Nat.reduceEqDiff, Nat.reduceAdd, t0, t1, t5, t6, t7, t19, t20]; rfl))
  have hkn : k = cs.length := by have := of_decide_eq_false e; omega
  subst hkn
  rw [← lb, fillK_full] at o6
  rw [← lr, fillK_full] at o7
  refine S.exit (he _ _ _ _ (fun e => by cases e) ?_)
  simp (disch := first | omega | (simp only [add_nx, upd_nx] <;> omega) | decide) only [rUz, ↓reduceIte, Nat.reduceEqDiff, Nat.reduceAdd]
  clear hn he K' e
  have hbb : ∀ x, x ∈ base cs sum (sumL cs) → 0 ≤ x ∧ x ≤ 1000000 := fun x hx => by
    obtain ⟨i, hi, rfl⟩ := List.mem_iff_getElem.1 hx
    have hi' : i < cs.length := by omega
    obtain ⟨_, m3, m4⟩ := amts_bnd ha hm hi'
    have : (base cs sum (sumL cs))[i] = (cs[i] * sum).tdiv (sumL cs) := by simp [base]
    omega
  have hleft := left_nn ha
  have hbs := sumL_bnd (by omega) hbb
  have hlc : ((base cs sum (sumL cs)).length : Int) ≤ 4 := by omega
  repeat refine S.seq ?_
  refine S.region ?_
  simp (disch := first | omega | (simp only [add_nx, upd_nx] <;> omega) | decide) only [rUz, ↓reduceIte, Nat.reduceEqDiff, Nat.reduceAdd, t1, t6]
  refine wr_brings (fid := 34) (first := #[]) (captured := #[]) (Post := fun u h' => u = iv (sumL (base cs sum (sumL cs))) ∧ h' = h) rfl (hoff _ _ _ rfl) (by simp (disch := first | omega | (simp only [add_nx, upd_nx] <;> omega) | decide) only [rUz, ↓reduceIte, Nat.reduceEqDiff, Nat.reduceAdd]; exact total_y S h _ _ (o6.at' lb.symm) (by omega) hbb) ?_
  rintro u g2 - ⟨rfl, rfl⟩
  simp (disch := first | omega | (simp only [add_nx, upd_nx] <;> omega) | decide) only [rUz, ↓reduceIte, Nat.reduceEqDiff, Nat.reduceAdd]
  rw [← hleft]
  repeat refine S.seq ?_
  refine S.block ?_
  refine S.loop (ι := Nat) (IPr cs sum g B6 B7) (fun k => leftN cs sum - k) ?_ 0 _ _ ?_
  rotate_left
  · refine ⟨hkp, ⟨_, _, invR_start ha, o6, o7, rfl⟩, ?_, ?_, ?_, ?_⟩
    all_goals (first | rfl | (simp (disch := first | omega | (simp only [add_nx, upd_nx] <;> omega) | decide) only [rUz, ↓reduceIte, Nat.reduceEqDiff, Nat.reduceAdd, t6, t7]; done) | (simp (disch := first | omega | (simp only [add_nx, upd_nx] <;> omega) | decide) only [rUz, ↓reduceIte, Nat.reduceEqDiff, Nat.reduceAdd, t6, t7]; rfl))
  clear t0 t1 t5 t6 t7 t19 t20 t21 o6 o7 hkp hk
  clear t g2
  intro k t h ⟨hkp, ⟨x, s, hI, o6, o7, hr⟩, t6, t7, t46, t47⟩ K' hn he
  have hle := hI.le
  repeat refine S.seq ?_
  refine S.region ?_
  simp (disch := first | omega | (simp only [add_nx, upd_nx] <;> omega) | decide) only [rUz, ↓reduceIte, Nat.reduceEqDiff, Nat.reduceAdd, t46, t47]
  repeat refine S.seq ?_
  refine S.cond (v := decide ((k : Int) < (leftN cs sum : Int))) (by first | rfl | (simp (disch := first | omega | (simp only [add_nx, upd_nx] <;> omega) | decide) only [rUz, ↓reduceIte, Nat.reduceEqDiff, Nat.reduceAdd] <;> rfl)) (fun e => ?_) (fun e => ?_)
  · have hkn : k < leftN cs sum := by have := of_decide_eq_true e; omega
    obtain ⟨j1, j2, j3, hI2⟩ := invR_round hI hkn hT
    rw [lb] at j1
    have hx1 := hI.l1
    have hx2 := hI.l2
    rw [lb] at hx1 hx2
    have hrd : round x = (x.1.set (great x.2) (x.1.getD (great x.2) 0 + 1), x.2.set (great x.2) 0) := rfl
    have hr2 : rounds (leftN cs sum - (k + 1)) (round x) = rounds (leftN cs sum) (base cs sum (sumL cs), rest cs sum (sumL cs)) := by
      rw [← hr, show leftN cs sum - k = (leftN cs sum - (k + 1)) + 1 by omega]; rfl
    have hb1 : 0 ≤ x.1.getD (great x.2) 0 ∧ x.1.getD (great x.2) 0 ≤ 2000000 := by
      rw [hI.g1 _ (by omega), j3, cond_false, Int.add_zero, List.getD_eq_getElem?_getD, List.getElem?_eq_getElem (by omega)]
      have := hbb (base cs sum (sumL cs))[great x.2] (List.getElem_mem _)
      show 0 ≤ (base cs sum (sumL cs))[great x.2] ∧ (base cs sum (sumL cs))[great x.2] ≤ _
      omega
    have hgx : (x.1.map iv)[great x.2]? = some (iv (x.1.getD (great x.2) 0)) := by
      rw [List.getElem?_map, List.getD_eq_getElem?_getD, List.getElem?_eq_getElem (by omega)]; rfl
    repeat refine S.seq ?_
    refine S.skip ?_
    simp (disch := first | omega | (simp only [add_nx, upd_nx] <;> omega) | decide) only [rUz, ↓reduceIte, Nat.reduceEqDiff, Nat.reduceAdd]
    repeat refine S.seq ?_
    refine S.block ?_
    repeat refine S.seq ?_
    refine S.region ?_
    simp (disch := first | omega | (simp only [add_nx, upd_nx] <;> omega) | decide) only [rUz, ↓reduceIte, Nat.reduceEqDiff, Nat.reduceAdd, t7]
    refine wr_brings (fid := 67) (first := #[]) (captured := #[]) (Post := fun u h' => u = iv (great x.2 : Int) ∧ h' = h) rfl (hoff _ _ _ rfl) (by simp (disch := first | omega | (simp only [add_nx, upd_nx] <;> omega) | decide) only [rUz, ↓reduceIte, Nat.reduceEqDiff, Nat.reduceAdd]; exact great_y S h _ x.2 (o7.at' hx2.symm) (by omega)) ?_
    rintro u g2 - ⟨rfl, rfl⟩
    generalize great x.2 = j at j1 hgx hb1 hrd
    have i6 : ∀ q, rIndexAddr Try.prog 22 (.slice (some ⟨B6, 0, none⟩) cs.length q) (iv (j : Int)) = some (.pointer (some ⟨B6, j, none⟩)) := fun q => by rw [indexAddr_sl slI s3' j1, Nat.zero_add, Nat.mul_one]
    have i7 : ∀ q, rIndexAddr Try.prog 22 (.slice (some ⟨B7, 0, none⟩) cs.length q) (iv (j : Int)) = some (.pointer (some ⟨B7, j, none⟩)) := fun q => by rw [indexAddr_sl slI s3' j1, Nat.zero_add, Nat.mul_one]
    have hl6 : j < (x.1.map iv).length := by rw [List.length_map]; omega
    have hl7 : j < (x.2.map iv).length := by rw [List.length_map]; omega
    have s6 : (x.1.map iv).set j (iv (x.1.getD j 0 + 1)) = (round x).1.map iv := by rw [hrd, List.map_set]
    have s7 : (x.2.map iv).set j (iv 0) = (round x).2.map iv := by rw [hrd, List.map_set]
    simp (disch := first | omega | (simp only [add_nx, upd_nx] <;> omega) | decide) only [rUz, ↓reduceIte, Nat.reduceEqDiff, Nat.reduceAdd]
    repeat refine S.seq ?_
    refine S.region ?_
    simp (disch := first | omega | (simp only [add_nx, upd_nx] <;> omega) | decide) only [rUz, ↓reduceIte, Nat.reduceEqDiff, Nat.reduceAdd, t6, i6, o6.2.1, p3, hgx]
    refine wr_store s3' ?_
    simp (disch := first | omega | (simp only [add_nx, upd_nx] <;> omega) | decide) only [rUz, ↓reduceIte, Nat.reduceEqDiff, Nat.reduceAdd, o6.2.1, o6.2.2, hl6]
    rw [s6]
    have p6 : Own (g2.upd B6 ((round x).1.map iv) B6) B6 (round x).1 := ⟨o6.1, upd_eq _ _ _, o6.2.2⟩
    have p7 : Own (g2.upd B6 ((round x).1.map iv) B6) B7 x.2 := ⟨o7.1, by rw [upd_ne _ _ _ (by omega)]; exact o7.2.1, o7.2.2⟩
    have hkp1 : Kp g (g2.upd B6 ((round x).1.map iv) B6) := hkp.upd hB6
    generalize g2.upd B6 ((round x).1.map iv) B6 = h1 at p6 p7 hkp1 ⊢
    repeat refine S.seq ?_
    refine S.region ?_
    simp (disch := first | omega | (simp only [add_nx, upd_nx] <;> omega) | decide) only [rUz, ↓reduceIte, Nat.reduceEqDiff, Nat.reduceAdd, t7, i7]
    refine wr_store s3' ?_
    simp (disch := first | omega | (simp only [add_nx, upd_nx] <;> omega) | decide) only [rUz, ↓reduceIte, Nat.reduceEqDiff, Nat.reduceAdd, p7.2.1, p7.2.2, hl7]
    rw [s7]
    have r7 : Own (h1.upd B7 ((round x).2.map iv) B7) B7 (round x).2 := ⟨p7.1, upd_eq _ _ _, p7.2.2⟩
    have r6 : Own (h1.upd B7 ((round x).2.map iv) B7) B6 (round x).1 := ⟨p6.1, by rw [upd_ne _ _ _ (by omega)]; exact p6.2.1, p6.2.2⟩
    have hkp2 : Kp g (h1.upd B7 ((round x).2.map iv) B7) := hkp1.upd hB7
    generalize h1.upd B7 ((round x).2.map iv) B7 = h2 at r6 r7 hkp2 ⊢
    repeat refine S.seq ?_
    refine S.region ?_
    simp (disch := first | omega | (simp only [add_nx, upd_nx] <;> omega) | decide) only [rUz, ↓reduceIte, Nat.reduceEqDiff, Nat.reduceAdd, t47]
    refine hn (k + 1) _ _ (by omega) ⟨hkp2, ⟨_, _, hI2, r6, r7, hr2⟩, ?_, ?_, ?_, ?_⟩
    all_goals (first | rfl | (simp (disch := first | omega | (simp only [add_nx, upd_nx] <;> omega) | decide) only [rUz, ↓reduceIte, Nat.reduceEqDiff, Nat.reduceAdd, t6, t7, t46]; done) | (simp (disch := first | omega | (simp only [add_nx, upd_nx] <;> omega) | decide) only [rUz, ↓reduceIte, Nat.reduceEqDiff, Nat.reduceAdd, t6, t7, t46]; rfl))
  have hkn : k = leftN cs sum := by have := of_decide_eq_false e; omega
  subst hkn
  rw [Nat.sub_self] at hr
  refine S.exit (he _ _ _ _ (fun e => by cases e) ?_)
  simp (disch := first | omega | (simp only [add_nx, upd_nx] <;> omega) | decide) only [rUz, ↓reduceIte, Nat.reduceEqDiff, Nat.reduceAdd]
  repeat refine S.seq ?_
  refine S.region ?_
  simp (disch := first | omega | (simp only [add_nx, upd_nx] <;> omega) | decide) only [rUz, ↓reduceIte, Nat.reduceEqDiff, Nat.reduceAdd, t6]
  refine S.ret ?_
  try simp only [seqK_ret, blockK_ret]
  subst hF
  simp only [finish, endMarks]
  rw [show Try.f35.results.toList = [.tmp 4] from rfl]
  simp (disch := first | omega | (simp only [add_nx, upd_nx] <;> omega) | decide) only [resA, ev_tmp, tget_ne, tget_eq, get_ne, get_eq, upd_eq, upd_ne, ag_eq, ag_ne, result1]
  refine hK _ _ hkp ⟨B6, rfl, hB6, ?_⟩
  have : partsP cs sum = x.1 := by unfold partsP; rw [← hr]; rfl
  rw [this]; exact o6
end Go.Proofs.Mg
