import Derived.Test.YtllabiheedejoaaGreatPo7
/- The opening price, by the program. -/
namespace Go.Proofs.Po
open Go Go.Ev Go.RowKit
set_option linter.unusedSimpArgs false
variable {pr : Prim} {R : ExT}
def offZ (O : List Od) (p : Int) : I3 := (p, buysZ O p, sellsZ O p)
def offK (O : List Od) (p : Int) (k : Nat) : I3 := (p, sumO (buyN p) (O.take k), sumO (sellN p) (O.take k))
structure IOf (p : Int) (O : List Od) (H : AHeap) (B4 B5 : Nat) (v : Value) (k : Nat) (t : T Value) (h : AHeap) : Prop where
  hk : k ≤ O.length
  fr : Fr H B5 h
  t1 : tget t 1 = iv p
  t4 : tget t 4 = ptr0 B4
  t5 : tget t 5 = ptr0 B5
  t11 : tget t 11 = v
  t12 : tget t 12 = iv (O.length : Int)
  t13 : tget t 13 = iv (k : Int)
  b5 : h.bl.get B5 = some (.cells (c3 (offK O p k)) B5 false)
theorem off_skip {O : List Od} {p : Int} {k : Nat} {x : Od} (h : O[k]? = some x) (hx : isAtB x p = false) : offK O p (k + 1) = offK O p k := by
  unfold offK
  rw [sumO_take _ _ _ h, sumO_take _ _ _ h]
  unfold isAtB at hx
  unfold buyN sellN
  cases hb : x.b with
  | true => rw [hb, cond_true] at hx; simp [hx]
  | false => rw [hb, cond_false] at hx; simp [hx]
theorem off_buy {O : List Od} {p : Int} {k : Nat} {x : Od} (h : O[k]? = some x) (hx : isAtB x p = true) (hb : x.b = true) : offK O p (k + 1) = (p, sumO (buyN p) (O.take k) + x.n, sumO (sellN p) (O.take k)) := by
  unfold offK
  rw [sumO_take _ _ _ h, sumO_take _ _ _ h]
  unfold isAtB at hx
  rw [hb, cond_true] at hx
  unfold buyN sellN
  simp [hx, hb]
theorem off_sell {O : List Od} {p : Int} {k : Nat} {x : Od} (h : O[k]? = some x) (hx : isAtB x p = true) (hb : x.b = false) : offK O p (k + 1) = (p, sumO (buyN p) (O.take k), sumO (sellN p) (O.take k) + x.n) := by
  unfold offK
  rw [sumO_take _ _ _ h, sumO_take _ _ _ h]
  unfold isAtB at hx
  rw [hb, cond_false] at hx
  unfold buyN sellN
  simp [hx, hb]
set_option maxHeartbeats 16000000 in
theorem offer_y (S : Ev.Steps Tryz.prog pr R) (hoff : Off pr) (h0 : AHeap) (v : Value) (O : List Od) (p : Int) (hb : PoAt h0 v O) (hv : Val O) :
    Brings Tryz.prog R 71 [.agg ⟨poV v⟩, iv p] h0 fun u _ => u = .agg ⟨c3 (offZ O p)⟩ := by
  refine brings_of (fn := Tryz.f71) (c := (Tryz.f71.body).getD .skip) (by kernel_rfl) rfl (by kernel_rfl) rfl (fun K hK => ?_)
  generalize hF : finish Tryz.prog Tryz.f71 K = KF
  simp only [Tryz.f71, Option.getD_some, argsT, setArgs, fV1_eq, T.setK_eq, id]
  have h6 := hv.l6
  have lO := fun t h1 o => row_len hb iscO t h1 o
  repeat refine S.seq ?_
  refine S.region ?_
  simp (disch := first | omega | (simp only [add_nx, upd_nx] <;> omega) | decide) only [rUz, ↓reduceIte, Nat.reduceEqDiff, Nat.reduceAdd, wr_alloc zF]
  obtain ⟨B2, hB2⟩ : ∃ x, x = h0.nx := ⟨_, rfl⟩
  obtain ⟨B4, hB4⟩ : ∃ x, x = h0.nx + 1 := ⟨_, rfl⟩
  have hb2 : ((h0.add (poV v)).add [iv 0, iv 0, iv 0]).bl.get B2 = some (.cells (poV v) B2 false) := by rw [ag_ne (by show B2 ≠ h0.nx + 1; omega)]; subst hB2; exact ag_eq rfl
  have hb4 : ((h0.add (poV v)).add [iv 0, iv 0, iv 0]).bl.get B4 = some (.cells [iv 0, iv 0, iv 0] B4 false) := by subst hB4; exact ag_eq rfl
  have hf4 : ((h0.add (poV v)).add [iv 0, iv 0, iv 0]).fams.get B4 = some [B4] := by subst hB4; exact af_eq rfl
  have hk1 : Kp h0 ((h0.add (poV v)).add [iv 0, iv 0, iv 0]) := Kp.refl.add.add
  have hn2 : B2 < ((h0.add (poV v)).add [iv 0, iv 0, iv 0]).nx := by show B2 < h0.nx + 2; omega
  have hn4 : B4 < ((h0.add (poV v)).add [iv 0, iv 0, iv 0]).nx := by show B4 < h0.nx + 2; omega
  have hB24 : B2 ≠ B4 := by omega
  have ho4 : h0.nx ≤ B4 := by omega
  rw [← hB4, ← hB2]
  clear hB2 hB4
  generalize (h0.add (poV v)).add [iv 0, iv 0, iv 0] = G at hb2 hb4 hf4 hk1 hn2 hn4 ⊢
  repeat refine S.seq ?_
  refine S.region ?_
  simp (disch := first | omega | (simp only [add_nx, upd_nx] <;> omega) | decide) only [rUz, ↓reduceIte, Nat.reduceEqDiff, Nat.reduceAdd, rd_build, List.map_cons, List.map_nil, bF0, wr_alloc zF]
  refine wr_storeN (B := G.nx) (c := [iv 0, iv 0, iv 0]) (fam := G.nx) (k := G.nx) (l := c3 (offK O p 0)) (by simp (disch := first | omega | (simp only [add_nx, upd_nx] <;> omega) | decide) only [rUz, ↓reduceIte, Nat.reduceEqDiff, Nat.reduceAdd]) (by simp (disch := first | omega | (simp only [add_nx, upd_nx] <;> omega) | decide) only [rUz, ↓reduceIte, Nat.reduceEqDiff, Nat.reduceAdd]; rfl) sF (by omega) rfl (ag_eq rfl) (af_eq rfl) rfl ?_
  obtain ⟨B5, hB5⟩ : ∃ x, x = G.nx := ⟨_, rfl⟩
  have hkG : Kp G ((G.add [iv 0, iv 0, iv 0]).upd G.nx (c3 (offK O p 0)) G.nx) := Kp.refl.add.upd (Nat.le_refl _)
  have hb5 : ((G.add [iv 0, iv 0, iv 0]).upd G.nx (c3 (offK O p 0)) G.nx).bl.get B5 = some (.cells (c3 (offK O p 0)) B5 false) := by subst hB5; exact upd_eq _ _ _
  have hf5 : ((G.add [iv 0, iv 0, iv 0]).upd G.nx (c3 (offK O p 0)) G.nx).fams.get B5 = some [B5] := by subst hB5; rw [upd_fams]; exact af_eq rfl
  have hn5 : B5 < ((G.add [iv 0, iv 0, iv 0]).upd G.nx (c3 (offK O p 0)) G.nx).nx := by subst hB5; exact Nat.lt_succ_self _
  simp (disch := first | omega | (simp only [add_nx, upd_nx] <;> omega) | decide) only [rUz, ↓reduceIte, Nat.reduceEqDiff, Nat.reduceAdd]
  rw [← hB5]
  rw [← hB5] at hkG hb5 hf5 hn5
  generalize (G.add [iv 0, iv 0, iv 0]).upd B5 (c3 (offK O p 0)) B5 = H at hkG hb5 hf5 hn5 ⊢
  replace hb2 := (hkG.get hn2).trans hb2
  replace hb4 := (hkG.get hn4).trans hb4
  replace hf4 := (hkG.fget hn4).trans hf4
  replace hk1 := hk1.trans hkG
  have hB45 : B4 < B5 := by omega
  have hB25 : B2 < B5 := by omega
  clear hkG hn2 hn4 hB5
  clear G
  repeat refine S.seq ?_
  refine S.region ?_
  simp (disch := first | omega | (simp only [add_nx, upd_nx] <;> omega) | decide) only [rUz, ↓reduceIte, Nat.reduceEqDiff, Nat.reduceAdd, hb2, fieldAddr_ptr fB0 lcO, qcO, po0, lO]
  repeat refine S.seq ?_
  refine S.block ?_
  refine S.loop (ι := Nat) (IOf p O H B4 B5 v) (fun k => O.length - k) ?_ 0 _ _ ?_
  rotate_left
  · refine ⟨Nat.zero_le _, Fr.refl, ?_, ?_, ?_, ?_, ?_, ?_, hb5⟩
    all_goals (first | rfl | (simp (disch := first | omega | (simp only [add_nx, upd_nx] <;> omega) | decide) only [rUz, ↓reduceIte, Nat.reduceEqDiff, Nat.reduceAdd]; done) | (simp (disch := first | omega | (simp only [add_nx, upd_nx] <;> omega) | decide) only [rUz, ↓reduceIte, Nat.reduceEqDiff, Nat.reduceAdd]; rfl))
  clear hb5
  intro k t h ⟨hk, fr, t1, t4, t5, t11, t12, t13, b5⟩ K' hn he
  have hle := fr.le
  have hkp := fr.toKp hk1 (by omega)
  have hf5h := (fr.fam B5 hn5).trans hf5
  repeat refine S.seq ?_
  refine S.region ?_
  simp (disch := first | omega | (simp only [add_nx, upd_nx] <;> omega) | decide) only [rUz, ↓reduceIte, Nat.reduceEqDiff, Nat.reduceAdd, t12, t13]
  repeat refine S.seq ?_
  refine S.cond (v := decide ((k : Int) < (O.length : Int))) (by first | rfl | (simp (disch := first | omega | (simp only [add_nx, upd_nx] <;> omega) | decide) only [rUz, ↓reduceIte, Nat.reduceEqDiff, Nat.reduceAdd] <;> rfl)) (fun e => ?_) (fun e => ?_)
  · have hkn : k < O.length := by have := of_decide_eq_true e; omega
    clear e
    have hps : O[k]? = some O[k] := List.getElem?_eq_getElem hkn
    have hxv := hv.ok _ (List.getElem_mem hkn)
    generalize O[k] = x at hps hxv
    obtain ⟨b, f, ro, cells, q1, q2, q3, q4, q5, _⟩ := row_idx (hb.mono hkp) slcO scO hps
    have qp := part_at pcO q4 q5
    repeat refine S.seq ?_
    refine S.skip ?_
    simp (disch := first | omega | (simp only [add_nx, upd_nx] <;> omega) | decide) only [rUz, ↓reduceIte, Nat.reduceEqDiff, Nat.reduceAdd]
    repeat refine S.seq ?_
    refine S.block ?_
    repeat refine S.seq ?_
    refine S.region ?_
    simp (disch := first | omega | (simp only [add_nx, upd_nx] <;> omega) | decide) only [rUz, ↓reduceIte, Nat.reduceEqDiff, Nat.reduceAdd, t11, t13, q1, q3, qp, wr_alloc zcO]
    refine wr_storeN (B := h.nx) (c := [.bool false, iv 0, iv 0, iv 0, iv 0]) (fam := h.nx) (k := h.nx) (l := cOd x) (by simp (disch := first | omega | (simp only [add_nx, upd_nx] <;> omega) | decide) only [rUz, ↓reduceIte, Nat.reduceEqDiff, Nat.reduceAdd]) (by simp (disch := first | omega | (simp only [add_nx, upd_nx] <;> omega) | decide) only [rUz, ↓reduceIte, Nat.reduceEqDiff, Nat.reduceAdd]) scO (by omega) rfl (ag_eq rfl) (af_eq rfl) rfl ?_
    have hk4 : Kp h ((h.add [.bool false, iv 0, iv 0, iv 0, iv 0]).upd h.nx (cOd x) h.nx) := Kp.refl.add.upd (Nat.le_refl _)
    have hg4 : ((h.add [.bool false, iv 0, iv 0, iv 0, iv 0]).upd h.nx (cOd x) h.nx).bl.get h.nx = some (.cells (cOd x) h.nx false) := upd_eq _ _ _
    have hn7 : h.nx < ((h.add [.bool false, iv 0, iv 0, iv 0, iv 0]).upd h.nx (cOd x) h.nx).nx := Nat.lt_succ_self _
    simp (disch := first | omega | (simp only [add_nx, upd_nx] <;> omega) | decide) only [rUz, ↓reduceIte, Nat.reduceEqDiff, Nat.reduceAdd]
    generalize (h.add [.bool false, iv 0, iv 0, iv 0, iv 0]).upd h.nx (cOd x) h.nx = h4 at hk4 hg4 hn7 ⊢
    obtain ⟨B7, hB7⟩ : ∃ x, x = h.nx := ⟨_, rfl⟩
    rw [← hB7] at hg4 hn7 ⊢
    clear q1 q2 q3 q4 q5 qp
    repeat refine S.seq ?_
    refine S.region ?_
    simp (disch := first | omega | (simp only [add_nx, upd_nx] <;> omega) | decide) only [rUz, ↓reduceIte, Nat.reduceEqDiff, Nat.reduceAdd, t1, hg4, part_0 pcO (cOd_len x)]
    refine wr_brings (fid := 93) (first := #[]) (captured := #[]) (Post := fun u h => u = .bool (isAtB x p) ∧ h = h4.add (cOd x)) rfl (hoff _ _ _ rfl) (by simp (disch := first | omega | (simp only [add_nx, upd_nx] <;> omega) | decide) only [rUz, ↓reduceIte, Nat.reduceEqDiff, Nat.reduceAdd]; exact isAt_y S h4 x p) ?_
    rintro u g - ⟨rfl, hg⟩
    have hk5 : Kp h g := by subst hg; exact hk4.add
    have hg5 : g.bl.get B7 = some (.cells (cOd x) B7 false) := by subst hg; rw [ag_ne (by omega)]; exact hg4
    have b5g := (hk5.get (by omega : B5 < h.nx)).trans b5
    have f5g := (hk5.fget (by omega : B5 < h.nx)).trans hf5h
    clear hg hk4 hg4 hn7
    have frg := fr.kp hk5
    clear hk5 hB7 b5 hf5h fr hle hkp
    clear h h4
    cases hat : isAtB x p with
    | false =>
      have hnext := off_skip hps hat
      simp (disch := first | omega | (simp only [add_nx, upd_nx] <;> omega) | decide) only [rUz, ↓reduceIte, Nat.reduceEqDiff, Nat.reduceAdd, un_not, hat, Bool.not_false]
      repeat refine S.seq ?_
      refine S.cond (v := true) (by first | rfl | (simp (disch := first | omega | (simp only [add_nx, upd_nx] <;> omega) | decide) only [rUz, ↓reduceIte, Nat.reduceEqDiff, Nat.reduceAdd] <;> rfl)) (fun _ => ?_) (fun e => by cases e)
      refine S.exit ?_
      simp (disch := first | omega | (simp only [add_nx, upd_nx] <;> omega) | decide) only [rUz, ↓reduceIte, Nat.reduceEqDiff, Nat.reduceAdd]
      repeat refine S.seq ?_
      refine S.region ?_
      simp (disch := first | omega | (simp only [add_nx, upd_nx] <;> omega) | decide) only [rUz, ↓reduceIte, Nat.reduceEqDiff, Nat.reduceAdd, t13]
      refine hn (k + 1) _ _ (by omega) ⟨by omega, frg, ?_, ?_, ?_, ?_, ?_, ?_, by rw [hnext]; exact b5g⟩
      all_goals (first | rfl | (simp (disch := first | omega | (simp only [add_nx, upd_nx] <;> omega) | decide) only [rUz, ↓reduceIte, Nat.reduceEqDiff, Nat.reduceAdd, t1, t4, t5, t11, t12]; done) | (simp (disch := first | omega | (simp only [add_nx, upd_nx] <;> omega) | decide) only [rUz, ↓reduceIte, Nat.reduceEqDiff, Nat.reduceAdd, t1, t4, t5, t11, t12]; rfl))
    | true =>
    simp (disch := first | omega | (simp only [add_nx, upd_nx] <;> omega) | decide) only [rUz, ↓reduceIte, Nat.reduceEqDiff, Nat.reduceAdd, un_not, hat, Bool.not_true]
    repeat refine S.seq ?_
    refine S.cond (v := false) (by first | rfl | (simp (disch := first | omega | (simp only [add_nx, upd_nx] <;> omega) | decide) only [rUz, ↓reduceIte, Nat.reduceEqDiff, Nat.reduceAdd] <;> rfl)) (fun e => by cases e) (fun _ => ?_)
    repeat refine S.seq ?_
    refine S.skip ?_
    simp (disch := first | omega | (simp only [add_nx, upd_nx] <;> omega) | decide) only [rUz, ↓reduceIte, Nat.reduceEqDiff, Nat.reduceAdd]
    have bb := buys_bnd hv p k
    have sb' := sells_bnd hv p k
    have n1 := hxv.n1
    have n2 := hxv.n2
    repeat refine S.seq ?_
    refine S.region ?_
    simp (disch := first | omega | (simp only [add_nx, upd_nx] <;> omega) | decide) only [rUz, ↓reduceIte, Nat.reduceEqDiff, Nat.reduceAdd, hg5, fieldAddr_ptr fcO0 sb, pb, cOd0]
    cases hbx : x.b with
    | true =>
      have hnext := off_buy hps hat hbx
      unfold offK at b5g
      generalize sumO (buyN p) (O.take k) = X at b5g hnext bb
      generalize sumO (sellN p) (O.take k) = Y at b5g hnext sb'
      repeat refine S.seq ?_
      refine S.cond (v := true) (by first | rfl | (simp (disch := first | omega | (simp only [add_nx, upd_nx] <;> omega) | decide) only [rUz, ↓reduceIte, Nat.reduceEqDiff, Nat.reduceAdd, hbx] <;> rfl)) (fun _ => ?_) (fun e => by cases e)
      repeat refine S.seq ?_
      refine S.region ?_
      simp (disch := first | omega | (simp only [add_nx, upd_nx] <;> omega) | decide) only [rUz, ↓reduceIte, Nat.reduceEqDiff, Nat.reduceAdd, t5, hg5, b5g, f5g, fieldAddr_ptr fF1 s3, fieldAddr_ptr fcO2 s3, p3, c31, cOd2]
      refine wr_store s3' ?_
      simp (disch := first | omega | (simp only [add_nx, upd_nx] <;> omega) | decide) only [rUz, ↓reduceIte, Nat.reduceEqDiff, Nat.reduceAdd, b5g, f5g]
      repeat refine S.seq ?_
      refine S.region ?_
      simp (disch := first | omega | (simp only [add_nx, upd_nx] <;> omega) | decide) only [rUz, ↓reduceIte, Nat.reduceEqDiff, Nat.reduceAdd, t13]
      refine hn (k + 1) _ _ (by omega) ⟨by omega, frg.upd, ?_, ?_, ?_, ?_, ?_, ?_, by rw [hnext]; exact upd_eq _ _ _⟩
      all_goals (first | rfl | (simp (disch := first | omega | (simp only [add_nx, upd_nx] <;> omega) | decide) only [rUz, ↓reduceIte, Nat.reduceEqDiff, Nat.reduceAdd, t1, t4, t5, t11, t12]; done) | (simp (disch := first | omega | (simp only [add_nx, upd_nx] <;> omega) | decide) only [rUz, ↓reduceIte, Nat.reduceEqDiff, Nat.reduceAdd, t1, t4, t5, t11, t12]; rfl))
    | false =>
      have hnext := off_sell hps hat hbx
      unfold offK at b5g
      generalize sumO (buyN p) (O.take k) = X at b5g hnext bb
      generalize sumO (sellN p) (O.take k) = Y at b5g hnext sb'
      repeat refine S.seq ?_
      refine S.cond (v := false) (by first | rfl | (simp (disch := first | omega | (simp only [add_nx, upd_nx] <;> omega) | decide) only [rUz, ↓reduceIte, Nat.reduceEqDiff, Nat.reduceAdd, hbx] <;> rfl)) (fun e => by cases e) (fun _ => ?_)
      repeat refine S.seq ?_
      refine S.region ?_
      simp (disch := first | omega | (simp only [add_nx, upd_nx] <;> omega) | decide) only [rUz, ↓reduceIte, Nat.reduceEqDiff, Nat.reduceAdd, t5, hg5, b5g, f5g, fieldAddr_ptr fF2 s3, fieldAddr_ptr fcO2 s3, p3, c32, cOd2]
      refine wr_store s3' ?_
      simp (disch := first | omega | (simp only [add_nx, upd_nx] <;> omega) | decide) only [rUz, ↓reduceIte, Nat.reduceEqDiff, Nat.reduceAdd, b5g, f5g]
      repeat refine S.seq ?_
      refine S.region ?_
      simp (disch := first | omega | (simp only [add_nx, upd_nx] <;> omega) | decide) only [rUz, ↓reduceIte, Nat.reduceEqDiff, Nat.reduceAdd, t13]
      refine hn (k + 1) _ _ (by omega) ⟨by omega, frg.upd, ?_, ?_, ?_, ?_, ?_, ?_, by rw [hnext]; exact upd_eq _ _ _⟩
      all_goals (first | rfl | (simp (disch := first | omega | (simp only [add_nx, upd_nx] <;> omega) | decide) only [rUz, ↓reduceIte, Nat.reduceEqDiff, Nat.reduceAdd, t1, t4, t5, t11, t12]; done) | (simp (disch := first | omega | (simp only [add_nx, upd_nx] <;> omega) | decide) only [rUz, ↓reduceIte, Nat.reduceEqDiff, Nat.reduceAdd, t1, t4, t5, t11, t12]; rfl))
  have hkn : k = O.length := by have := of_decide_eq_false e; omega
  subst hkn
  unfold offK at b5
  rw [List.take_of_length_le (Nat.le_refl _)] at b5
  refine S.exit (he _ _ _ _ (fun e => by cases e) ?_)
  simp (disch := first | omega | (simp only [add_nx, upd_nx] <;> omega) | decide) only [rUz, ↓reduceIte, Nat.reduceEqDiff, Nat.reduceAdd]
  have hb4h := (fr.bl B4 (by omega) (by omega)).trans hb4
  have hf4h := (fr.fam B4 (by omega)).trans hf4
  repeat refine S.seq ?_
  refine S.region ?_
  simp (disch := first | omega | (simp only [add_nx, upd_nx] <;> omega) | decide) only [rUz, ↓reduceIte, Nat.reduceEqDiff, Nat.reduceAdd, t5, b5, part_0 pF (c3_len (p, sumO (buyN p) O, sumO (sellN p) O))]
  refine wr_storeN (B := B4) (c := [iv 0, iv 0, iv 0]) (fam := B4) (k := B4) (l := c3 (offZ O p)) (by simp (disch := first | omega | (simp only [add_nx, upd_nx] <;> omega) | decide) only [rUz, ↓reduceIte, Nat.reduceEqDiff, Nat.reduceAdd, t4]) (by simp (disch := first | omega | (simp only [add_nx, upd_nx] <;> omega) | decide) only [rUz, ↓reduceIte, Nat.reduceEqDiff, Nat.reduceAdd]; rfl) sF (by omega) rfl hb4h hf4h rfl ?_
  simp (disch := first | omega | (simp only [add_nx, upd_nx] <;> omega) | decide) only [rUz, ↓reduceIte, Nat.reduceEqDiff, Nat.reduceAdd]
  refine S.ret ?_
  try simp only [seqK_ret, blockK_ret]
  subst hF
  simp only [finish, endMarks]
  rw [show Tryz.f71.results.toList = [.cell 4 96] from rfl]
  simp (disch := first | omega | (simp only [add_nx, upd_nx] <;> omega) | decide) only [resA, ev_tmp, tget_ne, tget_eq, get_ne, get_eq, upd_eq, upd_ne, ag_eq, ag_ne, result1, t4, part_0 pF (c3_len (offZ O p))]
  exact hK _ _ (hkp.upd (by omega)) rfl
/-! ## The best offer -/
def bestZ (O : List Od) : Nat → I3
  | 0 => (0, 0, 0)
  | n + 1 => bif betterB (offZ O ((n : Int) + 1)) (bestZ O n) then offZ O ((n : Int) + 1) else bestZ O n
theorem off_bnd {O : List Od} (hv : Val O) (p : Int) : (0 ≤ (offZ O p).2.1 ∧ (offZ O p).2.1 ≤ 120) ∧ 0 ≤ (offZ O p).2.2 ∧ (offZ O p).2.2 ≤ 120 := by
  have h1 := buys_bnd hv p O.length
  have h2 := sells_bnd hv p O.length
  rw [List.take_of_length_le (Nat.le_refl _)] at h1 h2
  exact ⟨h1, h2⟩
theorem best_bnd {O : List Od} (hv : Val O) : ∀ n, (0 ≤ (bestZ O n).2.1 ∧ (bestZ O n).2.1 ≤ 120) ∧ 0 ≤ (bestZ O n).2.2 ∧ (bestZ O n).2.2 ≤ 120
  | 0 => by simp [bestZ]
  | n + 1 => by
    unfold bestZ
    cases betterB (offZ O ((n : Int) + 1)) (bestZ O n) with
    | true => exact off_bnd hv _
    | false => exact best_bnd hv n
structure IOp (O : List Od) (H : AHeap) (B1 B2 B3 : Nat) (k : Nat) (t : T Value) (h : AHeap) : Prop where
  hk : k ≤ 100
  fr : Fr H B3 h
  t1 : tget t 1 = ptr0 B1
  t2 : tget t 2 = ptr0 B2
  t3 : tget t 3 = ptr0 B3
  t6 : tget t 6 = iv (k : Int)
  b3 : h.bl.get B3 = some (.cells (c3 (bestZ O k)) B3 false)
set_option maxHeartbeats 16000000 in
theorem opening_y (S : Ev.Steps Tryz.prog pr R) (hoff : Off pr) (h0 : AHeap) (v : Value) (O : List Od) (hb : PoAt h0 v O) (hv : Val O) :
    Brings Tryz.prog R 50 [.agg ⟨poV v⟩] h0 fun u _ => u = .agg ⟨c3 (bestZ O 100)⟩ := by
  refine brings_of (fn := Tryz.f50) (c := (Tryz.f50.body).getD .skip) (by kernel_rfl) rfl (by kernel_rfl) rfl (fun K hK => ?_)
  generalize hF : finish Tryz.prog Tryz.f50 K = KF
  simp only [Tryz.f50, Option.getD_some, argsT, setArgs, fV1_eq, T.setK_eq, id]
  repeat refine S.seq ?_
  refine S.region ?_
  simp (disch := first | omega | (simp only [add_nx, upd_nx] <;> omega) | decide) only [rUz, ↓reduceIte, Nat.reduceEqDiff, Nat.reduceAdd, wr_alloc zF]
  obtain ⟨B1, hB1⟩ : ∃ x, x = h0.nx := ⟨_, rfl⟩
  obtain ⟨B2, hB2⟩ : ∃ x, x = h0.nx + 1 := ⟨_, rfl⟩
  have hb1 : ((h0.add (poV v)).add [iv 0, iv 0, iv 0]).bl.get B1 = some (.cells (poV v) B1 false) := by rw [ag_ne (by show B1 ≠ h0.nx + 1; omega)]; subst hB1; exact ag_eq rfl
  have hb2 : ((h0.add (poV v)).add [iv 0, iv 0, iv 0]).bl.get B2 = some (.cells [iv 0, iv 0, iv 0] B2 false) := by subst hB2; exact ag_eq rfl
  have hf2 : ((h0.add (poV v)).add [iv 0, iv 0, iv 0]).fams.get B2 = some [B2] := by subst hB2; exact af_eq rfl
  have hk1 : Kp h0 ((h0.add (poV v)).add [iv 0, iv 0, iv 0]) := Kp.refl.add.add
  have hnx : ((h0.add (poV v)).add [iv 0, iv 0, iv 0]).nx = h0.nx + 2 := rfl
  rw [← hB2, ← hB1]
  generalize (h0.add (poV v)).add [iv 0, iv 0, iv 0] = G at hb1 hb2 hf2 hk1 hnx ⊢
  repeat refine S.seq ?_
  refine S.region ?_
  simp (disch := first | omega | (simp only [add_nx, upd_nx] <;> omega) | decide) only [rUz, ↓reduceIte, Nat.reduceEqDiff, Nat.reduceAdd, wr_alloc zF]
  obtain ⟨B3, hB3⟩ : ∃ x, x = G.nx := ⟨_, rfl⟩
  have hkG : Kp G (G.add [iv 0, iv 0, iv 0]) := Kp.refl.add
  have hb3 : (G.add [iv 0, iv 0, iv 0]).bl.get B3 = some (.cells [iv 0, iv 0, iv 0] B3 false) := by subst hB3; exact ag_eq rfl
  have hf3 : (G.add [iv 0, iv 0, iv 0]).fams.get B3 = some [B3] := by subst hB3; exact af_eq rfl
  have hn3 : B3 < (G.add [iv 0, iv 0, iv 0]).nx := by subst hB3; exact Nat.lt_succ_self _
  rw [← hB3]
  generalize G.add [iv 0, iv 0, iv 0] = H at hkG hb3 hf3 hn3 ⊢
  replace hb1 := (hkG.get (by omega : B1 < G.nx)).trans hb1
  replace hb2 := (hkG.get (by omega : B2 < G.nx)).trans hb2
  replace hf2 := (hkG.fget (by omega : B2 < G.nx)).trans hf2
  replace hk1 := hk1.trans hkG
  have hB13 : B1 < B3 := by omega
  have hB23 : B2 < B3 := by omega
  have ho2 : h0.nx ≤ B2 := by omega
  clear hkG hB1 hB2 hB3 hnx
  clear G
  repeat refine S.seq ?_
  refine S.region ?_
  simp (disch := first | omega | (simp only [add_nx, upd_nx] <;> omega) | decide) only [rUz, ↓reduceIte, Nat.reduceEqDiff, Nat.reduceAdd]
  repeat refine S.seq ?_
  refine S.block ?_
  refine S.loop (ι := Nat) (IOp O H B1 B2 B3) (fun k => 100 - k) ?_ 0 _ _ ?_
  rotate_left
  · refine ⟨Nat.zero_le _, Fr.refl, ?_, ?_, ?_, ?_, hb3⟩
    all_goals (first | rfl | (simp (disch := first | omega | (simp only [add_nx, upd_nx] <;> omega) | decide) only [rUz, ↓reduceIte, Nat.reduceEqDiff, Nat.reduceAdd]; done) | (simp (disch := first | omega | (simp only [add_nx, upd_nx] <;> omega) | decide) only [rUz, ↓reduceIte, Nat.reduceEqDiff, Nat.reduceAdd]; rfl))
  clear hb3
  intro k t h ⟨hk, fr, t1, t2, t3, t6, b3⟩ K' hn he
  have hle := fr.le
  have hkp := fr.toKp hk1 (by omega)
  have hb1h := (fr.bl B1 (by omega) (by omega)).trans hb1
  have hf3h := (fr.fam B3 hn3).trans hf3
  repeat refine S.seq ?_
  refine S.region ?_
  simp (disch := first | omega | (simp only [add_nx, upd_nx] <;> omega) | decide) only [rUz, ↓reduceIte, Nat.reduceEqDiff, Nat.reduceAdd, t6]
  repeat refine S.seq ?_
  refine S.cond (v := decide ((k : Int) < 100)) (by first | rfl | (simp (disch := first | omega | (simp only [add_nx, upd_nx] <;> omega) | decide) only [rUz, ↓reduceIte, Nat.reduceEqDiff, Nat.reduceAdd] <;> rfl)) (fun e => ?_) (fun e => ?_)
  · have hkn : k < 100 := by have := of_decide_eq_true e; omega
    clear e
    repeat refine S.seq ?_
    refine S.skip ?_
    simp (disch := first | omega | (simp only [add_nx, upd_nx] <;> omega) | decide) only [rUz, ↓reduceIte, Nat.reduceEqDiff, Nat.reduceAdd]
    repeat refine S.seq ?_
    refine S.block ?_
    repeat refine S.seq ?_
    refine S.region ?_
    simp (disch := first | omega | (simp only [add_nx, upd_nx] <;> omega) | decide) only [rUz, ↓reduceIte, Nat.reduceEqDiff, Nat.reduceAdd, t6]
    repeat refine S.seq ?_
    refine S.region ?_
    simp (disch := first | omega | (simp only [add_nx, upd_nx] <;> omega) | decide) only [rUz, ↓reduceIte, Nat.reduceEqDiff, Nat.reduceAdd, t1, hb1h, part_0 pB (poV_len v)]
    refine wr_brings (fid := 71) (first := #[]) (captured := #[]) (Post := fun u _ => u = .agg ⟨c3 (offZ O ((k : Int) + 1))⟩) rfl (hoff _ _ _ rfl) (by simp (disch := first | omega | (simp only [add_nx, upd_nx] <;> omega) | decide) only [rUz, ↓reduceIte, Nat.reduceEqDiff, Nat.reduceAdd]; exact offer_y S hoff h v O _ (hb.mono hkp) hv) ?_
    rintro u g hkg rfl
    have b3g := (hkg.get (by omega : B3 < h.nx)).trans b3
    have f3g := (hkg.fget (by omega : B3 < h.nx)).trans hf3h
    have hgn := hkg.1
    simp (disch := first | omega | (simp only [add_nx, upd_nx] <;> omega) | decide) only [rUz, ↓reduceIte, Nat.reduceEqDiff, Nat.reduceAdd, wr_alloc zF]
    refine wr_storeN (B := g.nx) (c := [iv 0, iv 0, iv 0]) (fam := g.nx) (k := g.nx) (l := c3 (offZ O ((k : Int) + 1))) (by simp (disch := first | omega | (simp only [add_nx, upd_nx] <;> omega) | decide) only [rUz, ↓reduceIte, Nat.reduceEqDiff, Nat.reduceAdd]) (by simp (disch := first | omega | (simp only [add_nx, upd_nx] <;> omega) | decide) only [rUz, ↓reduceIte, Nat.reduceEqDiff, Nat.reduceAdd]) sF (by omega) rfl (ag_eq rfl) (af_eq rfl) rfl ?_
    have hk4 : Kp g ((g.add [iv 0, iv 0, iv 0]).upd g.nx (c3 (offZ O ((k : Int) + 1))) g.nx) := Kp.refl.add.upd (Nat.le_refl _)
    have hg4 : ((g.add [iv 0, iv 0, iv 0]).upd g.nx (c3 (offZ O ((k : Int) + 1))) g.nx).bl.get g.nx = some (.cells (c3 (offZ O ((k : Int) + 1))) g.nx false) := upd_eq _ _ _
    have hn4 : g.nx < ((g.add [iv 0, iv 0, iv 0]).upd g.nx (c3 (offZ O ((k : Int) + 1))) g.nx).nx := Nat.lt_succ_self _
    simp (disch := first | omega | (simp only [add_nx, upd_nx] <;> omega) | decide) only [rUz, ↓reduceIte, Nat.reduceEqDiff, Nat.reduceAdd]
    generalize (g.add [iv 0, iv 0, iv 0]).upd g.nx (c3 (offZ O ((k : Int) + 1))) g.nx = h4 at hk4 hg4 hn4 ⊢
    obtain ⟨B5, hB5⟩ : ∃ x, x = g.nx := ⟨_, rfl⟩
    rw [← hB5] at hg4 hn4 ⊢
    have b34 := (hk4.get (by omega : B3 < g.nx)).trans b3g
    have f34 := (hk4.fget (by omega : B3 < g.nx)).trans f3g
    have hgn4 := hk4.1
    repeat refine S.seq ?_
    refine S.region ?_
    simp (disch := first | omega | (simp only [add_nx, upd_nx] <;> omega) | decide) only [rUz, ↓reduceIte, Nat.reduceEqDiff, Nat.reduceAdd, t3, hg4, b34, part_0 pF (c3_len (offZ O ((k : Int) + 1))), part_0 pF (c3_len (bestZ O k))]
    refine wr_brings (fid := 72) (first := #[]) (captured := #[]) (Post := fun u _ => u = .bool (betterB (offZ O ((k : Int) + 1)) (bestZ O k))) rfl (hoff _ _ _ rfl) (by simp (disch := first | omega | (simp only [add_nx, upd_nx] <;> omega) | decide) only [rUz, ↓reduceIte, Nat.reduceEqDiff, Nat.reduceAdd]; exact isBetter_y S hoff h4 _ _ (off_bnd hv _).1 (off_bnd hv _).2 (best_bnd hv k).1 (best_bnd hv k).2) ?_
    rintro u g5 hk5 rfl
    have frg := fr.kp ((hkg.trans hk4).trans hk5)
    have hg5 := (hk5.get hn4).trans hg4
    have b35 := (hk5.get (by omega : B3 < h4.nx)).trans b34
    have f35 := (hk5.fget (by omega : B3 < h4.nx)).trans f34
    have hnext : bestZ O (k + 1) = bif betterB (offZ O ((k : Int) + 1)) (bestZ O k) then offZ O ((k : Int) + 1) else bestZ O k := rfl
    simp (disch := first | omega | (simp only [add_nx, upd_nx] <;> omega) | decide) only [rUz, ↓reduceIte, Nat.reduceEqDiff, Nat.reduceAdd]
    cases hbt : betterB (offZ O ((k : Int) + 1)) (bestZ O k) with
    | true =>
      rw [hbt, cond_true] at hnext
      repeat refine S.seq ?_
      refine S.cond (v := true) (by first | rfl | (simp (disch := first | omega | (simp only [add_nx, upd_nx] <;> omega) | decide) only [rUz, ↓reduceIte, Nat.reduceEqDiff, Nat.reduceAdd, hbt] <;> rfl)) (fun _ => ?_) (fun e => by cases e)
      repeat refine S.seq ?_
      refine S.region ?_
      simp (disch := first | omega | (simp only [add_nx, upd_nx] <;> omega) | decide) only [rUz, ↓reduceIte, Nat.reduceEqDiff, Nat.reduceAdd, hg5, part_0 pF (c3_len (offZ O ((k : Int) + 1)))]
      refine wr_storeN (B := B3) (c := c3 (bestZ O k)) (fam := B3) (k := B3) (l := c3 (offZ O ((k : Int) + 1))) (by simp (disch := first | omega | (simp only [add_nx, upd_nx] <;> omega) | decide) only [rUz, ↓reduceIte, Nat.reduceEqDiff, Nat.reduceAdd, t3]) (by simp (disch := first | omega | (simp only [add_nx, upd_nx] <;> omega) | decide) only [rUz, ↓reduceIte, Nat.reduceEqDiff, Nat.reduceAdd]) sF (by omega) rfl b35 f35 rfl ?_
      simp (disch := first | omega | (simp only [add_nx, upd_nx] <;> omega) | decide) only [rUz, ↓reduceIte, Nat.reduceEqDiff, Nat.reduceAdd]
      repeat refine S.seq ?_
      refine S.region ?_
      simp (disch := first | omega | (simp only [add_nx, upd_nx] <;> omega) | decide) only [rUz, ↓reduceIte, Nat.reduceEqDiff, Nat.reduceAdd, t6]
      refine hn (k + 1) _ _ (by omega) ⟨by omega, frg.upd, ?_, ?_, ?_, ?_, by rw [hnext]; exact upd_eq _ _ _⟩
      all_goals (first | rfl | (simp (disch := first | omega | (simp only [add_nx, upd_nx] <;> omega) | decide) only [rUz, ↓reduceIte, Nat.reduceEqDiff, Nat.reduceAdd, t1, t2, t3]; done) | (simp (disch := first | omega | (simp only [add_nx, upd_nx] <;> omega) | decide) only [rUz, ↓reduceIte, Nat.reduceEqDiff, Nat.reduceAdd, t1, t2, t3]; rfl))
    | false =>
      rw [hbt, cond_false] at hnext
      repeat refine S.seq ?_
      refine S.cond (v := false) (by first | rfl | (simp (disch := first | omega | (simp only [add_nx, upd_nx] <;> omega) | decide) only [rUz, ↓reduceIte, Nat.reduceEqDiff, Nat.reduceAdd, hbt] <;> rfl)) (fun e => by cases e) (fun _ => ?_)
      repeat refine S.seq ?_
      refine S.skip ?_
      simp (disch := first | omega | (simp only [add_nx, upd_nx] <;> omega) | decide) only [rUz, ↓reduceIte, Nat.reduceEqDiff, Nat.reduceAdd]
      repeat refine S.seq ?_
      refine S.region ?_
      simp (disch := first | omega | (simp only [add_nx, upd_nx] <;> omega) | decide) only [rUz, ↓reduceIte, Nat.reduceEqDiff, Nat.reduceAdd, t6]
      refine hn (k + 1) _ _ (by omega) ⟨by omega, frg, ?_, ?_, ?_, ?_, by rw [hnext]; exact b35⟩
      all_goals (first | rfl | (simp (disch := first | omega | (simp only [add_nx, upd_nx] <;> omega) | decide) only [rUz, ↓reduceIte, Nat.reduceEqDiff, Nat.reduceAdd, t1, t2, t3]; done) | (simp (disch := first | omega | (simp only [add_nx, upd_nx] <;> omega) | decide) only [rUz, ↓reduceIte, Nat.reduceEqDiff, Nat.reduceAdd, t1, t2, t3]; rfl))
  have hkn : k = 100 := by have := of_decide_eq_false e; omega
  subst hkn
  refine S.exit (he _ _ _ _ (fun e => by cases e) ?_)
  simp (disch := first | omega | (simp only [add_nx, upd_nx] <;> omega) | decide) only [rUz, ↓reduceIte, Nat.reduceEqDiff, Nat.reduceAdd]
  have hb2h := (fr.bl B2 (by omega) (by omega)).trans hb2
  have hf2h := (fr.fam B2 (by omega)).trans hf2
  repeat refine S.seq ?_
  refine S.region ?_
  simp (disch := first | omega | (simp only [add_nx, upd_nx] <;> omega) | decide) only [rUz, ↓reduceIte, Nat.reduceEqDiff, Nat.reduceAdd, t3, b3, part_0 pF (c3_len (bestZ O 100))]
  refine wr_storeN (B := B2) (c := [iv 0, iv 0, iv 0]) (fam := B2) (k := B2) (l := c3 (bestZ O 100)) (by simp (disch := first | omega | (simp only [add_nx, upd_nx] <;> omega) | decide) only [rUz, ↓reduceIte, Nat.reduceEqDiff, Nat.reduceAdd, t2]) (by simp (disch := first | omega | (simp only [add_nx, upd_nx] <;> omega) | decide) only [rUz, ↓reduceIte, Nat.reduceEqDiff, Nat.reduceAdd]) sF (by omega) rfl hb2h hf2h rfl ?_
  simp (disch := first | omega | (simp only [add_nx, upd_nx] <;> omega) | decide) only [rUz, ↓reduceIte, Nat.reduceEqDiff, Nat.reduceAdd]
  refine S.ret ?_
  try simp only [seqK_ret, blockK_ret]
  subst hF
  simp only [finish, endMarks]
  rw [show Tryz.f50.results.toList = [.cell 2 96] from rfl]
  simp (disch := first | omega | (simp only [add_nx, upd_nx] <;> omega) | decide) only [resA, ev_tmp, tget_ne, tget_eq, get_ne, get_eq, upd_eq, upd_ne, ag_eq, ag_ne, result1, t2, part_0 pF (c3_len (bestZ O 100))]
  exact hK _ _ (hkp.upd (by omega)) rfl
/-! ## Open -/
def openT (O : List Od) : Int × Int × Int :=
  bif decide (faultZ O = 0) then (bif decide (min2 (bestZ O 100).2.1 (bestZ O 100).2.2 = 0) then (0, 0, 7) else ((bestZ O 100).1, min2 (bestZ O 100).2.1 (bestZ O 100).2.2, 0)) else (0, 0, faultZ O)
set_option maxHeartbeats 16000000 in
theorem open_y (S : Ev.Steps Tryz.prog pr R) (hoff : Off pr) (h0 : AHeap) (v : Value) (O : List Od) (hb : PoAt h0 v O) (h9 : O.length ≤ 9) :
    Brings Tryz.prog R 31 [.agg ⟨poV v⟩] h0 fun u _ => u = .tuple ⟨[iv (openT O).1, iv (openT O).2.1, iv (openT O).2.2]⟩ := by
  refine brings_of (fn := Tryz.f31) (c := (Tryz.f31.body).getD .skip) (by kernel_rfl) rfl (by kernel_rfl) rfl (fun K hK => ?_)
  generalize hF : finish Tryz.prog Tryz.f31 K = KF
  simp only [Tryz.f31, Option.getD_some, argsT, setArgs, fV1_eq, T.setK_eq, id]
  have hK' : ∀ a b c, openT O = (a, b, c) → ∀ g, Kp h0 g → K (.tuple ⟨[iv a, iv b, iv c]⟩) g = true := fun a b c e g hk => hK _ _ hk (by rw [e])
  clear hK
  unfold openT at hK'
  repeat refine S.seq ?_
  refine S.region ?_
  simp (disch := first | omega | (simp only [add_nx, upd_nx] <;> omega) | decide) only [rUz, ↓reduceIte, Nat.reduceEqDiff, Nat.reduceAdd]
  have hb1 : (h0.add (poV v)).bl.get h0.nx = some (.cells (poV v) h0.nx false) := ag_eq rfl
  have hn1 : h0.nx < (h0.add (poV v)).nx := Nat.lt_succ_self _
  have hk1 : Kp h0 (h0.add (poV v)) := Kp.refl.add
  generalize h0.add (poV v) = H at hb1 hn1 hk1 ⊢
  generalize h0.nx = B1 at hb1 hn1 ⊢
  have hbH := hb.mono hk1
  repeat refine S.seq ?_
  refine S.region ?_
  simp (disch := first | omega | (simp only [add_nx, upd_nx] <;> omega) | decide) only [rUz, ↓reduceIte, Nat.reduceEqDiff, Nat.reduceAdd, hb1, part_0 pB (poV_len v)]
  refine wr_brings (fid := 16) (first := #[]) (captured := #[]) (Post := fun u _ => u = iv (faultZ O)) rfl (hoff _ _ _ rfl) (by simp (disch := first | omega | (simp only [add_nx, upd_nx] <;> omega) | decide) only [rUz, ↓reduceIte, Nat.reduceEqDiff, Nat.reduceAdd]; exact checkPost_y S hoff H v O hbH h9) ?_
  rintro u g hkg rfl
  have hb1g := (hkg.get hn1).trans hb1
  simp (disch := first | omega | (simp only [add_nx, upd_nx] <;> omega) | decide) only [rUz, ↓reduceIte, Nat.reduceEqDiff, Nat.reduceAdd]
  cases h1 : decide (faultZ O = 0) with
  | false =>
    rw [h1, cond_false] at hK'
    repeat refine S.seq ?_
    refine S.region ?_
    simp (disch := first | omega | (simp only [add_nx, upd_nx] <;> omega) | decide) only [rUz, ↓reduceIte, Nat.reduceEqDiff, Nat.reduceAdd, h1, Bool.not_false]
    repeat refine S.seq ?_
    refine S.cond (v := true) (by first | rfl | (simp (disch := first | omega | (simp only [add_nx, upd_nx] <;> omega) | decide) only [rUz, ↓reduceIte, Nat.reduceEqDiff, Nat.reduceAdd] <;> rfl)) (fun _ => ?_) (fun e => by cases e)
    repeat refine S.seq ?_
    refine S.region ?_
    simp (disch := first | omega | (simp only [add_nx, upd_nx] <;> omega) | decide) only [rUz, ↓reduceIte, Nat.reduceEqDiff, Nat.reduceAdd]
    refine S.ret ?_
    try simp only [seqK_ret, blockK_ret]
    subst hF
    simp only [finish, endMarks]
    rw [show Tryz.f31.results.toList = [.tmp 2, .tmp 3, .tmp 4] from rfl]
    simp (disch := first | omega | (simp only [add_nx, upd_nx] <;> omega) | decide) only [resA, ev_tmp, tget_ne, tget_eq, get_ne, get_eq, upd_eq, upd_ne, ag_eq, ag_ne, result1]
    exact hK' _ _ _ rfl _ (hk1.trans hkg)
  | true =>
  rw [h1, cond_true] at hK'
  repeat refine S.seq ?_
  refine S.region ?_
  simp (disch := first | omega | (simp only [add_nx, upd_nx] <;> omega) | decide) only [rUz, ↓reduceIte, Nat.reduceEqDiff, Nat.reduceAdd, h1, Bool.not_true]
  repeat refine S.seq ?_
  refine S.cond (v := false) (by first | rfl | (simp (disch := first | omega | (simp only [add_nx, upd_nx] <;> omega) | decide) only [rUz, ↓reduceIte, Nat.reduceEqDiff, Nat.reduceAdd] <;> rfl)) (fun e => by cases e) (fun _ => ?_)
  repeat refine S.seq ?_
  refine S.skip ?_
  simp (disch := first | omega | (simp only [add_nx, upd_nx] <;> omega) | decide) only [rUz, ↓reduceIte, Nat.reduceEqDiff, Nat.reduceAdd]
  have hv := val_iff.1 (of_decide_eq_true h1)
  obtain ⟨bb1, bb2⟩ := best_bnd hv 100
  repeat refine S.seq ?_
  refine S.region ?_
  simp (disch := first | omega | (simp only [add_nx, upd_nx] <;> omega) | decide) only [rUz, ↓reduceIte, Nat.reduceEqDiff, Nat.reduceAdd, hb1g, part_0 pB (poV_len v)]
  refine wr_brings (fid := 50) (first := #[]) (captured := #[]) (Post := fun u _ => u = .agg ⟨c3 (bestZ O 100)⟩) rfl (hoff _ _ _ rfl) (by simp (disch := first | omega | (simp only [add_nx, upd_nx] <;> omega) | decide) only [rUz, ↓reduceIte, Nat.reduceEqDiff, Nat.reduceAdd]; exact opening_y S hoff g v O (hbH.mono hkg) hv) ?_
  rintro u g2 hkg2 rfl
  generalize bestZ O 100 = z at hK' bb1 bb2 ⊢
  simp (disch := first | omega | (simp only [add_nx, upd_nx] <;> omega) | decide) only [rUz, ↓reduceIte, Nat.reduceEqDiff, Nat.reduceAdd, wr_alloc zF]
  refine wr_storeN (B := g2.nx) (c := [iv 0, iv 0, iv 0]) (fam := g2.nx) (k := g2.nx) (l := c3 z) (by simp (disch := first | omega | (simp only [add_nx, upd_nx] <;> omega) | decide) only [rUz, ↓reduceIte, Nat.reduceEqDiff, Nat.reduceAdd]) (by simp (disch := first | omega | (simp only [add_nx, upd_nx] <;> omega) | decide) only [rUz, ↓reduceIte, Nat.reduceEqDiff, Nat.reduceAdd]) sF (by omega) rfl (ag_eq rfl) (af_eq rfl) rfl ?_
  have hk4 : Kp g2 ((g2.add [iv 0, iv 0, iv 0]).upd g2.nx (c3 z) g2.nx) := Kp.refl.add.upd (Nat.le_refl _)
  have hg4 : ((g2.add [iv 0, iv 0, iv 0]).upd g2.nx (c3 z) g2.nx).bl.get g2.nx = some (.cells (c3 z) g2.nx false) := upd_eq _ _ _
  have hn4 : g2.nx < ((g2.add [iv 0, iv 0, iv 0]).upd g2.nx (c3 z) g2.nx).nx := Nat.lt_succ_self _
  simp (disch := first | omega | (simp only [add_nx, upd_nx] <;> omega) | decide) only [rUz, ↓reduceIte, Nat.reduceEqDiff, Nat.reduceAdd]
  generalize (g2.add [iv 0, iv 0, iv 0]).upd g2.nx (c3 z) g2.nx = h4 at hk4 hg4 hn4 ⊢
  generalize g2.nx = B6 at hg4 hn4 ⊢
  replace hk4 := (hk1.trans hkg).trans (hkg2.trans hk4)
  repeat refine S.seq ?_
  refine S.region ?_
  simp (disch := first | omega | (simp only [add_nx, upd_nx] <;> omega) | decide) only [rUz, ↓reduceIte, Nat.reduceEqDiff, Nat.reduceAdd, hg4, part_0 pF (c3_len z)]
  refine wr_brings (fid := 51) (first := #[]) (captured := #[]) (Post := fun u _ => u = iv (min2 z.2.1 z.2.2)) rfl (hoff _ _ _ rfl) (by simp (disch := first | omega | (simp only [add_nx, upd_nx] <;> omega) | decide) only [rUz, ↓reduceIte, Nat.reduceEqDiff, Nat.reduceAdd]; exact shares_y S hoff h4 z) ?_
  rintro u g3 hkg3 rfl
  have hg5 := (hkg3.get hn4).trans hg4
  have hn5 : B6 < g3.nx := Nat.lt_of_lt_of_le hn4 hkg3.1
  cases h2 : decide (min2 z.2.1 z.2.2 = 0) with
  | true =>
    rw [h2, cond_true] at hK'
    simp (disch := first | omega | (simp only [add_nx, upd_nx] <;> omega) | decide) only [rUz, ↓reduceIte, Nat.reduceEqDiff, Nat.reduceAdd, h2]
    repeat refine S.seq ?_
    refine S.cond (v := true) (by first | rfl | (simp (disch := first | omega | (simp only [add_nx, upd_nx] <;> omega) | decide) only [rUz, ↓reduceIte, Nat.reduceEqDiff, Nat.reduceAdd] <;> rfl)) (fun _ => ?_) (fun e => by cases e)
    repeat refine S.seq ?_
    refine S.region ?_
    simp (disch := first | omega | (simp only [add_nx, upd_nx] <;> omega) | decide) only [rUz, ↓reduceIte, Nat.reduceEqDiff, Nat.reduceAdd]
    refine S.ret ?_
    try simp only [seqK_ret, blockK_ret]
    subst hF
    simp only [finish, endMarks]
    rw [show Tryz.f31.results.toList = [.tmp 2, .tmp 3, .tmp 4] from rfl]
    simp (disch := first | omega | (simp only [add_nx, upd_nx] <;> omega) | decide) only [resA, ev_tmp, tget_ne, tget_eq, get_ne, get_eq, upd_eq, upd_ne, ag_eq, ag_ne, result1]
    exact hK' _ _ _ rfl _ (hk4.trans hkg3)
  | false =>
  rw [h2, cond_false] at hK'
  simp (disch := first | omega | (simp only [add_nx, upd_nx] <;> omega) | decide) only [rUz, ↓reduceIte, Nat.reduceEqDiff, Nat.reduceAdd, h2]
  repeat refine S.seq ?_
  refine S.cond (v := false) (by first | rfl | (simp (disch := first | omega | (simp only [add_nx, upd_nx] <;> omega) | decide) only [rUz, ↓reduceIte, Nat.reduceEqDiff, Nat.reduceAdd] <;> rfl)) (fun e => by cases e) (fun _ => ?_)
  repeat refine S.seq ?_
  refine S.skip ?_
  simp (disch := first | omega | (simp only [add_nx, upd_nx] <;> omega) | decide) only [rUz, ↓reduceIte, Nat.reduceEqDiff, Nat.reduceAdd]
  repeat refine S.seq ?_
  refine S.drawnL [(false, 0), (false, 1), (false, 0), (true, 4), (false, 15), (false, 31), (false, 63)] (by kernel_rfl) (by kernel_rfl) (by kernel_rfl) ?_
  simp (disch := first | omega | (simp only [add_nx, upd_nx] <;> omega) | decide) only [rUz, ↓reduceIte, Nat.reduceEqDiff, Nat.reduceAdd, rDz, infoL, Nat.reduceSub, hg5, fieldAddr_ptr fF0 s3, p3, c30, part_0 pF (c3_len z)]
  refine drW_brings (fid := 51) (first := #[]) (captured := #[]) (Post := fun u _ => u = iv (min2 z.2.1 z.2.2)) rfl (hoff _ _ _ rfl) (by simp (disch := first | omega | (simp only [add_nx, upd_nx] <;> omega) | decide) only [rUz, ↓reduceIte, Nat.reduceEqDiff, Nat.reduceAdd]; exact shares_y S hoff g3 z) (Nat.le_of_ble_eq_true rfl) ?_
  rintro u g4 hkg4 rfl
  have hg6 := (hkg4.get hn5).trans hg5
  refine ⟨?_, ?_⟩
  · try simp (disch := first | decide | rfl) only [again_nil, again_skip, again_free]
    rw [again_same (v := iv z.1) (by simp (disch := first | omega | (simp only [add_nx, upd_nx] <;> omega) | decide) only [rUz, ↓reduceIte, Nat.reduceEqDiff, Nat.reduceAdd, rDz, infoL, Nat.reduceSub, hg6, fieldAddr_ptr fF0 s3, p3, c30]) veq_int]
    try simp (disch := first | decide | rfl) only [again_nil, again_skip, again_free]
  simp (disch := first | omega | (simp only [add_nx, upd_nx] <;> omega) | decide) only [rUz, ↓reduceIte, Nat.reduceEqDiff, Nat.reduceAdd, rDz, infoL, Nat.reduceSub]
  refine S.ret ?_
  try simp only [seqK_ret, blockK_ret]
  subst hF
  simp only [finish, endMarks]
  rw [show Tryz.f31.results.toList = [.tmp 2, .tmp 3, .tmp 4] from rfl]
  simp (disch := first | omega | (simp only [add_nx, upd_nx] <;> omega) | decide) only [resA, ev_tmp, tget_ne, tget_eq, get_ne, get_eq, upd_eq, upd_ne, ag_eq, ag_ne, result1]
  exact hK' _ _ _ rfl _ ((hk4.trans hkg3).trans hkg4)
end Go.Proofs.Po
