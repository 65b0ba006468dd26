import Derived.Test.YtllabiheedejoaaGreatPo8
/- The opening price, by the reference; PostOpens. -/
namespace Go.Proofs.Po
open Go Go.Ev Go.RowKit
set_option linter.unusedSimpArgs false
variable {pr : Prim} {R : ExT}
structure ISh (p : Int) (O : List Od) (H : AHeap) (B2 : Nat) (k : Nat) (t : T Value) (h : AHeap) : Prop where
  hk : k ≤ O.length
  kp : Kp H h
  t1 : tget t 1 = iv p
  t2 : tget t 2 = ptr0 B2
  t6 : tget t 6 = iv (sumO (buyN p) (O.take k))
  t7 : tget t 7 = iv (sumO (sellN p) (O.take k))
  t8 : tget t 8 = iv (k : Int)
def shZ (O : List Od) (p : Int) : Int := min2 (buysZ O p) (sellsZ O p)
def suZ (O : List Od) (p : Int) : Int := max2 (buysZ O p) (sellsZ O p) - min2 (buysZ O p) (sellsZ O p)
set_option maxHeartbeats 16000000 in
theorem rshares_y (S : Ev.Steps Tryz.prog pr R) (_hoff : Off pr) (h0 : AHeap) (v : Value) (O : List Od) (p : Int) (hb : PoAt h0 v O) (hv : Val O) :
    Brings Tryz.prog R 52 [.agg ⟨poV v⟩, iv p] h0 fun u _ => u = .tuple ⟨[iv (shZ O p), iv (suZ O p)]⟩ := by
  refine brings_of (fn := Tryz.f52) (c := (Tryz.f52.body).getD .skip) (by kernel_rfl) rfl (by kernel_rfl) rfl (fun K hK => ?_)
  generalize hF : finish Tryz.prog Tryz.f52 K = KF
  simp only [Tryz.f52, Option.getD_some, argsT, setArgs, fV1_eq, T.setK_eq, id]
  have h6 := hv.l6
  repeat refine S.seq ?_
  refine S.region ?_
  simp (disch := first | omega | (simp only [add_nx, upd_nx] <;> omega) | decide) only [rUz, ↓reduceIte, Nat.reduceEqDiff, Nat.reduceAdd]
  have hb1 : (h0.add (poV v)).bl.get h0.nx = some (.cells (poV v) h0.nx false) := ag_eq rfl
  have hn1 : h0.nx < (h0.add (poV v)).nx := Nat.lt_succ_self _
  have hk1 : Kp h0 (h0.add (poV v)) := Kp.refl.add
  generalize h0.add (poV v) = H at hb1 hn1 hk1 ⊢
  generalize h0.nx = B2 at hb1 hn1 ⊢
  have hbH := hb.mono hk1
  clear hb
  repeat refine S.seq ?_
  refine S.region ?_
  simp (disch := first | omega | (simp only [add_nx, upd_nx] <;> omega) | decide) only [rUz, ↓reduceIte, Nat.reduceEqDiff, Nat.reduceAdd]
  repeat refine S.seq ?_
  refine S.region ?_
  simp (disch := first | omega | (simp only [add_nx, upd_nx] <;> omega) | decide) only [rUz, ↓reduceIte, Nat.reduceEqDiff, Nat.reduceAdd]
  repeat refine S.seq ?_
  refine S.block ?_
  refine S.loop (ι := Nat) (ISh p O H B2) (fun k => O.length - k) ?_ 0 _ _ ?_
  rotate_left
  · refine ⟨Nat.zero_le _, Kp.refl, ?_, ?_, ?_, ?_, ?_⟩
    all_goals (first | rfl | (simp (disch := first | omega | (simp only [add_nx, upd_nx] <;> omega) | decide) only [rUz, ↓reduceIte, Nat.reduceEqDiff, Nat.reduceAdd, List.take_zero, sumO]; done) | (simp (disch := first | omega | (simp only [add_nx, upd_nx] <;> omega) | decide) only [rUz, ↓reduceIte, Nat.reduceEqDiff, Nat.reduceAdd, List.take_zero, sumO]; rfl))
  intro k t h ⟨hk, hkp, t1, t2, t6, t7, t8⟩ K' hn he
  have hb1h := (hkp.get hn1).trans hb1
  have hnx := hkp.1
  have lO := fun t h1 o => row_len (hbH.mono hkp) isrO t h1 o
  have bb := buys_bnd hv p k
  have sb' := sells_bnd hv p k
  repeat refine S.seq ?_
  refine S.region ?_
  simp (disch := first | omega | (simp only [add_nx, upd_nx] <;> omega) | decide) only [rUz, ↓reduceIte, Nat.reduceEqDiff, Nat.reduceAdd, t2, t8, fieldAddr_ptr fA0 lrO, qrO, hb1h, po0, lO]
  repeat refine S.seq ?_
  refine S.cond (v := decide ((k : Int) < (O.length : Int))) (by first | rfl | (simp (disch := first | omega | (simp only [add_nx, upd_nx] <;> omega) | decide) only [rUz, ↓reduceIte, Nat.reduceEqDiff, Nat.reduceAdd] <;> rfl)) (fun e => ?_) (fun e => ?_)
  · have hkn : k < O.length := by have := of_decide_eq_true e; omega
    clear e
    have hps : O[k]? = some O[k] := List.getElem?_eq_getElem hkn
    have hxv := hv.ok _ (List.getElem_mem hkn)
    generalize O[k] = x at hps hxv
    have n1 := hxv.n1
    have n2 := hxv.n2
    have e1 := sumO_take (buyN p) O k hps
    have e2 := sumO_take (sellN p) O k hps
    generalize sumO (buyN p) (O.take k) = X at t6 bb e1
    generalize sumO (sellN p) (O.take k) = Y at t7 sb' e2
    obtain ⟨b, f, ro, cells, q1, q2, q3, q4, q5, _⟩ := row_idx (hbH.mono hkp) slrO srO hps
    have qp := part_at prO q4 q5
    repeat refine S.seq ?_
    refine S.skip ?_
    simp (disch := first | omega | (simp only [add_nx, upd_nx] <;> omega) | decide) only [rUz, ↓reduceIte, Nat.reduceEqDiff, Nat.reduceAdd]
    repeat refine S.seq ?_
    refine S.block ?_
    repeat refine S.seq ?_
    refine S.region ?_
    simp (disch := first | omega | (simp only [add_nx, upd_nx] <;> omega) | decide) only [rUz, ↓reduceIte, Nat.reduceEqDiff, Nat.reduceAdd, t2, t8, fieldAddr_ptr fA0 lrO, qrO, po0, hb1h, q1, q3, qp, wr_alloc zrO]
    refine wr_storeN (B := h.nx) (c := [.bool false, iv 0, iv 0, iv 0, iv 0]) (fam := h.nx) (k := h.nx) (l := cOd x) (by simp (disch := first | omega | (simp only [add_nx, upd_nx] <;> omega) | decide) only [rUz, ↓reduceIte, Nat.reduceEqDiff, Nat.reduceAdd]) (by simp (disch := first | omega | (simp only [add_nx, upd_nx] <;> omega) | decide) only [rUz, ↓reduceIte, Nat.reduceEqDiff, Nat.reduceAdd]) srO (by omega) rfl (ag_eq rfl) (af_eq rfl) rfl ?_
    have hk4 : Kp h ((h.add [.bool false, iv 0, iv 0, iv 0, iv 0]).upd h.nx (cOd x) h.nx) := Kp.refl.add.upd (Nat.le_refl _)
    have hg4 : ((h.add [.bool false, iv 0, iv 0, iv 0, iv 0]).upd h.nx (cOd x) h.nx).bl.get h.nx = some (.cells (cOd x) h.nx false) := upd_eq _ _ _
    simp (disch := first | omega | (simp only [add_nx, upd_nx] <;> omega) | decide) only [rUz, ↓reduceIte, Nat.reduceEqDiff, Nat.reduceAdd]
    generalize (h.add [.bool false, iv 0, iv 0, iv 0, iv 0]).upd h.nx (cOd x) h.nx = h4 at hk4 hg4 ⊢
    generalize h.nx = B9 at hg4 hnx ⊢
    clear q1 q2 q3 q4 q5 qp hb1h lO
    replace hk4 := hkp.trans hk4
    clear hkp
    clear h
    rw [show buyN p x = bif x.b && decide (p ≤ x.l) then x.n else 0 from rfl] at e1
    rw [show sellN p x = bif !x.b && decide (x.l ≤ p) then x.n else 0 from rfl] at e2
    cases hbx : x.b with
    | true =>
      rw [hbx, Bool.not_true, Bool.false_and, cond_false, Int.add_zero] at e2
      rw [hbx, Bool.true_and] at e1
      cases h1 : decide (p ≤ x.l) with
      | true =>
        rw [h1, cond_true] at e1
        repeat refine S.seq ?_
        refine S.region ?_
        simp (disch := first | omega | (simp only [add_nx, upd_nx] <;> omega) | decide) only [rUz, ↓reduceIte, Nat.reduceEqDiff, Nat.reduceAdd, t1, hg4, fieldAddr_ptr frO0 sb, fieldAddr_ptr frO1 s3, pb, p3, cOd0, cOd1, hbx, h1]
        repeat refine S.seq ?_
        refine S.cond (v := true) (by first | rfl | (simp (disch := first | omega | (simp only [add_nx, upd_nx] <;> omega) | decide) only [rUz, ↓reduceIte, Nat.reduceEqDiff, Nat.reduceAdd] <;> rfl)) (fun _ => ?_) (fun e => by cases e)
        repeat refine S.seq ?_
        refine S.region ?_
        simp (disch := first | omega | (simp only [add_nx, upd_nx] <;> omega) | decide) only [rUz, ↓reduceIte, Nat.reduceEqDiff, Nat.reduceAdd, t6, hg4, fieldAddr_ptr frO2 s3, p3, cOd2]
        repeat refine S.seq ?_
        refine S.region ?_
        simp (disch := first | omega | (simp only [add_nx, upd_nx] <;> omega) | decide) only [rUz, ↓reduceIte, Nat.reduceEqDiff, Nat.reduceAdd, hg4, fieldAddr_ptr frO0 sb, pb, cOd0, hbx, un_not, Bool.not_true]
        repeat refine S.seq ?_
        refine S.cond (v := false) (by first | rfl | (simp (disch := first | omega | (simp only [add_nx, upd_nx] <;> omega) | decide) only [rUz, ↓reduceIte, Nat.reduceEqDiff, Nat.reduceAdd] <;> rfl)) (fun e => by cases e) (fun _ => ?_)
        repeat refine S.seq ?_
        refine S.skip ?_
        simp (disch := first | omega | (simp only [add_nx, upd_nx] <;> omega) | decide) only [rUz, ↓reduceIte, Nat.reduceEqDiff, Nat.reduceAdd]
        repeat refine S.seq ?_
        refine S.region ?_
        simp (disch := first | omega | (simp only [add_nx, upd_nx] <;> omega) | decide) only [rUz, ↓reduceIte, Nat.reduceEqDiff, Nat.reduceAdd, t8]
        refine hn (k + 1) _ _ (by omega) ⟨by omega, hk4, ?_, ?_, ?_, ?_, ?_⟩
        all_goals (first | rfl | (simp (disch := first | omega | (simp only [add_nx, upd_nx] <;> omega) | decide) only [rUz, ↓reduceIte, Nat.reduceEqDiff, Nat.reduceAdd, t1, t2, t7, e1, e2]; done) | (simp (disch := first | omega | (simp only [add_nx, upd_nx] <;> omega) | decide) only [rUz, ↓reduceIte, Nat.reduceEqDiff, Nat.reduceAdd, t1, t2, t7, e1, e2]; rfl))
      | false =>
        rw [h1, cond_false, Int.add_zero] at e1
        repeat refine S.seq ?_
        refine S.region ?_
        simp (disch := first | omega | (simp only [add_nx, upd_nx] <;> omega) | decide) only [rUz, ↓reduceIte, Nat.reduceEqDiff, Nat.reduceAdd, t1, hg4, fieldAddr_ptr frO0 sb, fieldAddr_ptr frO1 s3, pb, p3, cOd0, cOd1, hbx, h1]
        repeat refine S.seq ?_
        refine S.cond (v := false) (by first | rfl | (simp (disch := first | omega | (simp only [add_nx, upd_nx] <;> omega) | decide) only [rUz, ↓reduceIte, Nat.reduceEqDiff, Nat.reduceAdd] <;> rfl)) (fun e => by cases e) (fun _ => ?_)
        repeat refine S.seq ?_
        refine S.skip ?_
        simp (disch := first | omega | (simp only [add_nx, upd_nx] <;> omega) | decide) only [rUz, ↓reduceIte, Nat.reduceEqDiff, Nat.reduceAdd]
        repeat refine S.seq ?_
        refine S.region ?_
        simp (disch := first | omega | (simp only [add_nx, upd_nx] <;> omega) | decide) only [rUz, ↓reduceIte, Nat.reduceEqDiff, Nat.reduceAdd, hg4, fieldAddr_ptr frO0 sb, pb, cOd0, hbx, un_not, Bool.not_true]
        repeat refine S.seq ?_
        refine S.cond (v := false) (by first | rfl | (simp (disch := first | omega | (simp only [add_nx, upd_nx] <;> omega) | decide) only [rUz, ↓reduceIte, Nat.reduceEqDiff, Nat.reduceAdd] <;> rfl)) (fun e => by cases e) (fun _ => ?_)
        repeat refine S.seq ?_
        refine S.skip ?_
        simp (disch := first | omega | (simp only [add_nx, upd_nx] <;> omega) | decide) only [rUz, ↓reduceIte, Nat.reduceEqDiff, Nat.reduceAdd]
        repeat refine S.seq ?_
        refine S.region ?_
        simp (disch := first | omega | (simp only [add_nx, upd_nx] <;> omega) | decide) only [rUz, ↓reduceIte, Nat.reduceEqDiff, Nat.reduceAdd, t8]
        refine hn (k + 1) _ _ (by omega) ⟨by omega, hk4, ?_, ?_, ?_, ?_, ?_⟩
        all_goals (first | rfl | (simp (disch := first | omega | (simp only [add_nx, upd_nx] <;> omega) | decide) only [rUz, ↓reduceIte, Nat.reduceEqDiff, Nat.reduceAdd, t1, t2, t6, t7, e1, e2]; done) | (simp (disch := first | omega | (simp only [add_nx, upd_nx] <;> omega) | decide) only [rUz, ↓reduceIte, Nat.reduceEqDiff, Nat.reduceAdd, t1, t2, t6, t7, e1, e2]; rfl))
    | false =>
      rw [hbx, Bool.false_and, cond_false, Int.add_zero] at e1
      rw [hbx, Bool.not_false, Bool.true_and] at e2
      cases h1 : decide (x.l ≤ p) with
      | true =>
        rw [h1, cond_true] at e2
        repeat refine S.seq ?_
        refine S.region ?_
        simp (disch := first | omega | (simp only [add_nx, upd_nx] <;> omega) | decide) only [rUz, ↓reduceIte, Nat.reduceEqDiff, Nat.reduceAdd, hg4, fieldAddr_ptr frO0 sb, pb, cOd0, hbx]
        repeat refine S.seq ?_
        refine S.cond (v := false) (by first | rfl | (simp (disch := first | omega | (simp only [add_nx, upd_nx] <;> omega) | decide) only [rUz, ↓reduceIte, Nat.reduceEqDiff, Nat.reduceAdd] <;> rfl)) (fun e => by cases e) (fun _ => ?_)
        repeat refine S.seq ?_
        refine S.skip ?_
        simp (disch := first | omega | (simp only [add_nx, upd_nx] <;> omega) | decide) only [rUz, ↓reduceIte, Nat.reduceEqDiff, Nat.reduceAdd]
        repeat refine S.seq ?_
        refine S.region ?_
        simp (disch := first | omega | (simp only [add_nx, upd_nx] <;> omega) | decide) only [rUz, ↓reduceIte, Nat.reduceEqDiff, Nat.reduceAdd, t1, hg4, fieldAddr_ptr frO0 sb, fieldAddr_ptr frO1 s3, pb, p3, cOd0, cOd1, hbx, un_not, Bool.not_false, h1]
        repeat refine S.seq ?_
        refine S.cond (v := true) (by first | rfl | (simp (disch := first | omega | (simp only [add_nx, upd_nx] <;> omega) | decide) only [rUz, ↓reduceIte, Nat.reduceEqDiff, Nat.reduceAdd] <;> rfl)) (fun _ => ?_) (fun e => by cases e)
        repeat refine S.seq ?_
        refine S.region ?_
        simp (disch := first | omega | (simp only [add_nx, upd_nx] <;> omega) | decide) only [rUz, ↓reduceIte, Nat.reduceEqDiff, Nat.reduceAdd, t7, hg4, fieldAddr_ptr frO2 s3, p3, cOd2]
        repeat refine S.seq ?_
        refine S.region ?_
        simp (disch := first | omega | (simp only [add_nx, upd_nx] <;> omega) | decide) only [rUz, ↓reduceIte, Nat.reduceEqDiff, Nat.reduceAdd, t8]
        refine hn (k + 1) _ _ (by omega) ⟨by omega, hk4, ?_, ?_, ?_, ?_, ?_⟩
        all_goals (first | rfl | (simp (disch := first | omega | (simp only [add_nx, upd_nx] <;> omega) | decide) only [rUz, ↓reduceIte, Nat.reduceEqDiff, Nat.reduceAdd, t1, t2, t6, e1, e2]; done) | (simp (disch := first | omega | (simp only [add_nx, upd_nx] <;> omega) | decide) only [rUz, ↓reduceIte, Nat.reduceEqDiff, Nat.reduceAdd, t1, t2, t6, e1, e2]; rfl))
      | false =>
        rw [h1, cond_false, Int.add_zero] at e2
        repeat refine S.seq ?_
        refine S.region ?_
        simp (disch := first | omega | (simp only [add_nx, upd_nx] <;> omega) | decide) only [rUz, ↓reduceIte, Nat.reduceEqDiff, Nat.reduceAdd, hg4, fieldAddr_ptr frO0 sb, pb, cOd0, hbx]
        repeat refine S.seq ?_
        refine S.cond (v := false) (by first | rfl | (simp (disch := first | omega | (simp only [add_nx, upd_nx] <;> omega) | decide) only [rUz, ↓reduceIte, Nat.reduceEqDiff, Nat.reduceAdd] <;> rfl)) (fun e => by cases e) (fun _ => ?_)
        repeat refine S.seq ?_
        refine S.skip ?_
        simp (disch := first | omega | (simp only [add_nx, upd_nx] <;> omega) | decide) only [rUz, ↓reduceIte, Nat.reduceEqDiff, Nat.reduceAdd]
        repeat refine S.seq ?_
        refine S.region ?_
        simp (disch := first | omega | (simp only [add_nx, upd_nx] <;> omega) | decide) only [rUz, ↓reduceIte, Nat.reduceEqDiff, Nat.reduceAdd, t1, hg4, fieldAddr_ptr frO0 sb, fieldAddr_ptr frO1 s3, pb, p3, cOd0, cOd1, hbx, un_not, Bool.not_false, h1]
        repeat refine S.seq ?_
        refine S.cond (v := false) (by first | rfl | (simp (disch := first | omega | (simp only [add_nx, upd_nx] <;> omega) | decide) only [rUz, ↓reduceIte, Nat.reduceEqDiff, Nat.reduceAdd] <;> rfl)) (fun e => by cases e) (fun _ => ?_)
        repeat refine S.seq ?_
        refine S.skip ?_
        simp (disch := first | omega | (simp only [add_nx, upd_nx] <;> omega) | decide) only [rUz, ↓reduceIte, Nat.reduceEqDiff, Nat.reduceAdd]
        repeat refine S.seq ?_
        refine S.region ?_
        simp (disch := first | omega | (simp only [add_nx, upd_nx] <;> omega) | decide) only [rUz, ↓reduceIte, Nat.reduceEqDiff, Nat.reduceAdd, t8]
        refine hn (k + 1) _ _ (by omega) ⟨by omega, hk4, ?_, ?_, ?_, ?_, ?_⟩
        all_goals (first | rfl | (simp (disch := first | omega | (simp only [add_nx, upd_nx] <;> omega) | decide) only [rUz, ↓reduceIte, Nat.reduceEqDiff, Nat.reduceAdd, t1, t2, t6, t7, e1, e2]; done) | (simp (disch := first | omega | (simp only [add_nx, upd_nx] <;> omega) | decide) only [rUz, ↓reduceIte, Nat.reduceEqDiff, Nat.reduceAdd, t1, t2, t6, t7, e1, e2]; rfl))
  have hkn : k = O.length := by have := of_decide_eq_false e; omega
  subst hkn
  rw [List.take_of_length_le (Nat.le_refl _)] at t6 t7 bb sb'
  have hs1 : shZ O p = min2 (sumO (buyN p) O) (sumO (sellN p) O) := rfl
  have hs2 : suZ O p = max2 (sumO (buyN p) O) (sumO (sellN p) O) - min2 (sumO (buyN p) O) (sumO (sellN p) O) := rfl
  rw [hs1, hs2] at hK
  generalize sumO (buyN p) O = X at t6 bb hK
  generalize sumO (sellN p) O = Y at t7 sb' hK
  obtain ⟨m1, m2, m3, m4, m5, m6⟩ := mm_bnd bb sb'
  refine S.exit (he _ _ _ _ (fun e => by cases e) ?_)
  simp (disch := first | omega | (simp only [add_nx, upd_nx] <;> omega) | decide) only [rUz, ↓reduceIte, Nat.reduceEqDiff, Nat.reduceAdd]
  repeat refine S.seq ?_
  refine S.region ?_
  simp (disch := first | omega | (simp only [add_nx, upd_nx] <;> omega) | decide) only [rUz, ↓reduceIte, Nat.reduceEqDiff, Nat.reduceAdd, t6, t7, w_min, rd_min]
  refine optR_of' (v := iv (min2 X Y)) (call2_congr (t' := T.set 49 (T.set 48 .leaf 47 (iv X)) 48 (iv Y)) (u := iv X) (v := iv Y) (by simp (disch := first | omega | (simp only [add_nx, upd_nx] <;> omega) | decide) only [rUz, ↓reduceIte, Nat.reduceEqDiff, Nat.reduceAdd]) (by simp (disch := first | omega | (simp only [add_nx, upd_nx] <;> omega) | decide) only [rUz, ↓reduceIte, Nat.reduceEqDiff, Nat.reduceAdd]) (by simp (disch := first | omega | (simp only [add_nx, upd_nx] <;> omega) | decide) only [rUz, ↓reduceIte, Nat.reduceEqDiff, Nat.reduceAdd]) (by simp (disch := first | omega | (simp only [add_nx, upd_nx] <;> omega) | decide) only [rUz, ↓reduceIte, Nat.reduceEqDiff, Nat.reduceAdd]) (by kernel_rfl)) ?_
  simp (disch := first | omega | (simp only [add_nx, upd_nx] <;> omega) | decide) only [rUz, ↓reduceIte, Nat.reduceEqDiff, Nat.reduceAdd, t6, t7, w_max, rd_max]
  refine optR_of' (v := iv (max2 X Y)) (call2_congr (t' := T.set 52 (T.set 51 .leaf 50 (iv X)) 51 (iv Y)) (u := iv X) (v := iv Y) (by simp (disch := first | omega | (simp only [add_nx, upd_nx] <;> omega) | decide) only [rUz, ↓reduceIte, Nat.reduceEqDiff, Nat.reduceAdd]) (by simp (disch := first | omega | (simp only [add_nx, upd_nx] <;> omega) | decide) only [rUz, ↓reduceIte, Nat.reduceEqDiff, Nat.reduceAdd]) (by simp (disch := first | omega | (simp only [add_nx, upd_nx] <;> omega) | decide) only [rUz, ↓reduceIte, Nat.reduceEqDiff, Nat.reduceAdd]) (by simp (disch := first | omega | (simp only [add_nx, upd_nx] <;> omega) | decide) only [rUz, ↓reduceIte, Nat.reduceEqDiff, Nat.reduceAdd]) (by kernel_rfl)) ?_
  simp (disch := first | omega | (simp only [add_nx, upd_nx] <;> omega) | decide) only [rUz, ↓reduceIte, Nat.reduceEqDiff, Nat.reduceAdd, t6, t7, w_min, rd_min]
  refine optR_of' (v := iv (min2 X Y)) (call2_congr (t' := T.set 55 (T.set 54 .leaf 53 (iv X)) 54 (iv Y)) (u := iv X) (v := iv Y) (by simp (disch := first | omega | (simp only [add_nx, upd_nx] <;> omega) | decide) only [rUz, ↓reduceIte, Nat.reduceEqDiff, Nat.reduceAdd]) (by simp (disch := first | omega | (simp only [add_nx, upd_nx] <;> omega) | decide) only [rUz, ↓reduceIte, Nat.reduceEqDiff, Nat.reduceAdd]) (by simp (disch := first | omega | (simp only [add_nx, upd_nx] <;> omega) | decide) only [rUz, ↓reduceIte, Nat.reduceEqDiff, Nat.reduceAdd]) (by simp (disch := first | omega | (simp only [add_nx, upd_nx] <;> omega) | decide) only [rUz, ↓reduceIte, Nat.reduceEqDiff, Nat.reduceAdd]) (by kernel_rfl)) ?_
  simp (disch := first | omega | (simp only [add_nx, upd_nx] <;> omega) | decide) only [rUz, ↓reduceIte, Nat.reduceEqDiff, Nat.reduceAdd]
  refine S.ret ?_
  try simp only [seqK_ret, blockK_ret]
  subst hF
  simp only [finish, endMarks]
  rw [show Tryz.f52.results.toList = [.tmp 4, .tmp 5] from rfl]
  simp (disch := first | omega | (simp only [add_nx, upd_nx] <;> omega) | decide) only [resA, ev_tmp, tget_ne, tget_eq, get_ne, get_eq, upd_eq, upd_ne, ag_eq, ag_ne, result1]
  exact hK _ _ (hk1.trans hkp) rfl
/-! ## The best price -/
def moreB (O : List Od) (p q : Int) : Bool := decide (shZ O q < shZ O p) || (decide (shZ O p = shZ O q) && decide (suZ O p < suZ O q))
def rbestZ (O : List Od) : Nat → Int
  | 0 => 1
  | k + 1 => bif moreB O ((k : Int) + 2) (rbestZ O k) then (k : Int) + 2 else rbestZ O k
theorem rbest_bnd (O : List Od) : ∀ k, 1 ≤ rbestZ O k ∧ rbestZ O k ≤ (k : Int) + 1
  | 0 => by simp [rbestZ]
  | k + 1 => by
    have := rbest_bnd O k
    unfold rbestZ
    cases moreB O ((k : Int) + 2) (rbestZ O k) with
    | true => rw [cond_true]; omega
    | false => rw [cond_false]; omega
theorem better_eq (O : List Od) (p q : Int) : betterB (offZ O p) (offZ O q) = moreB O p q := by
  rw [Bool.eq_iff_iff]
  show decide (0 < orZ [cmpZ (shZ O p) (shZ O q), cmpZ (suZ O q) (suZ O p)]) = true ↔ _
  unfold moreB cmpZ
  simp only [orZ]
  generalize shZ O p = a
  generalize shZ O q = b
  generalize suZ O p = c
  generalize suZ O q = d
  by_cases h1 : a < b
  · simp [h1]; omega
  · by_cases h2 : b < a
    · simp [h1, h2]
    · have : a = b := by omega
      subst this
      by_cases h3 : d < c
      · simp [h3]; omega
      · by_cases h4 : c < d
        · simp [h3, h4]
        · simp [h3, h4]
theorem better0 {O : List Od} (hv : Val O) (p : Int) : betterB (offZ O p) (0, 0, 0) = decide (0 < shZ O p) := by
  obtain ⟨h1, h2⟩ := off_bnd hv p
  obtain ⟨m1, m2, m3, m4, m5, m6⟩ := mm_bnd h1 h2
  rw [Bool.eq_iff_iff]
  show decide (0 < orZ [cmpZ (shZ O p) 0, cmpZ 0 (suZ O p)]) = true ↔ _
  have m3' : 0 ≤ suZ O p := m3
  have m1' : 0 ≤ shZ O p := m1
  unfold cmpZ
  simp only [orZ]
  generalize shZ O p = a at m1' ⊢
  generalize suZ O p = c at m3' ⊢
  by_cases h1 : 0 < a
  · have : ¬ a < 0 := by omega
    simp [h1, this]
  · have : a = 0 := by omega
    subst this
    by_cases h4 : 0 < c
    · simp [h4]
    · have : c = 0 := by omega
      subst this; simp
theorem best_eq {O : List Od} (hv : Val O) : ∀ n : Nat, (bestZ O (n + 1) = (0, 0, 0) ∧ shZ O (rbestZ O n) = 0) ∨ (bestZ O (n + 1) = offZ O (rbestZ O n) ∧ 0 < shZ O (rbestZ O n))
  | 0 => by
    have e : bestZ O 1 = bif betterB (offZ O ((0 : Nat) + 1)) (0, 0, 0) then offZ O ((0 : Nat) + 1) else (0, 0, 0) := rfl
    rw [e, better0 hv]
    have hp : (((0 : Nat) : Int) + 1) = 1 := rfl
    rw [hp]
    show (_ ∧ shZ O 1 = 0) ∨ (_ = offZ O 1 ∧ 0 < shZ O 1)
    obtain ⟨h1, h2⟩ := off_bnd hv 1
    have m1 : 0 ≤ shZ O 1 := (mm_bnd h1 h2).1
    by_cases h : 0 < shZ O 1
    · rw [decide_eq_true h]; exact .inr ⟨rfl, h⟩
    · rw [decide_eq_false h]; exact .inl ⟨rfl, by omega⟩
  | n + 1 => by
    have ih := best_eq hv n
    have e : bestZ O (n + 1 + 1) = bif betterB (offZ O (((n + 1 : Nat) : Int) + 1)) (bestZ O (n + 1)) then offZ O (((n + 1 : Nat) : Int) + 1) else bestZ O (n + 1) := rfl
    have hp : (((n + 1 : Nat) : Int) + 1) = (n : Int) + 2 := by omega
    rw [hp] at e
    have er : rbestZ O (n + 1) = bif moreB O ((n : Int) + 2) (rbestZ O n) then (n : Int) + 2 else rbestZ O n := rfl
    obtain ⟨h1, h2⟩ := off_bnd hv ((n : Int) + 2)
    have m1 : 0 ≤ shZ O ((n : Int) + 2) := (mm_bnd h1 h2).1
    rcases ih with ⟨i1, i2⟩ | ⟨i1, i2⟩
    · rw [i1, better0 hv] at e
      by_cases h : 0 < shZ O ((n : Int) + 2)
      · have hm : moreB O ((n : Int) + 2) (rbestZ O n) = true := by
          unfold moreB
          rw [decide_eq_true (show shZ O (rbestZ O n) < shZ O ((n : Int) + 2) by omega), Bool.true_or]
        rw [hm, cond_true] at er
        rw [decide_eq_true h, cond_true] at e
        exact .inr ⟨by rw [e, er], by rw [er]; exact h⟩
      · rw [decide_eq_false h, cond_false] at e
        refine .inl ⟨e, ?_⟩
        rw [er]
        cases moreB O ((n : Int) + 2) (rbestZ O n) with
        | true => rw [cond_true]; omega
        | false => rw [cond_false]; exact i2
    · rw [i1, better_eq] at e
      cases hm : moreB O ((n : Int) + 2) (rbestZ O n) with
      | true =>
        rw [hm, cond_true] at e er
        refine .inr ⟨by rw [e, er], ?_⟩
        rw [er]
        unfold moreB at hm
        simp only [Bool.or_eq_true, Bool.and_eq_true, decide_eq_true_eq] at hm
        rcases hm with hm | ⟨hm, _⟩ <;> omega
      | false =>
        rw [hm, cond_false] at e er
        exact .inr ⟨by rw [e, er], by rw [er]; exact i2⟩
structure IRo (O : List Od) (H : AHeap) (B1 : Nat) (k : Nat) (t : T Value) (h : AHeap) : Prop where
  hk : k ≤ 99
  kp : Kp H h
  t1 : tget t 1 = ptr0 B1
  t4 : tget t 4 = iv (rbestZ O k)
  t5 : tget t 5 = iv ((k : Int) + 2)
set_option maxHeartbeats 16000000 in
theorem ropen_y (S : Ev.Steps Tryz.prog pr R) (hoff : Off pr) (h0 : AHeap) (v : Value) (O : List Od) (hb : PoAt h0 v O) (hv : Val O) :
    Brings Tryz.prog R 32 [.agg ⟨poV v⟩] h0 fun u _ => u = .tuple ⟨[iv (rbestZ O 99), iv (shZ O (rbestZ O 99))]⟩ := by
  refine brings_of (fn := Tryz.f32) (c := (Tryz.f32.body).getD .skip) (by kernel_rfl) rfl (by kernel_rfl) rfl (fun K hK => ?_)
  generalize hF : finish Tryz.prog Tryz.f32 K = KF
  simp only [Tryz.f32, Option.getD_some, argsT, setArgs, fV1_eq, T.setK_eq, id]
  have tp0 : ∀ a b : Value, (⟨[a, b]⟩ : Array Value)[0]? = some a := fun _ _ => rfl
  have tp1 : ∀ a b : Value, (⟨[a, b]⟩ : Array Value)[1]? = some b := fun _ _ => rfl
  repeat refine S.seq ?_
  refine S.region ?_
  simp (disch := first | omega | (simp only [add_nx, upd_nx] <;> omega) | decide) only [rUz, ↓reduceIte, Nat.reduceEqDiff, Nat.reduceAdd]
  have hb1 : (h0.add (poV v)).bl.get h0.nx = some (.cells (poV v) h0.nx false) := ag_eq rfl
  have hn1 : h0.nx < (h0.add (poV v)).nx := Nat.lt_succ_self _
  have hk1 : Kp h0 (h0.add (poV v)) := Kp.refl.add
  generalize h0.add (poV v) = H at hb1 hn1 hk1 ⊢
  generalize h0.nx = B1 at hb1 hn1 ⊢
  have hbH := hb.mono hk1
  clear hb
  repeat refine S.seq ?_
  refine S.region ?_
  simp (disch := first | omega | (simp only [add_nx, upd_nx] <;> omega) | decide) only [rUz, ↓reduceIte, Nat.reduceEqDiff, Nat.reduceAdd]
  repeat refine S.seq ?_
  refine S.region ?_
  simp (disch := first | omega | (simp only [add_nx, upd_nx] <;> omega) | decide) only [rUz, ↓reduceIte, Nat.reduceEqDiff, Nat.reduceAdd]
  repeat refine S.seq ?_
  refine S.block ?_
  refine S.loop (ι := Nat) (IRo O H B1) (fun k => 99 - k) ?_ 0 _ _ ?_
  rotate_left
  · refine ⟨Nat.zero_le _, Kp.refl, ?_, ?_, ?_⟩
    all_goals (first | rfl | (simp (disch := first | omega | (simp only [add_nx, upd_nx] <;> omega) | decide) only [rUz, ↓reduceIte, Nat.reduceEqDiff, Nat.reduceAdd]; done) | (simp (disch := first | omega | (simp only [add_nx, upd_nx] <;> omega) | decide) only [rUz, ↓reduceIte, Nat.reduceEqDiff, Nat.reduceAdd]; rfl))
  intro k t h ⟨hk, hkp, t1, t4, t5⟩ K' hn he
  have hb1h := (hkp.get hn1).trans hb1
  have hrb := rbest_bnd O k
  repeat refine S.seq ?_
  refine S.region ?_
  simp (disch := first | omega | (simp only [add_nx, upd_nx] <;> omega) | decide) only [rUz, ↓reduceIte, Nat.reduceEqDiff, Nat.reduceAdd, t5]
  repeat refine S.seq ?_
  refine S.cond (v := decide ((k : Int) + 2 ≤ 100)) (by first | rfl | (simp (disch := first | omega | (simp only [add_nx, upd_nx] <;> omega) | decide) only [rUz, ↓reduceIte, Nat.reduceEqDiff, Nat.reduceAdd] <;> rfl)) (fun e => ?_) (fun e => ?_)
  · have hkn : k < 99 := by have := of_decide_eq_true e; omega
    clear e
    repeat refine S.seq ?_
    refine S.skip ?_
    simp (disch := first | omega | (simp only [add_nx, upd_nx] <;> omega) | decide) only [rUz, ↓reduceIte, Nat.reduceEqDiff, Nat.reduceAdd]
    repeat refine S.seq ?_
    refine S.block ?_
    repeat refine S.seq ?_
    refine S.region ?_
    simp (disch := first | omega | (simp only [add_nx, upd_nx] <;> omega) | decide) only [rUz, ↓reduceIte, Nat.reduceEqDiff, Nat.reduceAdd, t1, t5, hb1h, part_0 pA (poV_len v)]
    refine wr_brings (fid := 52) (first := #[]) (captured := #[]) (Post := fun u _ => u = .tuple ⟨[iv (shZ O ((k : Int) + 2)), iv (suZ O ((k : Int) + 2))]⟩) rfl (hoff _ _ _ rfl) (by simp (disch := first | omega | (simp only [add_nx, upd_nx] <;> omega) | decide) only [rUz, ↓reduceIte, Nat.reduceEqDiff, Nat.reduceAdd]; exact rshares_y S hoff h v O _ (hbH.mono hkp) hv) ?_
    rintro u g hkg rfl
    have hb1g := (hkg.get (Nat.lt_of_lt_of_le hn1 hkp.1)).trans hb1h
    have hkpg := hkp.trans hkg
    simp (disch := first | omega | (simp only [add_nx, upd_nx] <;> omega) | decide) only [rUz, ↓reduceIte, Nat.reduceEqDiff, Nat.reduceAdd, tp0, tp1]
    repeat refine S.seq ?_
    refine S.region ?_
    simp (disch := first | omega | (simp only [add_nx, upd_nx] <;> omega) | decide) only [rUz, ↓reduceIte, Nat.reduceEqDiff, Nat.reduceAdd, t1, t4, hb1g, part_0 pA (poV_len v)]
    refine wr_brings (fid := 52) (first := #[]) (captured := #[]) (Post := fun u _ => u = .tuple ⟨[iv (shZ O (rbestZ O k)), iv (suZ O (rbestZ O k))]⟩) rfl (hoff _ _ _ rfl) (by simp (disch := first | omega | (simp only [add_nx, upd_nx] <;> omega) | decide) only [rUz, ↓reduceIte, Nat.reduceEqDiff, Nat.reduceAdd]; exact rshares_y S hoff g v O _ (hbH.mono hkpg) hv) ?_
    rintro u g2 hkg2 rfl
    have hkp2 := hkpg.trans hkg2
    have er : rbestZ O (k + 1) = bif moreB O ((k : Int) + 2) (rbestZ O k) then (k : Int) + 2 else rbestZ O k := rfl
    unfold moreB at er
    simp (disch := first | omega | (simp only [add_nx, upd_nx] <;> omega) | decide) only [rUz, ↓reduceIte, Nat.reduceEqDiff, Nat.reduceAdd, tp0, tp1]
    generalize rbestZ O k = r at t4 er hrb
    generalize shZ O ((k : Int) + 2) = a at er
    generalize suZ O ((k : Int) + 2) = c at er
    generalize shZ O r = b at er
    generalize suZ O r = d at er
    cases h1 : decide (b < a) with
    | true =>
      rw [h1, Bool.true_or, cond_true] at er
      repeat refine S.seq ?_
      refine S.region ?_
      simp (disch := first | omega | (simp only [add_nx, upd_nx] <;> omega) | decide) only [rUz, ↓reduceIte, Nat.reduceEqDiff, Nat.reduceAdd, h1]
      repeat refine S.seq ?_
      refine S.cond (v := true) (by first | rfl | (simp (disch := first | omega | (simp only [add_nx, upd_nx] <;> omega) | decide) only [rUz, ↓reduceIte, Nat.reduceEqDiff, Nat.reduceAdd] <;> rfl)) (fun _ => ?_) (fun e => by cases e)
      repeat refine S.seq ?_
      refine S.region ?_
      simp (disch := first | omega | (simp only [add_nx, upd_nx] <;> omega) | decide) only [rUz, ↓reduceIte, Nat.reduceEqDiff, Nat.reduceAdd, t5]
      repeat refine S.seq ?_
      refine S.region ?_
      simp (disch := first | omega | (simp only [add_nx, upd_nx] <;> omega) | decide) only [rUz, ↓reduceIte, Nat.reduceEqDiff, Nat.reduceAdd, t5]
      refine hn (k + 1) _ _ (by omega) ⟨by omega, hkp2, ?_, ?_, ?_⟩
      · simp (disch := first | omega | (simp only [add_nx, upd_nx] <;> omega) | decide) only [rUz, ↓reduceIte, Nat.reduceEqDiff, Nat.reduceAdd, t1]
      · simp (disch := first | omega | (simp only [add_nx, upd_nx] <;> omega) | decide) only [rUz, ↓reduceIte, Nat.reduceEqDiff, Nat.reduceAdd, er]
      · simp (disch := first | omega | (simp only [add_nx, upd_nx] <;> omega) | decide) only [rUz, ↓reduceIte, Nat.reduceEqDiff, Nat.reduceAdd]
        rw [show (k : Int) + 2 + 1 = (k : Int) + 1 + 2 from by omega]
    | false =>
    rw [h1, Bool.false_or] at er
    cases h2 : decide (a = b) with
    | false =>
      rw [h2, Bool.false_and, cond_false] at er
      repeat refine S.seq ?_
      refine S.region ?_
      simp (disch := first | omega | (simp only [add_nx, upd_nx] <;> omega) | decide) only [rUz, ↓reduceIte, Nat.reduceEqDiff, Nat.reduceAdd, h1, h2]
      repeat refine S.seq ?_
      refine S.cond (v := false) (by first | rfl | (simp (disch := first | omega | (simp only [add_nx, upd_nx] <;> omega) | decide) only [rUz, ↓reduceIte, Nat.reduceEqDiff, Nat.reduceAdd] <;> rfl)) (fun e => by cases e) (fun _ => ?_)
      repeat refine S.seq ?_
      refine S.skip ?_
      simp (disch := first | omega | (simp only [add_nx, upd_nx] <;> omega) | decide) only [rUz, ↓reduceIte, Nat.reduceEqDiff, Nat.reduceAdd]
      repeat refine S.seq ?_
      refine S.region ?_
      simp (disch := first | omega | (simp only [add_nx, upd_nx] <;> omega) | decide) only [rUz, ↓reduceIte, Nat.reduceEqDiff, Nat.reduceAdd, t5]
      refine hn (k + 1) _ _ (by omega) ⟨by omega, hkp2, ?_, ?_, ?_⟩
      · simp (disch := first | omega | (simp only [add_nx, upd_nx] <;> omega) | decide) only [rUz, ↓reduceIte, Nat.reduceEqDiff, Nat.reduceAdd, t1]
      · simp (disch := first | omega | (simp only [add_nx, upd_nx] <;> omega) | decide) only [rUz, ↓reduceIte, Nat.reduceEqDiff, Nat.reduceAdd, t4, er]
      · simp (disch := first | omega | (simp only [add_nx, upd_nx] <;> omega) | decide) only [rUz, ↓reduceIte, Nat.reduceEqDiff, Nat.reduceAdd]
        rw [show (k : Int) + 2 + 1 = (k : Int) + 1 + 2 from by omega]
    | true =>
    rw [h2, Bool.true_and] at er
    cases h3 : decide (c < d) with
    | false =>
      rw [h3, cond_false] at er
      repeat refine S.seq ?_
      refine S.region ?_
      simp (disch := first | omega | (simp only [add_nx, upd_nx] <;> omega) | decide) only [rUz, ↓reduceIte, Nat.reduceEqDiff, Nat.reduceAdd, h1, h2, h3]
      repeat refine S.seq ?_
      refine S.cond (v := false) (by first | rfl | (simp (disch := first | omega | (simp only [add_nx, upd_nx] <;> omega) | decide) only [rUz, ↓reduceIte, Nat.reduceEqDiff, Nat.reduceAdd] <;> rfl)) (fun e => by cases e) (fun _ => ?_)
      repeat refine S.seq ?_
      refine S.skip ?_
      simp (disch := first | omega | (simp only [add_nx, upd_nx] <;> omega) | decide) only [rUz, ↓reduceIte, Nat.reduceEqDiff, Nat.reduceAdd]
      repeat refine S.seq ?_
      refine S.region ?_
      simp (disch := first | omega | (simp only [add_nx, upd_nx] <;> omega) | decide) only [rUz, ↓reduceIte, Nat.reduceEqDiff, Nat.reduceAdd, t5]
      refine hn (k + 1) _ _ (by omega) ⟨by omega, hkp2, ?_, ?_, ?_⟩
      · simp (disch := first | omega | (simp only [add_nx, upd_nx] <;> omega) | decide) only [rUz, ↓reduceIte, Nat.reduceEqDiff, Nat.reduceAdd, t1]
      · simp (disch := first | omega | (simp only [add_nx, upd_nx] <;> omega) | decide) only [rUz, ↓reduceIte, Nat.reduceEqDiff, Nat.reduceAdd, t4, er]
      · simp (disch := first | omega | (simp only [add_nx, upd_nx] <;> omega) | decide) only [rUz, ↓reduceIte, Nat.reduceEqDiff, Nat.reduceAdd]
        rw [show (k : Int) + 2 + 1 = (k : Int) + 1 + 2 from by omega]
    | true =>
      rw [h3, cond_true] at er
      repeat refine S.seq ?_
      refine S.region ?_
      simp (disch := first | omega | (simp only [add_nx, upd_nx] <;> omega) | decide) only [rUz, ↓reduceIte, Nat.reduceEqDiff, Nat.reduceAdd, h1, h2, h3]
      repeat refine S.seq ?_
      refine S.cond (v := true) (by first | rfl | (simp (disch := first | omega | (simp only [add_nx, upd_nx] <;> omega) | decide) only [rUz, ↓reduceIte, Nat.reduceEqDiff, Nat.reduceAdd] <;> rfl)) (fun _ => ?_) (fun e => by cases e)
      repeat refine S.seq ?_
      refine S.region ?_
      simp (disch := first | omega | (simp only [add_nx, upd_nx] <;> omega) | decide) only [rUz, ↓reduceIte, Nat.reduceEqDiff, Nat.reduceAdd, t5]
      repeat refine S.seq ?_
      refine S.region ?_
      simp (disch := first | omega | (simp only [add_nx, upd_nx] <;> omega) | decide) only [rUz, ↓reduceIte, Nat.reduceEqDiff, Nat.reduceAdd, t5]
      refine hn (k + 1) _ _ (by omega) ⟨by omega, hkp2, ?_, ?_, ?_⟩
      · simp (disch := first | omega | (simp only [add_nx, upd_nx] <;> omega) | decide) only [rUz, ↓reduceIte, Nat.reduceEqDiff, Nat.reduceAdd, t1]
      · simp (disch := first | omega | (simp only [add_nx, upd_nx] <;> omega) | decide) only [rUz, ↓reduceIte, Nat.reduceEqDiff, Nat.reduceAdd, er]
      · simp (disch := first | omega | (simp only [add_nx, upd_nx] <;> omega) | decide) only [rUz, ↓reduceIte, Nat.reduceEqDiff, Nat.reduceAdd]
        rw [show (k : Int) + 2 + 1 = (k : Int) + 1 + 2 from by omega]
  have hkn : k = 99 := by have := of_decide_eq_false e; omega
  subst hkn
  refine S.exit (he _ _ _ _ (fun e => by cases e) ?_)
  simp (disch := first | omega | (simp only [add_nx, upd_nx] <;> omega) | decide) only [rUz, ↓reduceIte, Nat.reduceEqDiff, Nat.reduceAdd]
  repeat refine S.seq ?_
  refine S.region ?_
  simp (disch := first | omega | (simp only [add_nx, upd_nx] <;> omega) | decide) only [rUz, ↓reduceIte, Nat.reduceEqDiff, Nat.reduceAdd, t1, t4, hb1h, part_0 pA (poV_len v)]
  refine wr_brings (fid := 52) (first := #[]) (captured := #[]) (Post := fun u _ => u = .tuple ⟨[iv (shZ O (rbestZ O 99)), iv (suZ O (rbestZ O 99))]⟩) rfl (hoff _ _ _ rfl) (by simp (disch := first | omega | (simp only [add_nx, upd_nx] <;> omega) | decide) only [rUz, ↓reduceIte, Nat.reduceEqDiff, Nat.reduceAdd]; exact rshares_y S hoff h v O _ (hbH.mono hkp) hv) ?_
  rintro u g hkg rfl
  simp (disch := first | omega | (simp only [add_nx, upd_nx] <;> omega) | decide) only [rUz, ↓reduceIte, Nat.reduceEqDiff, Nat.reduceAdd, tp0, tp1]
  repeat refine S.seq ?_
  refine S.region ?_
  simp (disch := first | omega | (simp only [add_nx, upd_nx] <;> omega) | decide) only [rUz, ↓reduceIte, Nat.reduceEqDiff, Nat.reduceAdd, t4]
  refine S.ret ?_
  try simp only [seqK_ret, blockK_ret]
  subst hF
  simp only [finish, endMarks]
  rw [show Tryz.f32.results.toList = [.tmp 2, .tmp 3] from rfl]
  simp (disch := first | omega | (simp only [add_nx, upd_nx] <;> omega) | decide) only [resA, ev_tmp, tget_ne, tget_eq, get_ne, get_eq, upd_eq, upd_ne, ag_eq, ag_ne, result1]
  exact hK _ _ (hk1.trans (hkp.trans hkg)) rfl
end Go.Proofs.Po
