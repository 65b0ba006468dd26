import Derived.Test.YtfbkgnojdngiiaaMh3
/- Whether a truth is one of a bank, by the words of the document. -/
namespace Go.Proofs.Mg
open Go Go.Ev Go.RowKit
set_option linter.unusedSimpArgs false
variable {pr : Prim} {R : ExT}
def pricesB (rs : List R2) (ps : List Int) : Bool := (List.zip rs ps).all fun z => inB z.2 z.1.1 z.1.2
def okT1 (st : Int) (z : PD × PT × Int) : Bool := decide ((z.2.1.2.length : Int) = st) && inB z.2.2 z.1.2.2.1 z.1.2.2.2
def okT (st : Int) (z : PD × PT × Int) : Bool := okT1 st z && pricesB z.1.2.1 z.2.1.2
def truthB (st : Int) (D : List PD) (T : List PT) (rt : List Int) : Bool :=
  decide ((T.length : Int) = (D.length : Int)) && (decide ((rt.length : Int) = (D.length : Int)) && (List.zip D (List.zip T rt)).all (okT st))
structure IUa (st : Int) (Z : List (PD × PT × Int)) (H : AHeap) (B2 B3 : Nat) (k : Nat) (t : T Value) (h : AHeap) : Prop where
  kp : Kp H h
  t2 : tget t 2 = ptr0 B2
  t3 : tget t 3 = ptr0 B3
  t5 : tget t 5 = iv (k : Int)
  ha : Z.all (okT st) = (Z.drop k).all (okT st)
  hk : k ≤ Z.length
structure IUb (rs : List R2) (ps : List Int) (H : AHeap) (B2 B3 B6 : Nat) (k : Nat) (j : Nat) (t : T Value) (h : AHeap) : Prop where
  hh : h = H
  t2 : tget t 2 = ptr0 B2
  t3 : tget t 3 = ptr0 B3
  t5 : tget t 5 = iv (k : Int)
  t6 : tget t 6 = ptr0 B6
  t7 : tget t 7 = iv (j : Int)
  ha : pricesB rs ps = ((List.zip rs ps).drop j).all fun z => inB z.2 z.1.1 z.1.2
  hj : j ≤ rs.length
set_option maxHeartbeats 16000000 in
theorem isTruth_y (S : Ev.Steps Try.prog pr R) (hoff : Off pr) (h0 : AHeap) (st : Int) (dv lv pv rv : Value) (D : List PD) (L : List PL) (T' : List PT) (rt : List Int) (hb : BkAt h0 dv lv D L) (ht : TuAt h0 pv rv T' rt) (hv : Val st D L) :
    Brings Try.prog R 29 [.agg ⟨bkV st dv lv⟩, .agg ⟨tuV pv rv⟩] h0 fun u _ => u = .bool (truthB st D T' rt) := by
  refine brings_of (fn := Try.f29) (c := (Try.f29.body).getD .skip) (by kernel_rfl) rfl (by kernel_rfl) rfl (fun K hK => ?_)
  generalize hF : finish Try.prog Try.f29 K = KF
  simp only [Try.f29, Option.getD_some, argsT, setArgs, fV1_eq, T.setK_eq, id]
  have hKb : truthB st D T' rt = false → ∀ g, Kp h0 g → K (.bool false) g = true := fun e g hk => hK _ _ hk (by rw [e])
  have hKg : truthB st D T' rt = true → ∀ g, Kp h0 g → K (.bool true) g = true := fun e g hk => hK _ _ hk (by rw [e])
  clear hK
  unfold truthB at hKb hKg
  have lD := fun t h1 o => row_len hb.dy isrD t h1 o
  have lT := fun t h1 o => row_len ht.pr isII t h1 o
  have lR := fun t h1 o => iv_len ht.rt t h1 o
  repeat refine S.seq ?_
  refine S.region ?_
  simp (disch := first | omega | (simp only [add_nx, upd_nx] <;> omega) | decide) only [rUz, ↓reduceIte, Nat.reduceEqDiff, Nat.reduceAdd]
  obtain ⟨B2, hB2⟩ : ∃ x, x = h0.nx := ⟨_, rfl⟩
  obtain ⟨B3, hB3⟩ : ∃ x, x = h0.nx + 1 := ⟨_, rfl⟩
  have hb2 : ((h0.add (bkV st dv lv)).add (tuV pv rv)).bl.get B2 = some (.cells (bkV st dv lv) B2 false) := by rw [ag_ne (by show B2 ≠ h0.nx + 1; omega)]; subst hB2; exact ag_eq rfl
  have hb3 : ((h0.add (bkV st dv lv)).add (tuV pv rv)).bl.get B3 = some (.cells (tuV pv rv) B3 false) := by subst hB3; exact ag_eq rfl
  have hk1 : Kp h0 ((h0.add (bkV st dv lv)).add (tuV pv rv)) := Kp.refl.add.add
  have hn2 : B2 < ((h0.add (bkV st dv lv)).add (tuV pv rv)).nx := by show B2 < h0.nx + 2; omega
  have hn3 : B3 < ((h0.add (bkV st dv lv)).add (tuV pv rv)).nx := by show B3 < h0.nx + 2; omega
  rw [← hB3, ← hB2]
  clear hB2 hB3
  generalize (h0.add (bkV st dv lv)).add (tuV pv rv) = H at hb2 hb3 hk1 hn2 hn3 ⊢
  have hbH := hb.mono hk1
  have htH := ht.mono hk1
  clear hb ht
  cases h1 : decide ((T'.length : Int) = (D.length : Int)) with
  | false =>
    rw [h1, Bool.false_and] at hKb
    repeat refine S.seq ?_
    refine S.region ?_
    simp (disch := first | omega | (simp only [add_nx, upd_nx] <;> omega) | decide) only [rUz, ↓reduceIte, Nat.reduceEqDiff, Nat.reduceAdd, fieldAddr_ptr fA1 lrD, fieldAddr_ptr frU0 lII, qrD, qII, hb2, hb3, bk1, tu0, lD, lT, h1, Bool.not_false]
    repeat refine S.seq ?_
    refine S.cond (v := true) (by first | rfl | (simp (disch := first | omega | (simp only [add_nx, upd_nx] <;> omega) | decide) only [rUz, ↓reduceIte, Nat.reduceEqDiff, Nat.reduceAdd] <;> rfl)) (fun _ => ?_) (fun e => by cases e)
    repeat refine S.seq ?_
    refine S.region ?_
    simp (disch := first | omega | (simp only [add_nx, upd_nx] <;> omega) | decide) only [rUz, ↓reduceIte, Nat.reduceEqDiff, Nat.reduceAdd]
    refine S.ret ?_
    try simp only [seqK_ret, blockK_ret]
    subst hF
    simp only [finish, endMarks]
    rw [show Try.f29.results.toList = [.tmp 4] from rfl]
    simp (disch := first | omega | (simp only [add_nx, upd_nx] <;> omega) | decide) only [resA, ev_tmp, tget_ne, tget_eq, get_ne, get_eq, upd_eq, upd_ne, ag_eq, ag_ne, result1]
    exact hKb rfl _ hk1
  | true =>
  rw [h1, Bool.true_and] at hKb hKg
  cases h2 : decide ((rt.length : Int) = (D.length : Int)) with
  | false =>
    rw [h2, Bool.false_and] at hKb
    repeat refine S.seq ?_
    refine S.region ?_
    simp (disch := first | omega | (simp only [add_nx, upd_nx] <;> omega) | decide) only [rUz, ↓reduceIte, Nat.reduceEqDiff, Nat.reduceAdd, fieldAddr_ptr fA1 lrD, fieldAddr_ptr frU0 lII, fieldAddr_ptr frU1 lI, qrD, qII, qI, hb2, hb3, bk1, tu0, tu1, lD, lT, lR, h1, h2, Bool.not_false, Bool.not_true]
    repeat refine S.seq ?_
    refine S.cond (v := true) (by first | rfl | (simp (disch := first | omega | (simp only [add_nx, upd_nx] <;> omega) | decide) only [rUz, ↓reduceIte, Nat.reduceEqDiff, Nat.reduceAdd] <;> rfl)) (fun _ => ?_) (fun e => by cases e)
    repeat refine S.seq ?_
    refine S.region ?_
    simp (disch := first | omega | (simp only [add_nx, upd_nx] <;> omega) | decide) only [rUz, ↓reduceIte, Nat.reduceEqDiff, Nat.reduceAdd]
    refine S.ret ?_
    try simp only [seqK_ret, blockK_ret]
    subst hF
    simp only [finish, endMarks]
    rw [show Try.f29.results.toList = [.tmp 4] from rfl]
    simp (disch := first | omega | (simp only [add_nx, upd_nx] <;> omega) | decide) only [resA, ev_tmp, tget_ne, tget_eq, get_ne, get_eq, upd_eq, upd_ne, ag_eq, ag_ne, result1]
    exact hKb rfl _ hk1
  | true =>
  rw [h2, Bool.true_and] at hKb hKg
  repeat refine S.seq ?_
  refine S.region ?_
  simp (disch := first | omega | (simp only [add_nx, upd_nx] <;> omega) | decide) only [rUz, ↓reduceIte, Nat.reduceEqDiff, Nat.reduceAdd, fieldAddr_ptr fA1 lrD, fieldAddr_ptr frU0 lII, fieldAddr_ptr frU1 lI, qrD, qII, qI, hb2, hb3, bk1, tu0, tu1, lD, lT, lR, h1, h2, Bool.not_true]
  repeat refine S.seq ?_
  refine S.cond (v := false) (by first | rfl | (simp (disch := first | omega | (simp only [add_nx, upd_nx] <;> omega) | decide) only [rUz, ↓reduceIte, Nat.reduceEqDiff, Nat.reduceAdd] <;> rfl)) (fun e => by cases e) (fun _ => ?_)
  repeat refine S.seq ?_
  refine S.skip ?_
  simp (disch := first | omega | (simp only [add_nx, upd_nx] <;> omega) | decide) only [rUz, ↓reduceIte, Nat.reduceEqDiff, Nat.reduceAdd]
  have hT := of_decide_eq_true h1
  have hR := of_decide_eq_true h2
  have hs4 := hv.s4
  have hd4 := hv.d4
  clear h1 h2
  have hzl : (List.zip D (List.zip T' rt)).length = D.length := by rw [List.length_zip, List.length_zip]; omega
  obtain ⟨Z, hZ⟩ : ∃ Z, Z = List.zip D (List.zip T' rt) := ⟨_, rfl⟩
  rw [← hZ] at hKb hKg hzl
  repeat refine S.seq ?_
  refine S.region ?_
  simp (disch := first | omega | (simp only [add_nx, upd_nx] <;> omega) | decide) only [rUz, ↓reduceIte, Nat.reduceEqDiff, Nat.reduceAdd]
  repeat refine S.seq ?_
  refine S.block ?_
  refine S.loop (ι := Nat) (IUa st Z H B2 B3) (fun k => Z.length - k) ?_ 0 _ _ ?_
  rotate_left
  · refine ⟨Kp.refl, ?_, ?_, ?_, rfl, Nat.zero_le _⟩
    all_goals (first | rfl | (simp (disch := first | omega | (simp only [add_nx, upd_nx] <;> omega) | decide) only [rUz, ↓reduceIte, Nat.reduceEqDiff, Nat.reduceAdd]; done) | (simp (disch := first | omega | (simp only [add_nx, upd_nx] <;> omega) | decide) only [rUz, ↓reduceIte, Nat.reduceEqDiff, Nat.reduceAdd]; rfl))
  intro k t h ⟨hkp, t2, t3, t5, ha, hk⟩ K' hn he
  have hbh := (hkp.get hn2).trans hb2
  have hth := (hkp.get hn3).trans hb3
  have hnx := hkp.1
  repeat refine S.seq ?_
  refine S.region ?_
  simp (disch := first | omega | (simp only [add_nx, upd_nx] <;> omega) | decide) only [rUz, ↓reduceIte, Nat.reduceEqDiff, Nat.reduceAdd, t2, t5, fieldAddr_ptr fA1 lrD, qrD, hbh, bk1, lD]
  rw [← hzl]
  repeat refine S.seq ?_
  refine S.cond (v := decide ((k : Int) < (Z.length : Int))) (by first | rfl | (simp (disch := first | omega | (simp only [add_nx, upd_nx] <;> omega) | decide) only [rUz, ↓reduceIte, Nat.reduceEqDiff, Nat.reduceAdd] <;> rfl)) (fun e => ?_) (fun e => ?_)
  · have hkz : k < Z.length := by have := of_decide_eq_true e; omega
    clear e
    have hkD : k < D.length := by omega
    have hkT : k < T'.length := by omega
    have hkR : k < rt.length := by omega
    have hzk : Z[k] = (D[k], T'[k], rt[k]) := by
      subst hZ
      rw [List.getElem_zip, List.getElem_zip]
    rw [List.drop_eq_getElem_cons hkz, List.all_cons, hzk] at ha
    have hpD : D[k]? = some D[k] := List.getElem?_eq_getElem hkD
    have hpT : T'[k]? = some T'[k] := List.getElem?_eq_getElem hkT
    have hxD : D[k] ∈ D := List.getElem_mem hkD
    have hxT : T'[k] ∈ T' := List.getElem_mem hkT
    obtain ⟨b3, f3, o3, u1, u2, u3, u4⟩ := (htH.mono hkp).rt.idx slI s3' hkR
    generalize D[k] = x at ha hpD hxD
    generalize T'[k] = p at ha hpT hxT
    generalize rt[k] = r at ha u4
    obtain ⟨b, f, ro, cells, q1, q2, q3, q4, q5, _⟩ := row_idx (hbH.mono hkp).dy slrD srD hpD
    have qp := part_at prD q4 q5
    have hxr := hbH.pr x hxD
    have hpr := htH.ps p hxT
    have hokx := okD_iff.1 (hv.dy x hxD)
    repeat refine S.seq ?_
    refine S.skip ?_
    simp (disch := first | omega | (simp only [add_nx, upd_nx] <;> omega) | decide) only [rUz, ↓reduceIte, Nat.reduceEqDiff, Nat.reduceAdd]
    repeat refine S.seq ?_
    refine S.block ?_
    repeat refine S.seq ?_
    refine S.region ?_
    simp (disch := first | omega | (simp only [add_nx, upd_nx] <;> omega) | decide) only [rUz, ↓reduceIte, Nat.reduceEqDiff, Nat.reduceAdd, t2, t5, fieldAddr_ptr fA1 lrD, qrD, hbh, bk1, q1, q3, qp, wr_alloc zrD]
    refine wr_storeN (B := h.nx) (c := [nl, iv 0, iv 0]) (fam := h.nx) (k := h.nx) (l := cD x) (by simp (disch := first | omega | (simp only [add_nx, upd_nx] <;> omega) | decide) only [rUz, ↓reduceIte, Nat.reduceEqDiff, Nat.reduceAdd]) (by simp (disch := first | omega | (simp only [add_nx, upd_nx] <;> omega) | decide) only [rUz, ↓reduceIte, Nat.reduceEqDiff, Nat.reduceAdd]) srD (by omega) rfl (ag_eq rfl) (af_eq rfl) rfl ?_
    have hk0 : Kp h ((h.add [nl, iv 0, iv 0]).upd h.nx (cD x) h.nx) := Kp.refl.add.upd (Nat.le_refl _)
    have hk4 : Kp H ((h.add [nl, iv 0, iv 0]).upd h.nx (cD x) h.nx) := hkp.add.upd hnx
    have hg4 : ((h.add [nl, iv 0, iv 0]).upd h.nx (cD x) h.nx).bl.get h.nx = some (.cells (cD x) h.nx false) := upd_eq _ _ _
    simp (disch := first | omega | (simp only [add_nx, upd_nx] <;> omega) | decide) only [rUz, ↓reduceIte, Nat.reduceEqDiff, Nat.reduceAdd]
    generalize (h.add [nl, iv 0, iv 0]).upd h.nx (cD x) h.nx = h4 at hk0 hk4 hg4 ⊢
    replace u3 := (hk0.get u2).trans u3
    generalize h.nx = B6 at hg4 ⊢
    have hb4 := (hk4.get hn2).trans hb2
    have ht4 := (hk4.get hn3).trans hb3
    obtain ⟨b2, f2, o2, ce2, v1, v2, v3, v4, v5, v6⟩ := row_idx (htH.mono hk4).pr slII lI' hpT
    have v6 := v6 0 _ (cT0 p)
    rw [Nat.mul_one] at v1
    rw [Nat.mul_one, Nat.add_zero] at v6
    have hp4 := hpr.mono hk4
    have lp := fun t h1 o => iv_len hp4 t h1 o
    clear q1 q2 q3 q4 q5 qp hbh hth hnx hkp hk0 u2 v2 v4 v5
    clear h
    have hKbr : okT st (x, p, r) = false → ∀ g, Kp H g → K (.bool false) g = true := fun e g hkg => hKb (by rw [ha, e]; rfl) _ (hk1.trans hkg)
    repeat refine S.seq ?_
    refine S.drawnL [(false, 0), (false, 1), (false, 0), (false, 7), (false, 15), (false, 31), (false, 0), (false, 64), (false, 255), (false, 511), (false, 1023), (false, 2047), (false, 1023), (false, 8191), (false, 16383), (false, 1023), (false, 33791), (false, 99327), (false, 1023), (false, 263167), (false, 787455), (true, 2097151), (false, 4194303), (false, 8388607)] (by kernel_rfl) (by kernel_rfl) (by kernel_rfl) ?_
    generalize hJJ : (fun (t : T Value) (h : AHeap) => _) = KJ
    suffices hJ : ∀ t, tget t 2 = ptr0 B2 → tget t 3 = ptr0 B3 → tget t 5 = iv (k : Int) → tget t 6 = ptr0 B6 → tget t 59 = .bool (!okT1 st (x, p, r)) → KJ t h4 = true by
      clear hJJ hn he hKb hKg hKbr
      unfold okT1 at hJ
      cases h1 : decide ((p.2.length : Int) = st) with
      | false =>
        simp (disch := first | omega | (simp only [add_nx, upd_nx] <;> omega) | decide) only [rUz, ↓reduceIte, Nat.reduceEqDiff, Nat.reduceAdd, rDz, infoL, Nat.reduceSub, t2, t3, t5, fieldAddr_ptr frU0 lII, fieldAddr_ptr fA0 s3, p3, qII, qI, hb4, ht4, tu0, bk0, v1, v3, v6, lp, h1, Bool.not_false]
        refine hJ _ ?_ ?_ ?_ ?_ ?_
        all_goals (first | rfl | (simp (disch := first | omega | (simp only [add_nx, upd_nx] <;> omega) | decide) only [rUz, ↓reduceIte, Nat.reduceEqDiff, Nat.reduceAdd, t2, t3, t5, h1, Bool.false_and, Bool.not_false]; done) | (simp (disch := first | omega | (simp only [add_nx, upd_nx] <;> omega) | decide) only [rUz, ↓reduceIte, Nat.reduceEqDiff, Nat.reduceAdd, t2, t3, t5, h1, Bool.false_and, Bool.not_false]; rfl))
      | true =>
      simp (disch := first | omega | (simp only [add_nx, upd_nx] <;> omega) | decide) only [rUz, ↓reduceIte, Nat.reduceEqDiff, Nat.reduceAdd, rDz, infoL, Nat.reduceSub, t2, t3, t5, fieldAddr_ptr frU0 lII, fieldAddr_ptr frU1 lI, fieldAddr_ptr fA0 s3, fieldAddr_ptr frD1 SrR, fieldAddr_ptr frR0 s3, fieldAddr_ptr frR1 s3, p3, qII, qI, hb4, ht4, hg4, tu0, tu1, bk0, cD1, cD2, v1, v3, v6, u1, u3, u4, lp, h1, Bool.not_true]
      refine drW_brings (fid := 36) (first := #[]) (captured := #[]) (Post := fun v g => v = .bool (inB r x.2.2.1 x.2.2.2) ∧ g = h4) rfl (hoff _ _ _ rfl) (by simp (disch := first | omega | (simp only [add_nx, upd_nx] <;> omega) | decide) only [rUz, ↓reduceIte, Nat.reduceEqDiff, Nat.reduceAdd]; exact in_y S h4 r x.2.2.1 x.2.2.2) (Nat.le_of_ble_eq_true rfl) ?_
      rintro u g - ⟨rfl, rfl⟩
      refine ⟨?_, ?_⟩
      · try simp (disch := first | decide | rfl) only [again_nil, again_skip, again_free]
      simp (disch := first | omega | (simp only [add_nx, upd_nx] <;> omega) | decide) only [rUz, ↓reduceIte, Nat.reduceEqDiff, Nat.reduceAdd, rDz, infoL, Nat.reduceSub, un_not]
      refine hJ _ ?_ ?_ ?_ ?_ ?_
      all_goals (first | rfl | (simp (disch := first | omega | (simp only [add_nx, upd_nx] <;> omega) | decide) only [rUz, ↓reduceIte, Nat.reduceEqDiff, Nat.reduceAdd, t2, t3, t5, h1, Bool.true_and]; done) | (simp (disch := first | omega | (simp only [add_nx, upd_nx] <;> omega) | decide) only [rUz, ↓reduceIte, Nat.reduceEqDiff, Nat.reduceAdd, t2, t3, t5, h1, Bool.true_and]; rfl))
    intro t t2 t3 t5 t6 t59
    subst hJJ
    simp only [seqK_normal]
    cases hok : okT1 st (x, p, r) with
    | false =>
      repeat refine S.seq ?_
      refine S.cond (v := true) (by first | rfl | (simp (disch := first | omega | (simp only [add_nx, upd_nx] <;> omega) | decide) only [rUz, ↓reduceIte, Nat.reduceEqDiff, Nat.reduceAdd, t59, hok, Bool.not_false] <;> rfl)) (fun _ => ?_) (fun e => by cases e)
      repeat refine S.seq ?_
      refine S.region ?_
      simp (disch := first | omega | (simp only [add_nx, upd_nx] <;> omega) | decide) only [rUz, ↓reduceIte, Nat.reduceEqDiff, Nat.reduceAdd]
      refine S.ret ?_
      simp only [seqK_ret, blockK_ret]
      refine he _ _ _ _ (fun e => by cases e) ?_
      try simp only [seqK_ret, blockK_ret]
      subst hF
      simp only [finish, endMarks]
      rw [show Try.f29.results.toList = [.tmp 4] from rfl]
      simp (disch := first | omega | (simp only [add_nx, upd_nx] <;> omega) | decide) only [resA, ev_tmp, tget_ne, tget_eq, get_ne, get_eq, upd_eq, upd_ne, ag_eq, ag_ne, result1]
      exact hKbr (by rw [okT, hok]; rfl) _ hk4
    | true =>
    have hok2 : okT st (x, p, r) = pricesB x.2.1 p.2 := by rw [okT, hok, Bool.true_and]
    have hls : (p.2.length : Int) = st := by
      unfold okT1 at hok
      rw [Bool.and_eq_true, decide_eq_true_eq] at hok
      exact hok.1
    have hlx := hokx.len
    have hlz : (List.zip x.2.1 p.2).length = x.2.1.length := by rw [List.length_zip]; omega
    rw [hok2] at hKbr ha
    repeat refine S.seq ?_
    refine S.cond (v := false) (by first | rfl | (simp (disch := first | omega | (simp only [add_nx, upd_nx] <;> omega) | decide) only [rUz, ↓reduceIte, Nat.reduceEqDiff, Nat.reduceAdd, t59, hok, Bool.not_true] <;> rfl)) (fun e => by cases e) (fun _ => ?_)
    repeat refine S.seq ?_
    refine S.skip ?_
    simp (disch := first | omega | (simp only [add_nx, upd_nx] <;> omega) | decide) only [rUz, ↓reduceIte, Nat.reduceEqDiff, Nat.reduceAdd]
    clear t59
    repeat refine S.seq ?_
    refine S.region ?_
    simp (disch := first | omega | (simp only [add_nx, upd_nx] <;> omega) | decide) only [rUz, ↓reduceIte, Nat.reduceEqDiff, Nat.reduceAdd]
    repeat refine S.seq ?_
    refine S.block ?_
    refine S.loop (ι := Nat) (IUb x.2.1 p.2 h4 B2 B3 B6 k) (fun j => x.2.1.length - j) ?_ 0 _ _ ?_
    rotate_left
    · refine ⟨rfl, ?_, ?_, ?_, ?_, ?_, rfl, Nat.zero_le _⟩
      all_goals (first | rfl | (simp (disch := first | omega | (simp only [add_nx, upd_nx] <;> omega) | decide) only [rUz, ↓reduceIte, Nat.reduceEqDiff, Nat.reduceAdd, t2, t3, t5, t6]; done) | (simp (disch := first | omega | (simp only [add_nx, upd_nx] <;> omega) | decide) only [rUz, ↓reduceIte, Nat.reduceEqDiff, Nat.reduceAdd, t2, t3, t5, t6]; rfl))
    clear t2 t3 t5 t6 u1 u3 u4
    clear t
    intro j t h' ⟨hh, t2, t3, t5, t6, t7, haj, hj⟩ K2 hn2' he2
    subst hh
    repeat refine S.seq ?_
    refine S.region ?_
    simp (disch := first | omega | (simp only [add_nx, upd_nx] <;> omega) | decide) only [rUz, ↓reduceIte, Nat.reduceEqDiff, Nat.reduceAdd, t2, t7, fieldAddr_ptr fA0 s3, p3, hb4, bk0]
    rw [← hlx]
    repeat refine S.seq ?_
    refine S.cond (v := decide ((j : Int) < (x.2.1.length : Int))) (by first | rfl | (simp (disch := first | omega | (simp only [add_nx, upd_nx] <;> omega) | decide) only [rUz, ↓reduceIte, Nat.reduceEqDiff, Nat.reduceAdd] <;> rfl)) (fun e => ?_) (fun e => ?_)
    · have hjn : j < x.2.1.length := by have := of_decide_eq_true e; omega
      clear e
      have hjp : j < p.2.length := by omega
      have hjz : j < (List.zip x.2.1 p.2).length := by omega
      have hgz : (List.zip x.2.1 p.2)[j] = (x.2.1[j], p.2[j]) := List.getElem_zip
      have hpq : x.2.1[j]? = some x.2.1[j] := List.getElem?_eq_getElem hjn
      rw [List.drop_eq_getElem_cons hjz, List.all_cons, hgz] at haj
      obtain ⟨b4, f4, o4, w1, w2, w3, w4⟩ := hp4.idx slI s3' hjp
      generalize x.2.1[j] = y at haj hpq
      generalize p.2[j] = n at haj w4
      obtain ⟨b, f, ro, cells, q1, q2, q3, q4, q5, q6⟩ := row_idx (SlAt.mono hxr hk4) slrR srR hpq
      have c0 := q6 0 _ (c20 y)
      have c1 := q6 1 _ (c21 y)
      rw [Nat.add_zero] at c0
      repeat refine S.seq ?_
      refine S.skip ?_
      simp (disch := first | omega | (simp only [add_nx, upd_nx] <;> omega) | decide) only [rUz, ↓reduceIte, Nat.reduceEqDiff, Nat.reduceAdd]
      repeat refine S.seq ?_
      refine S.block ?_
      repeat refine S.seq ?_
      refine S.drawnL [(false, 0), (false, 1), (false, 0), (false, 7), (false, 15), (false, 0), (false, 63), (false, 127), (false, 0), (false, 256), (false, 0), (false, 1792), (false, 3840), (false, 7936), (false, 0), (false, 16384), (false, 0), (false, 114688), (false, 245760), (false, 507904), (true, 1048575), (false, 2097151)] (by kernel_rfl) (by kernel_rfl) (by kernel_rfl) ?_
      simp (disch := first | omega | (simp only [add_nx, upd_nx] <;> omega) | decide) only [rUz, ↓reduceIte, Nat.reduceEqDiff, Nat.reduceAdd, rDz, infoL, Nat.reduceSub, t3, t5, t6, t7, fieldAddr_ptr frU0 lII, fieldAddr_ptr frD0 lrR, fieldAddr_ptr frR0 s3, fieldAddr_ptr frR1 s3, p3, qII, qI, qrR, ht4, hg4, tu0, cD0, v1, v3, v6, w1, w3, w4, q1, q3, c0, c1]
      refine drW_brings (fid := 36) (first := #[]) (captured := #[]) (Post := fun v g => v = .bool (inB n y.1 y.2) ∧ g = h') rfl (hoff _ _ _ rfl) (by simp (disch := first | omega | (simp only [add_nx, upd_nx] <;> omega) | decide) only [rUz, ↓reduceIte, Nat.reduceEqDiff, Nat.reduceAdd]; exact in_y S h' n y.1 y.2) (Nat.le_of_ble_eq_true rfl) ?_
      rintro u g - ⟨rfl, rfl⟩
      refine ⟨?_, ?_⟩
      · try simp (disch := first | decide | rfl) only [again_nil, again_skip, again_free]
      cases h2 : inB n y.1 y.2 with
      | false =>
        rw [h2, Bool.false_and] at haj
        simp (disch := first | omega | (simp only [add_nx, upd_nx] <;> omega) | decide) only [rUz, ↓reduceIte, Nat.reduceEqDiff, Nat.reduceAdd, rDz, infoL, Nat.reduceSub, un_not, h2, Bool.not_false]
        repeat refine S.seq ?_
        refine S.cond (v := true) (by first | rfl | (simp (disch := first | omega | (simp only [add_nx, upd_nx] <;> omega) | decide) only [rUz, ↓reduceIte, Nat.reduceEqDiff, Nat.reduceAdd] <;> rfl)) (fun _ => ?_) (fun e => by cases e)
        repeat refine S.seq ?_
        refine S.region ?_
        simp (disch := first | omega | (simp only [add_nx, upd_nx] <;> omega) | decide) only [rUz, ↓reduceIte, Nat.reduceEqDiff, Nat.reduceAdd]
        refine S.ret ?_
        simp only [seqK_ret, blockK_ret]
        refine he2 _ _ _ _ (fun e => by cases e) ?_
        simp only [seqK_ret, blockK_ret]
        refine he _ _ _ _ (fun e => by cases e) ?_
        try simp only [seqK_ret, blockK_ret]
        subst hF
        simp only [finish, endMarks]
        rw [show Try.f29.results.toList = [.tmp 4] from rfl]
        simp (disch := first | omega | (simp only [add_nx, upd_nx] <;> omega) | decide) only [resA, ev_tmp, tget_ne, tget_eq, get_ne, get_eq, upd_eq, upd_ne, ag_eq, ag_ne, result1]
        exact hKbr haj _ hk4
      | true =>
        rw [h2, Bool.true_and] at haj
        simp (disch := first | omega | (simp only [add_nx, upd_nx] <;> omega) | decide) only [rUz, ↓reduceIte, Nat.reduceEqDiff, Nat.reduceAdd, rDz, infoL, Nat.reduceSub, un_not, h2, Bool.not_true]
        repeat refine S.seq ?_
        refine S.cond (v := false) (by first | rfl | (simp (disch := first | omega | (simp only [add_nx, upd_nx] <;> omega) | decide) only [rUz, ↓reduceIte, Nat.reduceEqDiff, Nat.reduceAdd] <;> rfl)) (fun e => by cases e) (fun _ => ?_)
        repeat refine S.seq ?_
        refine S.skip ?_
        simp (disch := first | omega | (simp only [add_nx, upd_nx] <;> omega) | decide) only [rUz, ↓reduceIte, Nat.reduceEqDiff, Nat.reduceAdd]
        repeat refine S.seq ?_
        refine S.region ?_
        simp (disch := first | omega | (simp only [add_nx, upd_nx] <;> omega) | decide) only [rUz, ↓reduceIte, Nat.reduceEqDiff, Nat.reduceAdd, t7]
        refine hn2' (j + 1) _ _ (by omega) ⟨rfl, ?_, ?_, ?_, ?_, ?_, haj, by omega⟩
        all_goals (first | rfl | (simp (disch := first | omega | (simp only [add_nx, upd_nx] <;> omega) | decide) only [rUz, ↓reduceIte, Nat.reduceEqDiff, Nat.reduceAdd, t2, t3, t5, t6]; done) | (simp (disch := first | omega | (simp only [add_nx, upd_nx] <;> omega) | decide) only [rUz, ↓reduceIte, Nat.reduceEqDiff, Nat.reduceAdd, t2, t3, t5, t6]; rfl))
    have hjn : j = x.2.1.length := by have := of_decide_eq_false e; omega
    subst hjn
    rw [List.drop_of_length_le (Nat.le_of_eq hlz), List.all_nil] at haj
    rw [haj, Bool.true_and] at ha
    refine S.exit (he2 _ _ _ _ (fun e => by cases e) ?_)
    simp (disch := first | omega | (simp only [add_nx, upd_nx] <;> omega) | decide) only [rUz, ↓reduceIte, Nat.reduceEqDiff, Nat.reduceAdd]
    repeat refine S.seq ?_
    refine S.region ?_
    simp (disch := first | omega | (simp only [add_nx, upd_nx] <;> omega) | decide) only [rUz, ↓reduceIte, Nat.reduceEqDiff, Nat.reduceAdd, t5]
    refine hn (k + 1) _ _ (by omega) ⟨hk4, ?_, ?_, ?_, ha, by omega⟩
    all_goals (first | rfl | (simp (disch := first | omega | (simp only [add_nx, upd_nx] <;> omega) | decide) only [rUz, ↓reduceIte, Nat.reduceEqDiff, Nat.reduceAdd, t2, t3]; done) | (simp (disch := first | omega | (simp only [add_nx, upd_nx] <;> omega) | decide) only [rUz, ↓reduceIte, Nat.reduceEqDiff, Nat.reduceAdd, t2, t3]; rfl))
  have hkn : k = Z.length := by have := of_decide_eq_false e; omega
  subst hkn
  rw [List.drop_of_length_le (Nat.le_refl _), List.all_nil] at ha
  refine S.exit (he _ _ _ _ (fun e => by cases e) ?_)
  simp (disch := first | omega | (simp only [add_nx, upd_nx] <;> omega) | decide) only [rUz, ↓reduceIte, Nat.reduceEqDiff, Nat.reduceAdd]
  repeat refine S.seq ?_
  refine S.region ?_
  simp (disch := first | omega | (simp only [add_nx, upd_nx] <;> omega) | decide) only [rUz, ↓reduceIte, Nat.reduceEqDiff, Nat.reduceAdd]
  refine S.ret ?_
  try simp only [seqK_ret, blockK_ret]
  subst hF
  simp only [finish, endMarks]
  rw [show Try.f29.results.toList = [.tmp 4] from rfl]
  simp (disch := first | omega | (simp only [add_nx, upd_nx] <;> omega) | decide) only [resA, ev_tmp, tget_ne, tget_eq, get_ne, get_eq, upd_eq, upd_ne, ag_eq, ag_ne, result1]
  exact hKg ha _ (hk1.trans hkp)
end Go.Proofs.Mg
