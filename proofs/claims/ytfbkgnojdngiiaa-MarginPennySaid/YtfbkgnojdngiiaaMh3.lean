import Derived.Test.YtfbkgnojdngiiaaMh2
/- The error of a bank, by the words of the document. -/
namespace Go.Proofs.Mg
open Go Go.Ev Go.RowKit
set_option linter.unusedSimpArgs false
variable {pr : Prim} {R : ExT}
def okR (r : R2) : Bool := inB r.1 0 r.2 && decide (r.2 ≤ 1000)
def okD1 (st : Int) (x : PD) : Bool := decide ((x.2.1.length : Int) = st) && (inB x.2.2.1 0 x.2.2.2 && decide (x.2.2.2 ≤ 100))
def okD (st : Int) (x : PD) : Bool := okD1 st x && x.2.1.all okR
def okL1 (st : Int) (x : PL) : Bool := inB x.2.1 0 100000 && (inB x.2.2.1 0 100 && decide ((x.2.2.2.length : Int) = st))
def okL (st : Int) (x : PL) : Bool := okL1 st x && x.2.2.2.all fun n => inB n 0 100
def fewB (st : Int) (D : List PD) (L : List PL) : Bool := decide (st ≤ 4) && (decide ((D.length : Int) ≤ 4) && decide ((L.length : Int) ≤ 4))
def openB (st : Int) (D : List PD) : Bool := decide (1 ≤ st) && !decide ((D.length : Int) = 0)
def faultZ (st : Int) (D : List PD) (L : List PL) : Int := bif fewB st D L then (bif openB st D && (D.all (okD st) && L.all (okL st)) then 0 else 1) else 3
theorem ltB1 (x : Int) : decide (x < 1) = !decide (1 ≤ x) := by
  by_cases h : 1 ≤ x
  · rw [decide_eq_true h, decide_eq_false (by omega)]; rfl
  · rw [decide_eq_false h, decide_eq_true (by omega)]; rfl
structure IFa (st : Int) (D : List PD) (H : AHeap) (B1 : Nat) (k : Nat) (t : T Value) (h : AHeap) : Prop where
  kp : Kp H h
  t1 : tget t 1 = ptr0 B1
  t3 : tget t 3 = iv (k : Int)
  ha : D.all (okD st) = (D.drop k).all (okD st)
  hk : k ≤ D.length
structure IFb (x : PD) (H : AHeap) (B1 B4 : Nat) (k : Nat) (j : Nat) (t : T Value) (h : AHeap) : Prop where
  hh : h = H
  t1 : tget t 1 = ptr0 B1
  t3 : tget t 3 = iv (k : Int)
  t4 : tget t 4 = ptr0 B4
  t5 : tget t 5 = iv (j : Int)
  ha : x.2.1.all okR = (x.2.1.drop j).all okR
  hj : j ≤ x.2.1.length
structure IFc (st : Int) (L : List PL) (H : AHeap) (B1 : Nat) (k : Nat) (t : T Value) (h : AHeap) : Prop where
  kp : Kp H h
  t1 : tget t 1 = ptr0 B1
  t6 : tget t 6 = iv (k : Int)
  ha : L.all (okL st) = (L.drop k).all (okL st)
  hk : k ≤ L.length
structure IFd (x : PL) (H : AHeap) (B1 B7 : Nat) (k : Nat) (j : Nat) (t : T Value) (h : AHeap) : Prop where
  hh : h = H
  t1 : tget t 1 = ptr0 B1
  t6 : tget t 6 = iv (k : Int)
  t7 : tget t 7 = ptr0 B7
  t8 : tget t 8 = iv (j : Int)
  ha : (x.2.2.2.all fun n => inB n 0 100) = (x.2.2.2.drop j).all fun n => inB n 0 100
  hj : j ≤ x.2.2.2.length
set_option maxHeartbeats 16000000 in
theorem fault_y (S : Ev.Steps Try.prog pr R) (hoff : Off pr) (h0 : AHeap) (st : Int) (dv lv : Value) (D : List PD) (L : List PL) (hb : BkAt h0 dv lv D L) :
    Brings Try.prog R 61 [.agg ⟨bkV st dv lv⟩] h0 fun u _ => u = iv (faultZ st D L) := by
  refine brings_of (fn := Try.f61) (c := (Try.f61.body).getD .skip) (by kernel_rfl) rfl (by kernel_rfl) rfl (fun K hK => ?_)
  generalize hF : finish Try.prog Try.f61 K = KF
  simp only [Try.f61, Option.getD_some, argsT, setArgs, fV1_eq, T.setK_eq, id]
  have hK3 : fewB st D L = false → ∀ g, Kp h0 g → K (iv 3) g = true := fun e g hk => hK _ _ hk (by rw [faultZ, e]; rfl)
  have hK1 : fewB st D L = true → (openB st D && (D.all (okD st) && L.all (okL st))) = false → ∀ g, Kp h0 g → K (iv 1) g = true := fun e e2 g hk => hK _ _ hk (by rw [faultZ, e, e2]; rfl)
  have hK0 : fewB st D L = true → (openB st D && (D.all (okD st) && L.all (okL st))) = true → ∀ g, Kp h0 g → K (iv 0) g = true := fun e e2 g hk => hK _ _ hk (by rw [faultZ, e, e2]; rfl)
  clear hK
  have lD := fun t h1 o => row_len hb.dy isrD t h1 o
  have lL := fun t h1 o => row_len hb.ln isrL t h1 o
  repeat refine S.seq ?_
  refine S.region ?_
  simp (disch := first | omega | (simp only [add_nx, upd_nx] <;> omega) | decide) only [rUz, ↓reduceIte, Nat.reduceEqDiff, Nat.reduceAdd]
  obtain ⟨B1, hB1⟩ : ∃ x, x = h0.nx := ⟨_, rfl⟩
  have hb1 : (h0.add (bkV st dv lv)).bl.get B1 = some (.cells (bkV st dv lv) B1 false) := by subst hB1; exact ag_eq rfl
  have hn1 : B1 < (h0.add (bkV st dv lv)).nx := by show B1 < h0.nx + 1; omega
  have hk1 : Kp h0 (h0.add (bkV st dv lv)) := Kp.refl.add
  rw [← hB1]
  clear hB1
  generalize h0.add (bkV st dv lv) = H at hb1 hn1 hk1 ⊢
  have hbH := hb.mono hk1
  clear hb
  unfold fewB at hK3 hK1 hK0
  cases h1 : decide (st ≤ 4) with
  | false =>
    rw [h1, Bool.false_and] at hK3
    repeat refine S.seq ?_
    refine S.region ?_
    simp (disch := first | omega | (simp only [add_nx, upd_nx] <;> omega) | decide) only [rUz, ↓reduceIte, Nat.reduceEqDiff, Nat.reduceAdd, fieldAddr_ptr fA0 s3, p3, hb1, bk0, gtB, h1, Bool.not_false]
    repeat refine S.seq ?_
    refine S.cond (v := true) (by first | rfl | (simp (disch := first | omega | (simp only [add_nx, upd_nx] <;> omega) | decide) only [rUz, ↓reduceIte, Nat.reduceEqDiff, Nat.reduceAdd] <;> rfl)) (fun _ => ?_) (fun e => by cases e)
    repeat refine S.seq ?_
    refine S.region ?_
    simp (disch := first | omega | (simp only [add_nx, upd_nx] <;> omega) | decide) only [rUz, ↓reduceIte, Nat.reduceEqDiff, Nat.reduceAdd]
    refine S.ret ?_
    try simp only [seqK_ret, blockK_ret]
    subst hF
    simp only [finish, endMarks]
    rw [show Try.f61.results.toList = [.tmp 2] from rfl]
    simp (disch := first | omega | (simp only [add_nx, upd_nx] <;> omega) | decide) only [resA, ev_tmp, tget_ne, tget_eq, get_ne, get_eq, upd_eq, upd_ne, ag_eq, ag_ne, result1]
    exact hK3 rfl _ hk1
  | true =>
  rw [h1, Bool.true_and] at hK3 hK1 hK0
  cases h2 : decide ((D.length : Int) ≤ 4) with
  | false =>
    rw [h2, Bool.false_and] at hK3
    repeat refine S.seq ?_
    refine S.region ?_
    simp (disch := first | omega | (simp only [add_nx, upd_nx] <;> omega) | decide) only [rUz, ↓reduceIte, Nat.reduceEqDiff, Nat.reduceAdd, fieldAddr_ptr fA0 s3, fieldAddr_ptr fA1 lrD, p3, qrD, hb1, bk0, bk1, lD, gtB, h1, h2, Bool.not_false, Bool.not_true]
    repeat refine S.seq ?_
    refine S.cond (v := true) (by first | rfl | (simp (disch := first | omega | (simp only [add_nx, upd_nx] <;> omega) | decide) only [rUz, ↓reduceIte, Nat.reduceEqDiff, Nat.reduceAdd] <;> rfl)) (fun _ => ?_) (fun e => by cases e)
    repeat refine S.seq ?_
    refine S.region ?_
    simp (disch := first | omega | (simp only [add_nx, upd_nx] <;> omega) | decide) only [rUz, ↓reduceIte, Nat.reduceEqDiff, Nat.reduceAdd]
    refine S.ret ?_
    try simp only [seqK_ret, blockK_ret]
    subst hF
    simp only [finish, endMarks]
    rw [show Try.f61.results.toList = [.tmp 2] from rfl]
    simp (disch := first | omega | (simp only [add_nx, upd_nx] <;> omega) | decide) only [resA, ev_tmp, tget_ne, tget_eq, get_ne, get_eq, upd_eq, upd_ne, ag_eq, ag_ne, result1]
    exact hK3 rfl _ hk1
  | true =>
  rw [h2, Bool.true_and] at hK3 hK1 hK0
  cases h3 : decide ((L.length : Int) ≤ 4) with
  | false =>
    repeat refine S.seq ?_
    refine S.region ?_
    simp (disch := first | omega | (simp only [add_nx, upd_nx] <;> omega) | decide) only [rUz, ↓reduceIte, Nat.reduceEqDiff, Nat.reduceAdd, fieldAddr_ptr fA0 s3, fieldAddr_ptr fA1 lrD, fieldAddr_ptr fA2 lrL, p3, qrD, qrL, hb1, bk0, bk1, bk2, lD, lL, gtB, h1, h2, h3, Bool.not_false, Bool.not_true]
    repeat refine S.seq ?_
    refine S.cond (v := true) (by first | rfl | (simp (disch := first | omega | (simp only [add_nx, upd_nx] <;> omega) | decide) only [rUz, ↓reduceIte, Nat.reduceEqDiff, Nat.reduceAdd] <;> rfl)) (fun _ => ?_) (fun e => by cases e)
    repeat refine S.seq ?_
    refine S.region ?_
    simp (disch := first | omega | (simp only [add_nx, upd_nx] <;> omega) | decide) only [rUz, ↓reduceIte, Nat.reduceEqDiff, Nat.reduceAdd]
    refine S.ret ?_
    try simp only [seqK_ret, blockK_ret]
    subst hF
    simp only [finish, endMarks]
    rw [show Try.f61.results.toList = [.tmp 2] from rfl]
    simp (disch := first | omega | (simp only [add_nx, upd_nx] <;> omega) | decide) only [resA, ev_tmp, tget_ne, tget_eq, get_ne, get_eq, upd_eq, upd_ne, ag_eq, ag_ne, result1]
    exact hK3 h3 _ hk1
  | true =>
  have hK1 := hK1 h3
  have hK0 := hK0 h3
  clear hK3
  repeat refine S.seq ?_
  refine S.region ?_
  simp (disch := first | omega | (simp only [add_nx, upd_nx] <;> omega) | decide) only [rUz, ↓reduceIte, Nat.reduceEqDiff, Nat.reduceAdd, fieldAddr_ptr fA0 s3, fieldAddr_ptr fA1 lrD, fieldAddr_ptr fA2 lrL, p3, qrD, qrL, hb1, bk0, bk1, bk2, lD, lL, gtB, h1, h2, h3, Bool.not_false, Bool.not_true]
  repeat refine S.seq ?_
  refine S.cond (v := false) (by first | rfl | (simp (disch := first | omega | (simp only [add_nx, upd_nx] <;> omega) | decide) only [rUz, ↓reduceIte, Nat.reduceEqDiff, Nat.reduceAdd] <;> rfl)) (fun e => by cases e) (fun _ => ?_)
  repeat refine S.seq ?_
  refine S.skip ?_
  simp (disch := first | omega | (simp only [add_nx, upd_nx] <;> omega) | decide) only [rUz, ↓reduceIte, Nat.reduceEqDiff, Nat.reduceAdd]
  have hs4 := of_decide_eq_true h1
  have hd4 := of_decide_eq_true h2
  have hl4 := of_decide_eq_true h3
  clear h1 h2 h3
  unfold openB at hK1 hK0
  cases h1 : decide (1 ≤ st) with
  | false =>
    rw [h1, Bool.false_and, Bool.false_and] at hK1
    repeat refine S.seq ?_
    refine S.region ?_
    simp (disch := first | omega | (simp only [add_nx, upd_nx] <;> omega) | decide) only [rUz, ↓reduceIte, Nat.reduceEqDiff, Nat.reduceAdd, fieldAddr_ptr fA0 s3, p3, hb1, bk0, ltB1, h1, Bool.not_false]
    repeat refine S.seq ?_
    refine S.cond (v := true) (by first | rfl | (simp (disch := first | omega | (simp only [add_nx, upd_nx] <;> omega) | decide) only [rUz, ↓reduceIte, Nat.reduceEqDiff, Nat.reduceAdd] <;> rfl)) (fun _ => ?_) (fun e => by cases e)
    repeat refine S.seq ?_
    refine S.region ?_
    simp (disch := first | omega | (simp only [add_nx, upd_nx] <;> omega) | decide) only [rUz, ↓reduceIte, Nat.reduceEqDiff, Nat.reduceAdd]
    refine S.ret ?_
    try simp only [seqK_ret, blockK_ret]
    subst hF
    simp only [finish, endMarks]
    rw [show Try.f61.results.toList = [.tmp 2] from rfl]
    simp (disch := first | omega | (simp only [add_nx, upd_nx] <;> omega) | decide) only [resA, ev_tmp, tget_ne, tget_eq, get_ne, get_eq, upd_eq, upd_ne, ag_eq, ag_ne, result1]
    exact hK1 rfl _ hk1
  | true =>
  rw [h1, Bool.true_and] at hK1 hK0
  cases h2 : decide ((D.length : Int) = 0) with
  | true =>
    rw [h2, Bool.not_true, Bool.false_and] at hK1
    repeat refine S.seq ?_
    refine S.region ?_
    simp (disch := first | omega | (simp only [add_nx, upd_nx] <;> omega) | decide) only [rUz, ↓reduceIte, Nat.reduceEqDiff, Nat.reduceAdd, fieldAddr_ptr fA0 s3, fieldAddr_ptr fA1 lrD, p3, qrD, hb1, bk0, bk1, lD, ltB1, h1, h2, Bool.not_true]
    repeat refine S.seq ?_
    refine S.cond (v := true) (by first | rfl | (simp (disch := first | omega | (simp only [add_nx, upd_nx] <;> omega) | decide) only [rUz, ↓reduceIte, Nat.reduceEqDiff, Nat.reduceAdd] <;> rfl)) (fun _ => ?_) (fun e => by cases e)
    repeat refine S.seq ?_
    refine S.region ?_
    simp (disch := first | omega | (simp only [add_nx, upd_nx] <;> omega) | decide) only [rUz, ↓reduceIte, Nat.reduceEqDiff, Nat.reduceAdd]
    refine S.ret ?_
    try simp only [seqK_ret, blockK_ret]
    subst hF
    simp only [finish, endMarks]
    rw [show Try.f61.results.toList = [.tmp 2] from rfl]
    simp (disch := first | omega | (simp only [add_nx, upd_nx] <;> omega) | decide) only [resA, ev_tmp, tget_ne, tget_eq, get_ne, get_eq, upd_eq, upd_ne, ag_eq, ag_ne, result1]
    exact hK1 rfl _ hk1
  | false =>
  rw [h2, Bool.not_false, Bool.true_and] at hK1 hK0
  repeat refine S.seq ?_
  refine S.region ?_
  simp (disch := first | omega | (simp only [add_nx, upd_nx] <;> omega) | decide) only [rUz, ↓reduceIte, Nat.reduceEqDiff, Nat.reduceAdd, fieldAddr_ptr fA0 s3, fieldAddr_ptr fA1 lrD, p3, qrD, hb1, bk0, bk1, lD, ltB1, h1, h2, Bool.not_true]
  repeat refine S.seq ?_
  refine S.cond (v := false) (by first | rfl | (simp (disch := first | omega | (simp only [add_nx, upd_nx] <;> omega) | decide) only [rUz, ↓reduceIte, Nat.reduceEqDiff, Nat.reduceAdd] <;> rfl)) (fun e => by cases e) (fun _ => ?_)
  repeat refine S.seq ?_
  refine S.skip ?_
  simp (disch := first | omega | (simp only [add_nx, upd_nx] <;> omega) | decide) only [rUz, ↓reduceIte, Nat.reduceEqDiff, Nat.reduceAdd]
  have hs1 := of_decide_eq_true h1
  clear h1 h2
  repeat refine S.seq ?_
  refine S.region ?_
  simp (disch := first | omega | (simp only [add_nx, upd_nx] <;> omega) | decide) only [rUz, ↓reduceIte, Nat.reduceEqDiff, Nat.reduceAdd]
  repeat refine S.seq ?_
  refine S.block ?_
  refine S.loop (ι := Nat) (IFa st D H B1) (fun k => D.length - k) ?_ 0 _ _ ?_
  rotate_left
  · refine ⟨Kp.refl, ?_, ?_, rfl, Nat.zero_le _⟩
    all_goals (first | rfl | (simp (disch := first | omega | (simp only [add_nx, upd_nx] <;> omega) | decide) only [rUz, ↓reduceIte, Nat.reduceEqDiff, Nat.reduceAdd]; done) | (simp (disch := first | omega | (simp only [add_nx, upd_nx] <;> omega) | decide) only [rUz, ↓reduceIte, Nat.reduceEqDiff, Nat.reduceAdd]; rfl))
  intro k t h ⟨hkp, t1, t3, ha, hk⟩ K' hn he
  have hb := (hkp.get hn1).trans hb1
  have hnx := hkp.1
  repeat refine S.seq ?_
  refine S.region ?_
  simp (disch := first | omega | (simp only [add_nx, upd_nx] <;> omega) | decide) only [rUz, ↓reduceIte, Nat.reduceEqDiff, Nat.reduceAdd, t1, t3, fieldAddr_ptr fA1 lrD, qrD, hb, bk1, lD]
  repeat refine S.seq ?_
  refine S.cond (v := decide ((k : Int) < (D.length : Int))) (by first | rfl | (simp (disch := first | omega | (simp only [add_nx, upd_nx] <;> omega) | decide) only [rUz, ↓reduceIte, Nat.reduceEqDiff, Nat.reduceAdd] <;> rfl)) (fun e => ?_) (fun e => ?_)
  · have hkn : k < D.length := by have := of_decide_eq_true e; omega
    clear e
    have hps : D[k]? = some D[k] := List.getElem?_eq_getElem hkn
    have hxm : D[k] ∈ D := List.getElem_mem hkn
    rw [List.drop_eq_getElem_cons hkn, List.all_cons] at ha
    generalize D[k] = x at ha hps hxm
    obtain ⟨b, f, ro, cells, q1, q2, q3, q4, q5, _⟩ := row_idx (hbH.mono hkp).dy slrD srD hps
    have qp := part_at prD q4 q5
    have hxr := hbH.pr x hxm
    repeat refine S.seq ?_
    refine S.skip ?_
    simp (disch := first | omega | (simp only [add_nx, upd_nx] <;> omega) | decide) only [rUz, ↓reduceIte, Nat.reduceEqDiff, Nat.reduceAdd]
    repeat refine S.seq ?_
    refine S.block ?_
    repeat refine S.seq ?_
    refine S.region ?_
    simp (disch := first | omega | (simp only [add_nx, upd_nx] <;> omega) | decide) only [rUz, ↓reduceIte, Nat.reduceEqDiff, Nat.reduceAdd, t1, t3, fieldAddr_ptr fA1 lrD, qrD, hb, bk1, q1, q3, qp, wr_alloc zrD]
    refine wr_storeN (B := h.nx) (c := [nl, iv 0, iv 0]) (fam := h.nx) (k := h.nx) (l := cD x) (by simp (disch := first | omega | (simp only [add_nx, upd_nx] <;> omega) | decide) only [rUz, ↓reduceIte, Nat.reduceEqDiff, Nat.reduceAdd]) (by simp (disch := first | omega | (simp only [add_nx, upd_nx] <;> omega) | decide) only [rUz, ↓reduceIte, Nat.reduceEqDiff, Nat.reduceAdd]) srD (by omega) rfl (ag_eq rfl) (af_eq rfl) rfl ?_
    have hk4 : Kp H ((h.add [nl, iv 0, iv 0]).upd h.nx (cD x) h.nx) := hkp.add.upd hnx
    have hg4 : ((h.add [nl, iv 0, iv 0]).upd h.nx (cD x) h.nx).bl.get h.nx = some (.cells (cD x) h.nx false) := upd_eq _ _ _
    have hn4 : h.nx < ((h.add [nl, iv 0, iv 0]).upd h.nx (cD x) h.nx).nx := Nat.lt_succ_self _
    simp (disch := first | omega | (simp only [add_nx, upd_nx] <;> omega) | decide) only [rUz, ↓reduceIte, Nat.reduceEqDiff, Nat.reduceAdd]
    generalize (h.add [nl, iv 0, iv 0]).upd h.nx (cD x) h.nx = h4 at hk4 hg4 hn4 ⊢
    generalize h.nx = B4 at hg4 hn4 ⊢
    have hb4 := (hk4.get hn1).trans hb1
    have lx := fun t h1 o => row_len (SlAt.mono hxr hk4) isrR t h1 o
    clear q1 q2 q3 q4 q5 qp hb hnx hkp
    clear h
    have hK1r : okD st x = false → ∀ g, Kp H g → K (iv 1) g = true := fun e g hkg => hK1 (by rw [ha, e]; rfl) _ (hk1.trans hkg)
    repeat refine S.seq ?_
    refine S.region ?_
    generalize hJJ : (fun (t : T Value) (h : AHeap) => _) = KJ
    suffices hJ : ∀ t, tget t 1 = ptr0 B1 → tget t 3 = iv (k : Int) → tget t 4 = ptr0 B4 → tget t 66 = .bool (!okD1 st x) → KJ t h4 = true by
      clear hJJ hn he hK1 hK0 hK1r
      unfold okD1 at hJ
      cases h1 : decide ((x.2.1.length : Int) = st) with
      | false =>
        simp (disch := first | omega | (simp only [add_nx, upd_nx] <;> omega) | decide) only [rUz, ↓reduceIte, Nat.reduceEqDiff, Nat.reduceAdd, t1, fieldAddr_ptr frD0 lrR, fieldAddr_ptr fA0 s3, p3, qrR, hg4, hb4, cD0, bk0, lx, h1, Bool.not_false]
        refine hJ _ ?_ ?_ ?_ ?_
        all_goals (first | rfl | (simp (disch := first | omega | (simp only [add_nx, upd_nx] <;> omega) | decide) only [rUz, ↓reduceIte, Nat.reduceEqDiff, Nat.reduceAdd, t1, t3, h1, Bool.false_and, Bool.not_false]; done) | (simp (disch := first | omega | (simp only [add_nx, upd_nx] <;> omega) | decide) only [rUz, ↓reduceIte, Nat.reduceEqDiff, Nat.reduceAdd, t1, t3, h1, Bool.false_and, Bool.not_false]; rfl))
      | true =>
      simp (disch := first | omega | (simp only [add_nx, upd_nx] <;> omega) | decide) only [rUz, ↓reduceIte, Nat.reduceEqDiff, Nat.reduceAdd, t1, fieldAddr_ptr frD0 lrR, fieldAddr_ptr frD1 SrR, fieldAddr_ptr frR0 s3, fieldAddr_ptr frR1 s3, fieldAddr_ptr fA0 s3, p3, qrR, hg4, hb4, cD0, cD1, cD2, bk0, lx, h1, Bool.not_true]
      refine wr_brings (fid := 36) (first := #[]) (captured := #[]) (Post := fun v g => v = .bool (inB x.2.2.1 0 x.2.2.2) ∧ g = h4) rfl (hoff _ _ _ rfl) (by simp (disch := first | omega | (simp only [add_nx, upd_nx] <;> omega) | decide) only [rUz, ↓reduceIte, Nat.reduceEqDiff, Nat.reduceAdd]; exact in_y S h4 x.2.2.1 0 x.2.2.2) ?_
      rintro u g - ⟨rfl, rfl⟩
      cases h2 : inB x.2.2.1 0 x.2.2.2 with
      | false =>
        simp (disch := first | omega | (simp only [add_nx, upd_nx] <;> omega) | decide) only [rUz, ↓reduceIte, Nat.reduceEqDiff, Nat.reduceAdd, un_not, h2, Bool.not_false]
        refine hJ _ ?_ ?_ ?_ ?_
        all_goals (first | rfl | (simp (disch := first | omega | (simp only [add_nx, upd_nx] <;> omega) | decide) only [rUz, ↓reduceIte, Nat.reduceEqDiff, Nat.reduceAdd, t1, t3, h1, h2, Bool.false_and, Bool.true_and, Bool.not_false]; done) | (simp (disch := first | omega | (simp only [add_nx, upd_nx] <;> omega) | decide) only [rUz, ↓reduceIte, Nat.reduceEqDiff, Nat.reduceAdd, t1, t3, h1, h2, Bool.false_and, Bool.true_and, Bool.not_false]; rfl))
      | true =>
      simp (disch := first | omega | (simp only [add_nx, upd_nx] <;> omega) | decide) only [rUz, ↓reduceIte, Nat.reduceEqDiff, Nat.reduceAdd, t1, un_not, h2, Bool.not_true, fieldAddr_ptr frD1 SrR, fieldAddr_ptr frR1 s3, p3, hg4, cD2, gtB]
      refine hJ _ ?_ ?_ ?_ ?_
      all_goals (first | rfl | (simp (disch := first | omega | (simp only [add_nx, upd_nx] <;> omega) | decide) only [rUz, ↓reduceIte, Nat.reduceEqDiff, Nat.reduceAdd, t1, t3, h1, h2, Bool.true_and]; done) | (simp (disch := first | omega | (simp only [add_nx, upd_nx] <;> omega) | decide) only [rUz, ↓reduceIte, Nat.reduceEqDiff, Nat.reduceAdd, t1, t3, h1, h2, Bool.true_and]; rfl))
    intro t t1 t3 t4 t66
    subst hJJ
    simp only [seqK_normal]
    cases hok : okD1 st x with
    | false =>
      repeat refine S.seq ?_
      refine S.cond (v := true) (by first | rfl | (simp (disch := first | omega | (simp only [add_nx, upd_nx] <;> omega) | decide) only [rUz, ↓reduceIte, Nat.reduceEqDiff, Nat.reduceAdd, t66, hok, Bool.not_false] <;> rfl)) (fun _ => ?_) (fun e => by cases e)
      repeat refine S.seq ?_
      refine S.region ?_
      simp (disch := first | omega | (simp only [add_nx, upd_nx] <;> omega) | decide) only [rUz, ↓reduceIte, Nat.reduceEqDiff, Nat.reduceAdd]
      refine S.ret ?_
      simp only [seqK_ret, blockK_ret]
      refine he _ _ _ _ (fun e => by cases e) ?_
      try simp only [seqK_ret, blockK_ret]
      subst hF
      simp only [finish, endMarks]
      rw [show Try.f61.results.toList = [.tmp 2] from rfl]
      simp (disch := first | omega | (simp only [add_nx, upd_nx] <;> omega) | decide) only [resA, ev_tmp, tget_ne, tget_eq, get_ne, get_eq, upd_eq, upd_ne, ag_eq, ag_ne, result1]
      exact hK1r (by rw [okD, hok]; rfl) _ hk4
    | true =>
    have hok2 : okD st x = x.2.1.all okR := by rw [okD, hok, Bool.true_and]
    have hls : (x.2.1.length : Int) = st := by
      unfold okD1 at hok
      rw [Bool.and_eq_true, decide_eq_true_eq] at hok
      exact hok.1
    rw [hok2] at hK1r ha
    repeat refine S.seq ?_
    refine S.cond (v := false) (by first | rfl | (simp (disch := first | omega | (simp only [add_nx, upd_nx] <;> omega) | decide) only [rUz, ↓reduceIte, Nat.reduceEqDiff, Nat.reduceAdd, t66, hok, Bool.not_true] <;> rfl)) (fun e => by cases e) (fun _ => ?_)
    repeat refine S.seq ?_
    refine S.skip ?_
    simp (disch := first | omega | (simp only [add_nx, upd_nx] <;> omega) | decide) only [rUz, ↓reduceIte, Nat.reduceEqDiff, Nat.reduceAdd]
    clear t66
    repeat refine S.seq ?_
    refine S.region ?_
    simp (disch := first | omega | (simp only [add_nx, upd_nx] <;> omega) | decide) only [rUz, ↓reduceIte, Nat.reduceEqDiff, Nat.reduceAdd]
    repeat refine S.seq ?_
    refine S.block ?_
    refine S.loop (ι := Nat) (IFb x h4 B1 B4 k) (fun j => x.2.1.length - j) ?_ 0 _ _ ?_
    rotate_left
    · refine ⟨rfl, ?_, ?_, ?_, ?_, rfl, Nat.zero_le _⟩
      all_goals (first | rfl | (simp (disch := first | omega | (simp only [add_nx, upd_nx] <;> omega) | decide) only [rUz, ↓reduceIte, Nat.reduceEqDiff, Nat.reduceAdd, t1, t3, t4]; done) | (simp (disch := first | omega | (simp only [add_nx, upd_nx] <;> omega) | decide) only [rUz, ↓reduceIte, Nat.reduceEqDiff, Nat.reduceAdd, t1, t3, t4]; rfl))
    clear t1 t3 t4
    clear t
    intro j t h' ⟨hh, t1, t3, t4, t5, haj, hj⟩ K2 hn2 he2
    subst hh
    repeat refine S.seq ?_
    refine S.region ?_
    simp (disch := first | omega | (simp only [add_nx, upd_nx] <;> omega) | decide) only [rUz, ↓reduceIte, Nat.reduceEqDiff, Nat.reduceAdd, t1, t5, fieldAddr_ptr fA0 s3, p3, hb4, bk0]
    rw [← hls]
    repeat refine S.seq ?_
    refine S.cond (v := decide ((j : Int) < (x.2.1.length : Int))) (by first | rfl | (simp (disch := first | omega | (simp only [add_nx, upd_nx] <;> omega) | decide) only [rUz, ↓reduceIte, Nat.reduceEqDiff, Nat.reduceAdd] <;> rfl)) (fun e => ?_) (fun e => ?_)
    · have hjn : j < x.2.1.length := by have := of_decide_eq_true e; omega
      clear e
      have hpr : x.2.1[j]? = some x.2.1[j] := List.getElem?_eq_getElem hjn
      rw [List.drop_eq_getElem_cons hjn, List.all_cons] at haj
      generalize x.2.1[j] = r at haj hpr
      obtain ⟨b, f, ro, cells, q1, q2, q3, q4, q5, q6⟩ := row_idx (SlAt.mono hxr hk4) slrR srR hpr
      have c0 := q6 0 _ (c20 r)
      have c1 := q6 1 _ (c21 r)
      rw [Nat.add_zero] at c0
      repeat refine S.seq ?_
      refine S.skip ?_
      simp (disch := first | omega | (simp only [add_nx, upd_nx] <;> omega) | decide) only [rUz, ↓reduceIte, Nat.reduceEqDiff, Nat.reduceAdd]
      repeat refine S.seq ?_
      refine S.block ?_
      repeat refine S.seq ?_
      refine S.drawnL [(false, 0), (false, 1), (false, 0), (false, 7), (false, 15), (false, 31), (false, 0), (false, 64), (false, 0), (false, 448), (false, 960), (false, 1984), (true, 4095), (false, 8191), (false, 16383), (false, 32767), (false, 65535), (false, 32767), (false, 262143), (false, 524287), (false, 1048575), (false, 2097151), (false, 4194303)] (by kernel_rfl) (by kernel_rfl) (by kernel_rfl) ?_
      generalize hJJ : (fun (t : T Value) (h : AHeap) => _) = KJ
      suffices hJ : ∀ t, tget t 1 = ptr0 B1 → tget t 3 = iv (k : Int) → tget t 4 = ptr0 B4 → tget t 5 = iv (j : Int) → tget t 95 = .bool (!okR r) → KJ t h' = true by
        clear hJJ hn2 he2
        unfold okR at hJ
        simp (disch := first | omega | (simp only [add_nx, upd_nx] <;> omega) | decide) only [rUz, ↓reduceIte, Nat.reduceEqDiff, Nat.reduceAdd, rDz, infoL, Nat.reduceSub, t4, t5, fieldAddr_ptr frD0 lrR, fieldAddr_ptr frR0 s3, fieldAddr_ptr frR1 s3, p3, qrR, hg4, cD0, q1, q3, c0, c1]
        refine drW_brings (fid := 36) (first := #[]) (captured := #[]) (Post := fun v g => v = .bool (inB r.1 0 r.2) ∧ g = h') rfl (hoff _ _ _ rfl) (by simp (disch := first | omega | (simp only [add_nx, upd_nx] <;> omega) | decide) only [rUz, ↓reduceIte, Nat.reduceEqDiff, Nat.reduceAdd]; exact in_y S h' r.1 0 r.2) (Nat.le_of_ble_eq_true rfl) ?_
        rintro u g - ⟨rfl, rfl⟩
        refine ⟨?_, ?_⟩
        · try simp (disch := first | decide | rfl) only [again_nil, again_skip, again_free]
        cases h2 : inB r.1 0 r.2 with
        | false =>
          simp (disch := first | omega | (simp only [add_nx, upd_nx] <;> omega) | decide) only [rUz, ↓reduceIte, Nat.reduceEqDiff, Nat.reduceAdd, rDz, infoL, Nat.reduceSub, un_not, h2, Bool.not_false]
          refine hJ _ ?_ ?_ ?_ ?_ ?_
          all_goals (first | rfl | (simp (disch := first | omega | (simp only [add_nx, upd_nx] <;> omega) | decide) only [rUz, ↓reduceIte, Nat.reduceEqDiff, Nat.reduceAdd, t1, t3, t4, t5, h2, Bool.false_and, Bool.not_false]; done) | (simp (disch := first | omega | (simp only [add_nx, upd_nx] <;> omega) | decide) only [rUz, ↓reduceIte, Nat.reduceEqDiff, Nat.reduceAdd, t1, t3, t4, t5, h2, Bool.false_and, Bool.not_false]; rfl))
        | true =>
          simp (disch := first | omega | (simp only [add_nx, upd_nx] <;> omega) | decide) only [rUz, ↓reduceIte, Nat.reduceEqDiff, Nat.reduceAdd, rDz, infoL, Nat.reduceSub, un_not, h2, Bool.not_true, t4, t5, fieldAddr_ptr frD0 lrR, fieldAddr_ptr frR1 s3, p3, qrR, hg4, cD0, q1, q3, c1, gtB]
          refine hJ _ ?_ ?_ ?_ ?_ ?_
          all_goals (first | rfl | (simp (disch := first | omega | (simp only [add_nx, upd_nx] <;> omega) | decide) only [rUz, ↓reduceIte, Nat.reduceEqDiff, Nat.reduceAdd, t1, t3, t4, t5, h2, Bool.true_and]; done) | (simp (disch := first | omega | (simp only [add_nx, upd_nx] <;> omega) | decide) only [rUz, ↓reduceIte, Nat.reduceEqDiff, Nat.reduceAdd, t1, t3, t4, t5, h2, Bool.true_and]; rfl))
      clear t1 t3 t4 t5 q1 q3 c0 c1
      clear t
      intro t t1 t3 t4 t5 t95
      subst hJJ
      simp only [seqK_normal]
      cases hor : okR r with
      | false =>
        rw [hor, Bool.false_and] at haj
        repeat refine S.seq ?_
        refine S.cond (v := true) (by first | rfl | (simp (disch := first | omega | (simp only [add_nx, upd_nx] <;> omega) | decide) only [rUz, ↓reduceIte, Nat.reduceEqDiff, Nat.reduceAdd, t95, hor, Bool.not_false] <;> rfl)) (fun _ => ?_) (fun e => by cases e)
        repeat refine S.seq ?_
        refine S.region ?_
        simp (disch := first | omega | (simp only [add_nx, upd_nx] <;> omega) | decide) only [rUz, ↓reduceIte, Nat.reduceEqDiff, Nat.reduceAdd]
        refine S.ret ?_
        simp only [seqK_ret, blockK_ret]
        refine he2 _ _ _ _ (fun e => by cases e) ?_
        simp only [seqK_ret, blockK_ret]
        refine he _ _ _ _ (fun e => by cases e) ?_
        try simp only [seqK_ret, blockK_ret]
        subst hF
        simp only [finish, endMarks]
        rw [show Try.f61.results.toList = [.tmp 2] from rfl]
        simp (disch := first | omega | (simp only [add_nx, upd_nx] <;> omega) | decide) only [resA, ev_tmp, tget_ne, tget_eq, get_ne, get_eq, upd_eq, upd_ne, ag_eq, ag_ne, result1]
        exact hK1r haj _ hk4
      | true =>
        rw [hor, Bool.true_and] at haj
        repeat refine S.seq ?_
        refine S.cond (v := false) (by first | rfl | (simp (disch := first | omega | (simp only [add_nx, upd_nx] <;> omega) | decide) only [rUz, ↓reduceIte, Nat.reduceEqDiff, Nat.reduceAdd, t95, hor, Bool.not_true] <;> rfl)) (fun e => by cases e) (fun _ => ?_)
        repeat refine S.seq ?_
        refine S.skip ?_
        simp (disch := first | omega | (simp only [add_nx, upd_nx] <;> omega) | decide) only [rUz, ↓reduceIte, Nat.reduceEqDiff, Nat.reduceAdd]
        repeat refine S.seq ?_
        refine S.region ?_
        simp (disch := first | omega | (simp only [add_nx, upd_nx] <;> omega) | decide) only [rUz, ↓reduceIte, Nat.reduceEqDiff, Nat.reduceAdd, t5]
        refine hn2 (j + 1) _ _ (by omega) ⟨rfl, ?_, ?_, ?_, ?_, haj, by omega⟩
        all_goals (first | rfl | (simp (disch := first | omega | (simp only [add_nx, upd_nx] <;> omega) | decide) only [rUz, ↓reduceIte, Nat.reduceEqDiff, Nat.reduceAdd, t1, t3, t4]; done) | (simp (disch := first | omega | (simp only [add_nx, upd_nx] <;> omega) | decide) only [rUz, ↓reduceIte, Nat.reduceEqDiff, Nat.reduceAdd, t1, t3, t4]; rfl))
    have hjn : j = x.2.1.length := by have := of_decide_eq_false e; omega
    subst hjn
    rw [List.drop_of_length_le (Nat.le_refl _), List.all_nil] at haj
    rw [haj, Bool.true_and] at ha
    refine S.exit (he2 _ _ _ _ (fun e => by cases e) ?_)
    simp (disch := first | omega | (simp only [add_nx, upd_nx] <;> omega) | decide) only [rUz, ↓reduceIte, Nat.reduceEqDiff, Nat.reduceAdd]
    repeat refine S.seq ?_
    refine S.region ?_
    simp (disch := first | omega | (simp only [add_nx, upd_nx] <;> omega) | decide) only [rUz, ↓reduceIte, Nat.reduceEqDiff, Nat.reduceAdd, t3]
    refine hn (k + 1) _ _ (by omega) ⟨hk4, ?_, ?_, ha, by omega⟩
    all_goals (first | rfl | (simp (disch := first | omega | (simp only [add_nx, upd_nx] <;> omega) | decide) only [rUz, ↓reduceIte, Nat.reduceEqDiff, Nat.reduceAdd, t1]; done) | (simp (disch := first | omega | (simp only [add_nx, upd_nx] <;> omega) | decide) only [rUz, ↓reduceIte, Nat.reduceEqDiff, Nat.reduceAdd, t1]; rfl))
  have hkn : k = D.length := by have := of_decide_eq_false e; omega
  subst hkn
  rw [List.drop_of_length_le (Nat.le_refl _), List.all_nil] at ha
  rw [ha, Bool.true_and] at hK1 hK0
  refine S.exit (he _ _ _ _ (fun e => by cases e) ?_)
  simp (disch := first | omega | (simp only [add_nx, upd_nx] <;> omega) | decide) only [rUz, ↓reduceIte, Nat.reduceEqDiff, Nat.reduceAdd]
  clear hn he K' e t3 hk ha hnx
  have hk1 := hk1.trans hkp
  have hbH := hbH.mono hkp
  have hn1 : B1 < h.nx := Nat.lt_of_lt_of_le hn1 hkp.1
  clear hkp hb1
  repeat refine S.seq ?_
  refine S.region ?_
  simp (disch := first | omega | (simp only [add_nx, upd_nx] <;> omega) | decide) only [rUz, ↓reduceIte, Nat.reduceEqDiff, Nat.reduceAdd]
  repeat refine S.seq ?_
  refine S.block ?_
  refine S.loop (ι := Nat) (IFc st L h B1) (fun k => L.length - k) ?_ 0 _ _ ?_
  rotate_left
  · refine ⟨Kp.refl, ?_, ?_, rfl, Nat.zero_le _⟩
    all_goals (first | rfl | (simp (disch := first | omega | (simp only [add_nx, upd_nx] <;> omega) | decide) only [rUz, ↓reduceIte, Nat.reduceEqDiff, Nat.reduceAdd, t1]; done) | (simp (disch := first | omega | (simp only [add_nx, upd_nx] <;> omega) | decide) only [rUz, ↓reduceIte, Nat.reduceEqDiff, Nat.reduceAdd, t1]; rfl))
  clear t1
  clear t
  intro k t h' ⟨hkp, t1, t6, ha, hk⟩ K' hn he
  have hb' := (hkp.get hn1).trans hb
  have hnx := hkp.1
  repeat refine S.seq ?_
  refine S.region ?_
  simp (disch := first | omega | (simp only [add_nx, upd_nx] <;> omega) | decide) only [rUz, ↓reduceIte, Nat.reduceEqDiff, Nat.reduceAdd, t1, t6, fieldAddr_ptr fA2 lrL, qrL, hb', bk2, lL]
  repeat refine S.seq ?_
  refine S.cond (v := decide ((k : Int) < (L.length : Int))) (by first | rfl | (simp (disch := first | omega | (simp only [add_nx, upd_nx] <;> omega) | decide) only [rUz, ↓reduceIte, Nat.reduceEqDiff, Nat.reduceAdd] <;> rfl)) (fun e => ?_) (fun e => ?_)
  · have hkn : k < L.length := by have := of_decide_eq_true e; omega
    clear e
    have hps : L[k]? = some L[k] := List.getElem?_eq_getElem hkn
    have hxm : L[k] ∈ L := List.getElem_mem hkn
    rw [List.drop_eq_getElem_cons hkn, List.all_cons] at ha
    generalize L[k] = x at ha hps hxm
    obtain ⟨b, f, ro, cells, q1, q2, q3, q4, q5, _⟩ := row_idx (hbH.mono hkp).ln slrL srL hps
    have qp := part_at prL q4 q5
    have hxr := hbH.sh x hxm
    repeat refine S.seq ?_
    refine S.skip ?_
    simp (disch := first | omega | (simp only [add_nx, upd_nx] <;> omega) | decide) only [rUz, ↓reduceIte, Nat.reduceEqDiff, Nat.reduceAdd]
    repeat refine S.seq ?_
    refine S.block ?_
    repeat refine S.seq ?_
    refine S.region ?_
    simp (disch := first | omega | (simp only [add_nx, upd_nx] <;> omega) | decide) only [rUz, ↓reduceIte, Nat.reduceEqDiff, Nat.reduceAdd, t1, t6, fieldAddr_ptr fA2 lrL, qrL, hb', bk2, q1, q3, qp, wr_alloc zrL]
    refine wr_storeN (B := h'.nx) (c := [iv 0, iv 0, nl]) (fam := h'.nx) (k := h'.nx) (l := cL x) (by simp (disch := first | omega | (simp only [add_nx, upd_nx] <;> omega) | decide) only [rUz, ↓reduceIte, Nat.reduceEqDiff, Nat.reduceAdd]) (by simp (disch := first | omega | (simp only [add_nx, upd_nx] <;> omega) | decide) only [rUz, ↓reduceIte, Nat.reduceEqDiff, Nat.reduceAdd]) srL (by omega) rfl (ag_eq rfl) (af_eq rfl) rfl ?_
    have hk4 : Kp h ((h'.add [iv 0, iv 0, nl]).upd h'.nx (cL x) h'.nx) := hkp.add.upd hnx
    have hg4 : ((h'.add [iv 0, iv 0, nl]).upd h'.nx (cL x) h'.nx).bl.get h'.nx = some (.cells (cL x) h'.nx false) := upd_eq _ _ _
    simp (disch := first | omega | (simp only [add_nx, upd_nx] <;> omega) | decide) only [rUz, ↓reduceIte, Nat.reduceEqDiff, Nat.reduceAdd]
    generalize (h'.add [iv 0, iv 0, nl]).upd h'.nx (cL x) h'.nx = h4 at hk4 hg4 ⊢
    generalize h'.nx = B7 at hg4 ⊢
    have hb4 := (hk4.get hn1).trans hb
    have hx4 := hxr.mono hk4
    have lx := fun t h1 o => iv_len hx4 t h1 o
    clear q1 q2 q3 q4 q5 qp hb' hnx hkp
    clear h'
    have hK1r : okL st x = false → ∀ g, Kp h g → K (iv 1) g = true := fun e g hkg => hK1 (by rw [ha, e]; rfl) _ (hk1.trans hkg)
    repeat refine S.seq ?_
    refine S.region ?_
    generalize hJJ : (fun (t : T Value) (h : AHeap) => _) = KJ
    suffices hJ : ∀ t, tget t 1 = ptr0 B1 → tget t 6 = iv (k : Int) → tget t 7 = ptr0 B7 → tget t 125 = .bool (!okL1 st x) → KJ t h4 = true by
      clear hJJ hn he hK1 hK0 hK1r
      unfold okL1 at hJ
      simp (disch := first | omega | (simp only [add_nx, upd_nx] <;> omega) | decide) only [rUz, ↓reduceIte, Nat.reduceEqDiff, Nat.reduceAdd, t1, fieldAddr_ptr frL0 s3, p3, hg4, cL0]
      refine wr_brings (fid := 36) (first := #[]) (captured := #[]) (Post := fun v g => v = .bool (inB x.2.1 0 100000) ∧ g = h4) rfl (hoff _ _ _ rfl) (by simp (disch := first | omega | (simp only [add_nx, upd_nx] <;> omega) | decide) only [rUz, ↓reduceIte, Nat.reduceEqDiff, Nat.reduceAdd]; exact in_y S h4 x.2.1 0 100000) ?_
      rintro u g - ⟨rfl, rfl⟩
      cases h1 : inB x.2.1 0 100000 with
      | false =>
        simp (disch := first | omega | (simp only [add_nx, upd_nx] <;> omega) | decide) only [rUz, ↓reduceIte, Nat.reduceEqDiff, Nat.reduceAdd, un_not, h1, Bool.not_false]
        refine hJ _ ?_ ?_ ?_ ?_
        all_goals (first | rfl | (simp (disch := first | omega | (simp only [add_nx, upd_nx] <;> omega) | decide) only [rUz, ↓reduceIte, Nat.reduceEqDiff, Nat.reduceAdd, t1, t6, h1, Bool.false_and, Bool.not_false]; done) | (simp (disch := first | omega | (simp only [add_nx, upd_nx] <;> omega) | decide) only [rUz, ↓reduceIte, Nat.reduceEqDiff, Nat.reduceAdd, t1, t6, h1, Bool.false_and, Bool.not_false]; rfl))
      | true =>
      simp (disch := first | omega | (simp only [add_nx, upd_nx] <;> omega) | decide) only [rUz, ↓reduceIte, Nat.reduceEqDiff, Nat.reduceAdd, un_not, h1, Bool.not_true, fieldAddr_ptr frL1 s3, p3, hg4, cL1]
      refine wr_brings (fid := 36) (first := #[]) (captured := #[]) (Post := fun v g' => v = .bool (inB x.2.2.1 0 100) ∧ g' = g) rfl (hoff _ _ _ rfl) (by simp (disch := first | omega | (simp only [add_nx, upd_nx] <;> omega) | decide) only [rUz, ↓reduceIte, Nat.reduceEqDiff, Nat.reduceAdd]; exact in_y S g x.2.2.1 0 100) ?_
      rintro u g2 - ⟨rfl, rfl⟩
      cases h2 : inB x.2.2.1 0 100 with
      | false =>
        simp (disch := first | omega | (simp only [add_nx, upd_nx] <;> omega) | decide) only [rUz, ↓reduceIte, Nat.reduceEqDiff, Nat.reduceAdd, un_not, h2, Bool.not_false]
        refine hJ _ ?_ ?_ ?_ ?_
        all_goals (first | rfl | (simp (disch := first | omega | (simp only [add_nx, upd_nx] <;> omega) | decide) only [rUz, ↓reduceIte, Nat.reduceEqDiff, Nat.reduceAdd, t1, t6, h1, h2, Bool.false_and, Bool.true_and, Bool.not_false]; done) | (simp (disch := first | omega | (simp only [add_nx, upd_nx] <;> omega) | decide) only [rUz, ↓reduceIte, Nat.reduceEqDiff, Nat.reduceAdd, t1, t6, h1, h2, Bool.false_and, Bool.true_and, Bool.not_false]; rfl))
      | true =>
      simp (disch := first | omega | (simp only [add_nx, upd_nx] <;> omega) | decide) only [rUz, ↓reduceIte, Nat.reduceEqDiff, Nat.reduceAdd, t1, un_not, h2, Bool.not_true, fieldAddr_ptr frL2 lI, fieldAddr_ptr fA0 s3, p3, qI, hg4, hb4, cL2, bk0, lx]
      refine hJ _ ?_ ?_ ?_ ?_
      all_goals (first | rfl | (simp (disch := first | omega | (simp only [add_nx, upd_nx] <;> omega) | decide) only [rUz, ↓reduceIte, Nat.reduceEqDiff, Nat.reduceAdd, t1, t6, h1, h2, Bool.true_and]; done) | (simp (disch := first | omega | (simp only [add_nx, upd_nx] <;> omega) | decide) only [rUz, ↓reduceIte, Nat.reduceEqDiff, Nat.reduceAdd, t1, t6, h1, h2, Bool.true_and]; rfl))
    intro t t1 t6 t7 t125
    subst hJJ
    simp only [seqK_normal]
    cases hok : okL1 st x with
    | false =>
      repeat refine S.seq ?_
      refine S.cond (v := true) (by first | rfl | (simp (disch := first | omega | (simp only [add_nx, upd_nx] <;> omega) | decide) only [rUz, ↓reduceIte, Nat.reduceEqDiff, Nat.reduceAdd, t125, hok, Bool.not_false] <;> rfl)) (fun _ => ?_) (fun e => by cases e)
      repeat refine S.seq ?_
      refine S.region ?_
      simp (disch := first | omega | (simp only [add_nx, upd_nx] <;> omega) | decide) only [rUz, ↓reduceIte, Nat.reduceEqDiff, Nat.reduceAdd]
      refine S.ret ?_
      simp only [seqK_ret, blockK_ret]
      refine he _ _ _ _ (fun e => by cases e) ?_
      try simp only [seqK_ret, blockK_ret]
      subst hF
      simp only [finish, endMarks]
      rw [show Try.f61.results.toList = [.tmp 2] from rfl]
      simp (disch := first | omega | (simp only [add_nx, upd_nx] <;> omega) | decide) only [resA, ev_tmp, tget_ne, tget_eq, get_ne, get_eq, upd_eq, upd_ne, ag_eq, ag_ne, result1]
      exact hK1r (by rw [okL, hok]; rfl) _ hk4
    | true =>
    have hok2 : okL st x = x.2.2.2.all fun n => inB n 0 100 := by rw [okL, hok, Bool.true_and]
    have hls : (x.2.2.2.length : Int) = st := by
      unfold okL1 at hok
      rw [Bool.and_eq_true, Bool.and_eq_true, decide_eq_true_eq] at hok
      exact hok.2.2
    rw [hok2] at hK1r ha
    repeat refine S.seq ?_
    refine S.cond (v := false) (by first | rfl | (simp (disch := first | omega | (simp only [add_nx, upd_nx] <;> omega) | decide) only [rUz, ↓reduceIte, Nat.reduceEqDiff, Nat.reduceAdd, t125, hok, Bool.not_true] <;> rfl)) (fun e => by cases e) (fun _ => ?_)
    repeat refine S.seq ?_
    refine S.skip ?_
    simp (disch := first | omega | (simp only [add_nx, upd_nx] <;> omega) | decide) only [rUz, ↓reduceIte, Nat.reduceEqDiff, Nat.reduceAdd]
    clear t125
    repeat refine S.seq ?_
    refine S.region ?_
    simp (disch := first | omega | (simp only [add_nx, upd_nx] <;> omega) | decide) only [rUz, ↓reduceIte, Nat.reduceEqDiff, Nat.reduceAdd]
    repeat refine S.seq ?_
    refine S.block ?_
    refine S.loop (ι := Nat) (IFd x h4 B1 B7 k) (fun j => x.2.2.2.length - j) ?_ 0 _ _ ?_
    rotate_left
    · refine ⟨rfl, ?_, ?_, ?_, ?_, rfl, Nat.zero_le _⟩
      all_goals (first | rfl | (simp (disch := first | omega | (simp only [add_nx, upd_nx] <;> omega) | decide) only [rUz, ↓reduceIte, Nat.reduceEqDiff, Nat.reduceAdd, t1, t6, t7]; done) | (simp (disch := first | omega | (simp only [add_nx, upd_nx] <;> omega) | decide) only [rUz, ↓reduceIte, Nat.reduceEqDiff, Nat.reduceAdd, t1, t6, t7]; rfl))
    clear t1 t6 t7
    clear t
    intro j t h' ⟨hh, t1, t6, t7, t8, haj, hj⟩ K2 hn2 he2
    subst hh
    repeat refine S.seq ?_
    refine S.region ?_
    simp (disch := first | omega | (simp only [add_nx, upd_nx] <;> omega) | decide) only [rUz, ↓reduceIte, Nat.reduceEqDiff, Nat.reduceAdd, t1, t8, fieldAddr_ptr fA0 s3, p3, hb4, bk0]
    rw [← hls]
    repeat refine S.seq ?_
    refine S.cond (v := decide ((j : Int) < (x.2.2.2.length : Int))) (by first | rfl | (simp (disch := first | omega | (simp only [add_nx, upd_nx] <;> omega) | decide) only [rUz, ↓reduceIte, Nat.reduceEqDiff, Nat.reduceAdd] <;> rfl)) (fun e => ?_) (fun e => ?_)
    · have hjn : j < x.2.2.2.length := by have := of_decide_eq_true e; omega
      clear e
      obtain ⟨b, f, ro, q1, q2, q3, q4⟩ := hx4.idx slI s3' hjn
      rw [List.drop_eq_getElem_cons hjn, List.all_cons] at haj
      generalize x.2.2.2[j] = r at haj q4
      repeat refine S.seq ?_
      refine S.skip ?_
      simp (disch := first | omega | (simp only [add_nx, upd_nx] <;> omega) | decide) only [rUz, ↓reduceIte, Nat.reduceEqDiff, Nat.reduceAdd]
      repeat refine S.seq ?_
      refine S.block ?_
      repeat refine S.seq ?_
      refine S.region ?_
      simp (disch := first | omega | (simp only [add_nx, upd_nx] <;> omega) | decide) only [rUz, ↓reduceIte, Nat.reduceEqDiff, Nat.reduceAdd, t7, t8, fieldAddr_ptr frL2 lI, qI, hg4, cL2, q1, q3, p3, q4]
      refine wr_brings (fid := 36) (first := #[]) (captured := #[]) (Post := fun v g => v = .bool (inB r 0 100) ∧ g = h') rfl (hoff _ _ _ rfl) (by simp (disch := first | omega | (simp only [add_nx, upd_nx] <;> omega) | decide) only [rUz, ↓reduceIte, Nat.reduceEqDiff, Nat.reduceAdd]; exact in_y S h' r 0 100) ?_
      rintro u g - ⟨rfl, rfl⟩
      cases h2 : inB r 0 100 with
      | false =>
        rw [h2, Bool.false_and] at haj
        simp (disch := first | omega | (simp only [add_nx, upd_nx] <;> omega) | decide) only [rUz, ↓reduceIte, Nat.reduceEqDiff, Nat.reduceAdd, un_not, h2, Bool.not_false]
        repeat refine S.seq ?_
        refine S.cond (v := true) (by first | rfl | (simp (disch := first | omega | (simp only [add_nx, upd_nx] <;> omega) | decide) only [rUz, ↓reduceIte, Nat.reduceEqDiff, Nat.reduceAdd] <;> rfl)) (fun _ => ?_) (fun e => by cases e)
        repeat refine S.seq ?_
        refine S.region ?_
        simp (disch := first | omega | (simp only [add_nx, upd_nx] <;> omega) | decide) only [rUz, ↓reduceIte, Nat.reduceEqDiff, Nat.reduceAdd]
        refine S.ret ?_
        simp only [seqK_ret, blockK_ret]
        refine he2 _ _ _ _ (fun e => by cases e) ?_
        simp only [seqK_ret, blockK_ret]
        refine he _ _ _ _ (fun e => by cases e) ?_
        try simp only [seqK_ret, blockK_ret]
        subst hF
        simp only [finish, endMarks]
        rw [show Try.f61.results.toList = [.tmp 2] from rfl]
        simp (disch := first | omega | (simp only [add_nx, upd_nx] <;> omega) | decide) only [resA, ev_tmp, tget_ne, tget_eq, get_ne, get_eq, upd_eq, upd_ne, ag_eq, ag_ne, result1]
        exact hK1r haj _ hk4
      | true =>
        rw [h2, Bool.true_and] at haj
        simp (disch := first | omega | (simp only [add_nx, upd_nx] <;> omega) | decide) only [rUz, ↓reduceIte, Nat.reduceEqDiff, Nat.reduceAdd, un_not, h2, Bool.not_true]
        repeat refine S.seq ?_
        refine S.cond (v := false) (by first | rfl | (simp (disch := first | omega | (simp only [add_nx, upd_nx] <;> omega) | decide) only [rUz, ↓reduceIte, Nat.reduceEqDiff, Nat.reduceAdd] <;> rfl)) (fun e => by cases e) (fun _ => ?_)
        repeat refine S.seq ?_
        refine S.skip ?_
        simp (disch := first | omega | (simp only [add_nx, upd_nx] <;> omega) | decide) only [rUz, ↓reduceIte, Nat.reduceEqDiff, Nat.reduceAdd]
        repeat refine S.seq ?_
        refine S.region ?_
        simp (disch := first | omega | (simp only [add_nx, upd_nx] <;> omega) | decide) only [rUz, ↓reduceIte, Nat.reduceEqDiff, Nat.reduceAdd, t8]
        refine hn2 (j + 1) _ _ (by omega) ⟨rfl, ?_, ?_, ?_, ?_, haj, by omega⟩
        all_goals (first | rfl | (simp (disch := first | omega | (simp only [add_nx, upd_nx] <;> omega) | decide) only [rUz, ↓reduceIte, Nat.reduceEqDiff, Nat.reduceAdd, t1, t6, t7]; done) | (simp (disch := first | omega | (simp only [add_nx, upd_nx] <;> omega) | decide) only [rUz, ↓reduceIte, Nat.reduceEqDiff, Nat.reduceAdd, t1, t6, t7]; rfl))
    have hjn : j = x.2.2.2.length := by have := of_decide_eq_false e; omega
    subst hjn
    rw [List.drop_of_length_le (Nat.le_refl _), List.all_nil] at haj
    rw [haj, Bool.true_and] at ha
    refine S.exit (he2 _ _ _ _ (fun e => by cases e) ?_)
    simp (disch := first | omega | (simp only [add_nx, upd_nx] <;> omega) | decide) only [rUz, ↓reduceIte, Nat.reduceEqDiff, Nat.reduceAdd]
    repeat refine S.seq ?_
    refine S.region ?_
    simp (disch := first | omega | (simp only [add_nx, upd_nx] <;> omega) | decide) only [rUz, ↓reduceIte, Nat.reduceEqDiff, Nat.reduceAdd, t6]
    refine hn (k + 1) _ _ (by omega) ⟨hk4, ?_, ?_, ha, by omega⟩
    all_goals (first | rfl | (simp (disch := first | omega | (simp only [add_nx, upd_nx] <;> omega) | decide) only [rUz, ↓reduceIte, Nat.reduceEqDiff, Nat.reduceAdd, t1]; done) | (simp (disch := first | omega | (simp only [add_nx, upd_nx] <;> omega) | decide) only [rUz, ↓reduceIte, Nat.reduceEqDiff, Nat.reduceAdd, t1]; rfl))
  have hkn : k = L.length := by have := of_decide_eq_false e; omega
  subst hkn
  rw [List.drop_of_length_le (Nat.le_refl _), List.all_nil] at ha
  refine S.exit (he _ _ _ _ (fun e => by cases e) ?_)
  simp (disch := first | omega | (simp only [add_nx, upd_nx] <;> omega) | decide) only [rUz, ↓reduceIte, Nat.reduceEqDiff, Nat.reduceAdd]
  repeat refine S.seq ?_
  refine S.region ?_
  simp (disch := first | omega | (simp only [add_nx, upd_nx] <;> omega) | decide) only [rUz, ↓reduceIte, Nat.reduceEqDiff, Nat.reduceAdd]
  refine S.ret ?_
  try simp only [seqK_ret, blockK_ret]
  subst hF
  simp only [finish, endMarks]
  rw [show Try.f61.results.toList = [.tmp 2] from rfl]
  simp (disch := first | omega | (simp only [add_nx, upd_nx] <;> omega) | decide) only [resA, ev_tmp, tget_ne, tget_eq, get_ne, get_eq, upd_eq, upd_ne, ag_eq, ag_ne, result1]
  exact hK0 ha _ (hk1.trans hkp)
set_option maxHeartbeats 4000000 in
theorem faultw_y (S : Ev.Steps Try.prog pr R) (hoff : Off pr) (h0 : AHeap) (st : Int) (dv lv : Value) (D : List PD) (L : List PL) (hb : BkAt h0 dv lv D L) :
    Brings Try.prog R 28 [.agg ⟨bkV st dv lv⟩] h0 fun u _ => u = iv (faultZ st D L) := by
  refine brings_of (fn := Try.f28) (c := (Try.f28.body).getD .skip) (by kernel_rfl) rfl (by kernel_rfl) rfl (fun K hK => ?_)
  generalize hF : finish Try.prog Try.f28 K = KF
  simp only [Try.f28, Option.getD_some, argsT, setArgs, fV1_eq, T.setK_eq, id]
  repeat refine S.seq ?_
  refine S.region ?_
  simp (disch := first | omega | (simp only [add_nx, upd_nx] <;> omega) | decide) only [rUz, ↓reduceIte, Nat.reduceEqDiff, Nat.reduceAdd]
  repeat refine S.seq ?_
  refine S.region ?_
  simp (disch := first | omega | (simp only [add_nx, upd_nx] <;> omega) | decide) only [rUz, ↓reduceIte, Nat.reduceEqDiff, Nat.reduceAdd, part_0 pA (bkV_len st dv lv)]
  refine wr_brings (fid := 61) (first := #[]) (captured := #[]) (Post := fun v _ => v = iv (faultZ st D L)) rfl (hoff _ _ _ rfl) (by simp (disch := first | omega | (simp only [add_nx, upd_nx] <;> omega) | decide) only [rUz, ↓reduceIte, Nat.reduceEqDiff, Nat.reduceAdd]; exact fault_y S hoff _ st dv lv D L (hb.mono Kp.refl.add)) ?_
  rintro u g hk rfl
  simp (disch := first | omega | (simp only [add_nx, upd_nx] <;> omega) | decide) only [rUz, ↓reduceIte, Nat.reduceEqDiff, Nat.reduceAdd]
  refine S.ret ?_
  try simp only [seqK_ret, blockK_ret]
  subst hF
  simp only [finish, endMarks]
  rw [show Try.f28.results.toList = [.tmp 2] from rfl]
  simp (disch := first | omega | (simp only [add_nx, upd_nx] <;> omega) | decide) only [resA, ev_tmp, tget_ne, tget_eq, get_ne, get_eq, upd_eq, upd_ne, ag_eq, ag_ne, result1]
  exact hK _ _ (Kp.refl.add.trans hk) rfl
/-! ## What a bank without an error has -/
structure Val (st : Int) (D : List PD) (L : List PL) : Prop where
  s1 : 1 ≤ st
  s4 : st ≤ 4
  d4 : (D.length : Int) ≤ 4
  d0 : (D.length : Int) ≠ 0
  l4 : (L.length : Int) ≤ 4
  dy : ∀ x, x ∈ D → okD st x = true
  ln : ∀ x, x ∈ L → okL st x = true
theorem val_iff {st : Int} {D : List PD} {L : List PL} : faultZ st D L = 0 ↔ Val st D L := by
  unfold faultZ
  constructor
  · intro h
    cases h1 : fewB st D L with
    | false => rw [h1, cond_false] at h; omega
    | true =>
      rw [h1, cond_true] at h
      cases h2 : (openB st D && (D.all (okD st) && L.all (okL st))) with
      | false => rw [h2, cond_false] at h; omega
      | true =>
        simp only [fewB, openB, Bool.and_eq_true, decide_eq_true_eq, List.all_eq_true, Bool.not_eq_true', decide_eq_false_iff_not] at h1 h2
        exact ⟨h2.1.1, h1.1, h1.2.1, h2.1.2, h1.2.2, h2.2.1, h2.2.2⟩
  · intro h
    have h1 : fewB st D L = true := by
      simp only [fewB, Bool.and_eq_true, decide_eq_true_eq]
      exact ⟨h.s4, h.d4, h.l4⟩
    have h2 : (openB st D && (D.all (okD st) && L.all (okL st))) = true := by
      simp only [openB, Bool.and_eq_true, decide_eq_true_eq, List.all_eq_true, Bool.not_eq_true', decide_eq_false_iff_not]
      exact ⟨⟨h.s1, h.d0⟩, h.dy, h.ln⟩
    rw [h1, h2]; rfl
structure OkD (st : Int) (x : PD) : Prop where
  len : (x.2.1.length : Int) = st
  r0 : 0 ≤ x.2.2.1
  r1 : x.2.2.1 ≤ x.2.2.2
  r2 : x.2.2.2 ≤ 100
  pr : ∀ r, r ∈ x.2.1 → 0 ≤ r.1 ∧ r.1 ≤ r.2 ∧ r.2 ≤ 1000
theorem okD_iff {st : Int} {x : PD} : okD st x = true ↔ OkD st x := by
  simp only [okD, okD1, okR, Bool.and_eq_true, decide_eq_true_eq, inB_iff, List.all_eq_true]
  exact ⟨fun h => ⟨h.1.1, h.1.2.1.1, h.1.2.1.2, h.1.2.2, fun r hr => ⟨(h.2 r hr).1.1, (h.2 r hr).1.2, (h.2 r hr).2⟩⟩,
    fun h => ⟨⟨h.len, ⟨h.r0, h.r1⟩, h.r2⟩, fun r hr => ⟨⟨(h.pr r hr).1, (h.pr r hr).2.1⟩, (h.pr r hr).2.2⟩⟩⟩
structure OkL (st : Int) (x : PL) : Prop where
  m0 : 0 ≤ x.2.1
  m1 : x.2.1 ≤ 100000
  g0 : 0 ≤ x.2.2.1
  g1 : x.2.2.1 ≤ 100
  len : (x.2.2.2.length : Int) = st
  sh : ∀ n, n ∈ x.2.2.2 → 0 ≤ n ∧ n ≤ 100
theorem okL_iff {st : Int} {x : PL} : okL st x = true ↔ OkL st x := by
  simp only [okL, okL1, Bool.and_eq_true, decide_eq_true_eq, inB_iff, List.all_eq_true]
  exact ⟨fun h => ⟨h.1.1.1, h.1.1.2, h.1.2.1.1, h.1.2.1.2, h.1.2.2, h.2⟩, fun h => ⟨⟨⟨h.m0, h.m1⟩, ⟨h.g0, h.g1⟩, h.len⟩, h.sh⟩⟩
end Go.Proofs.Mg
