import Derived.Test.YtfbkgnojdngiiaaMh9
/- The program's tests: whether a bank is valid, and whether a truth is one of it. -/
namespace Go.Proofs.Mg
open Go Go.Ev Go.RowKit
set_option linter.unusedSimpArgs false
variable {pr : Prim} {R : ExT}
set_option maxHeartbeats 4000000 in
theorem rhas_y (S : Ev.Steps Try.prog pr R) (h0 : AHeap) (r : R2) (n : Int) : Brings Try.prog R 46 [.agg ⟨c2 r⟩, iv n] h0 fun u _ => u = .bool (inB n r.1 r.2) := by
  refine brings_of (fn := Try.f46) (c := (Try.f46.body).getD .skip) (by kernel_rfl) rfl (by kernel_rfl) rfl (fun K hK => ?_)
  generalize hF : finish Try.prog Try.f46 K = KF
  simp only [Try.f46, Option.getD_some, argsT, setArgs, fV1_eq, T.setK_eq, id]
  have hK' : ∀ b, b = inB n r.1 r.2 → ∀ g, Kp h0 g → K (.bool b) g = true := fun b e g hk => hK _ _ hk (by rw [e])
  clear hK
  unfold inB at hK'
  repeat refine S.seq ?_
  refine S.region ?_
  simp (disch := first | omega | (simp only [add_nx, upd_nx] <;> omega) | decide) only [rUz, ↓reduceIte, Nat.reduceEqDiff, Nat.reduceAdd]
  have hb : (h0.add (c2 r)).bl.get h0.nx = some (.cells (c2 r) h0.nx false) := ag_eq rfl
  cases h1 : decide (r.1 ≤ n) with
  | false =>
    rw [h1, Bool.false_and] at hK'
    repeat refine S.seq ?_
    refine S.region ?_
    simp (disch := first | omega | (simp only [add_nx, upd_nx] <;> omega) | decide) only [rUz, ↓reduceIte, Nat.reduceEqDiff, Nat.reduceAdd, fieldAddr_ptr fcR0 s3, p3, c20, h1]
    refine S.ret ?_
    try simp only [seqK_ret, blockK_ret]
    subst hF
    simp only [finish, endMarks]
    rw [show Try.f46.results.toList = [.tmp 4] from rfl]
    simp (disch := first | omega | (simp only [add_nx, upd_nx] <;> omega) | decide) only [resA, ev_tmp, tget_ne, tget_eq, get_ne, get_eq, upd_eq, upd_ne, ag_eq, ag_ne, result1]
    exact hK' _ rfl _ Kp.refl.add
  | true =>
    rw [h1, Bool.true_and] at hK'
    repeat refine S.seq ?_
    refine S.region ?_
    simp (disch := first | omega | (simp only [add_nx, upd_nx] <;> omega) | decide) only [rUz, ↓reduceIte, Nat.reduceEqDiff, Nat.reduceAdd, fieldAddr_ptr fcR0 s3, fieldAddr_ptr fcR1 s3, p3, c20, c21, h1]
    refine S.ret ?_
    try simp only [seqK_ret, blockK_ret]
    subst hF
    simp only [finish, endMarks]
    rw [show Try.f46.results.toList = [.tmp 4] from rfl]
    simp (disch := first | omega | (simp only [add_nx, upd_nx] <;> omega) | decide) only [resA, ev_tmp, tget_ne, tget_eq, get_ne, get_eq, upd_eq, upd_ne, ag_eq, ag_ne, result1]
    exact hK' _ rfl _ Kp.refl.add
set_option maxHeartbeats 4000000 in
theorem isFrom0_y (S : Ev.Steps Try.prog pr R) (h0 : AHeap) (r : R2) (n : Int) : Brings Try.prog R 98 [.agg ⟨c2 r⟩, iv n] h0 fun u _ => u = .bool (inB r.1 0 r.2 && decide (r.2 ≤ n)) := by
  refine brings_of (fn := Try.f98) (c := (Try.f98.body).getD .skip) (by kernel_rfl) rfl (by kernel_rfl) rfl (fun K hK => ?_)
  generalize hF : finish Try.prog Try.f98 K = KF
  simp only [Try.f98, Option.getD_some, argsT, setArgs, fV1_eq, T.setK_eq, id]
  have hK' : ∀ b, b = (inB r.1 0 r.2 && decide (r.2 ≤ n)) → ∀ g, Kp h0 g → K (.bool b) g = true := fun b e g hk => hK _ _ hk (by rw [e])
  clear hK
  unfold inB at hK'
  repeat refine S.seq ?_
  refine S.region ?_
  simp (disch := first | omega | (simp only [add_nx, upd_nx] <;> omega) | decide) only [rUz, ↓reduceIte, Nat.reduceEqDiff, Nat.reduceAdd]
  cases h1 : decide (0 ≤ r.1) with
  | false =>
    rw [h1, Bool.false_and, Bool.false_and] at hK'
    repeat refine S.seq ?_
    refine S.region ?_
    simp (disch := first | omega | (simp only [add_nx, upd_nx] <;> omega) | decide) only [rUz, ↓reduceIte, Nat.reduceEqDiff, Nat.reduceAdd, fieldAddr_ptr fcR0 s3, p3, c20, h1]
    refine S.ret ?_
    try simp only [seqK_ret, blockK_ret]
    subst hF
    simp only [finish, endMarks]
    rw [show Try.f98.results.toList = [.tmp 4] from rfl]
    simp (disch := first | omega | (simp only [add_nx, upd_nx] <;> omega) | decide) only [resA, ev_tmp, tget_ne, tget_eq, get_ne, get_eq, upd_eq, upd_ne, ag_eq, ag_ne, result1]
    exact hK' _ rfl _ Kp.refl.add
  | true =>
  rw [h1, Bool.true_and] at hK'
  cases h2 : decide (r.1 ≤ r.2) with
  | false =>
    rw [h2, Bool.false_and] at hK'
    repeat refine S.seq ?_
    refine S.region ?_
    simp (disch := first | omega | (simp only [add_nx, upd_nx] <;> omega) | decide) only [rUz, ↓reduceIte, Nat.reduceEqDiff, Nat.reduceAdd, fieldAddr_ptr fcR0 s3, fieldAddr_ptr fcR1 s3, p3, c20, c21, h1, h2]
    refine S.ret ?_
    try simp only [seqK_ret, blockK_ret]
    subst hF
    simp only [finish, endMarks]
    rw [show Try.f98.results.toList = [.tmp 4] from rfl]
    simp (disch := first | omega | (simp only [add_nx, upd_nx] <;> omega) | decide) only [resA, ev_tmp, tget_ne, tget_eq, get_ne, get_eq, upd_eq, upd_ne, ag_eq, ag_ne, result1]
    exact hK' _ rfl _ Kp.refl.add
  | true =>
    rw [h2, Bool.true_and] at hK'
    repeat refine S.seq ?_
    refine S.region ?_
    simp (disch := first | omega | (simp only [add_nx, upd_nx] <;> omega) | decide) only [rUz, ↓reduceIte, Nat.reduceEqDiff, Nat.reduceAdd, fieldAddr_ptr fcR0 s3, fieldAddr_ptr fcR1 s3, p3, c20, c21, h1, h2]
    refine S.ret ?_
    try simp only [seqK_ret, blockK_ret]
    subst hF
    simp only [finish, endMarks]
    rw [show Try.f98.results.toList = [.tmp 4] from rfl]
    simp (disch := first | omega | (simp only [add_nx, upd_nx] <;> omega) | decide) only [resA, ev_tmp, tget_ne, tget_eq, get_ne, get_eq, upd_eq, upd_ne, ag_eq, ag_ne, result1]
    exact hK' _ rfl _ Kp.refl.add
set_option maxHeartbeats 4000000 in
theorem isOfPrices_y (S : Ev.Steps Try.prog pr R) (hoff : Off pr) (h0 : AHeap) (r : R2) : Brings Try.prog R 97 [.agg ⟨c2 r⟩] h0 fun u _ => u = .bool (okR r) := by
  refine brings_of (fn := Try.f97) (c := (Try.f97.body).getD .skip) (by kernel_rfl) rfl (by kernel_rfl) rfl (fun K hK => ?_)
  generalize hF : finish Try.prog Try.f97 K = KF
  simp only [Try.f97, Option.getD_some, argsT, setArgs, fV1_eq, T.setK_eq, id]
  repeat refine S.seq ?_
  refine S.region ?_
  simp (disch := first | omega | (simp only [add_nx, upd_nx] <;> omega) | decide) only [rUz, ↓reduceIte, Nat.reduceEqDiff, Nat.reduceAdd]
  repeat refine S.seq ?_
  refine S.region ?_
  simp (disch := first | omega | (simp only [add_nx, upd_nx] <;> omega) | decide) only [rUz, ↓reduceIte, Nat.reduceEqDiff, Nat.reduceAdd, part_0 pcR (c2_len r)]
  refine wr_brings (fid := 98) (first := #[]) (captured := #[]) (Post := fun u _ => u = .bool (inB r.1 0 r.2 && decide (r.2 ≤ 1000))) rfl (hoff _ _ _ rfl) (by simp (disch := first | omega | (simp only [add_nx, upd_nx] <;> omega) | decide) only [rUz, ↓reduceIte, Nat.reduceEqDiff, Nat.reduceAdd]; exact isFrom0_y S _ r 1000) ?_
  rintro u g hk rfl
  simp (disch := first | omega | (simp only [add_nx, upd_nx] <;> omega) | decide) only [rUz, ↓reduceIte, Nat.reduceEqDiff, Nat.reduceAdd]
  refine S.ret ?_
  try simp only [seqK_ret, blockK_ret]
  subst hF
  simp only [finish, endMarks]
  rw [show Try.f97.results.toList = [.tmp 2] from rfl]
  simp (disch := first | omega | (simp only [add_nx, upd_nx] <;> omega) | decide) only [resA, ev_tmp, tget_ne, tget_eq, get_ne, get_eq, upd_eq, upd_ne, ag_eq, ag_ne, result1]
  exact hK _ _ (Kp.refl.add.trans hk) rfl
set_option maxHeartbeats 4000000 in
theorem isNumber_y (S : Ev.Steps Try.prog pr R) (h0 : AHeap) (i : Int) : Brings Try.prog R 101 [iv i] h0 fun v _ => v = .bool (inB i 0 100) := by
  refine brings_of (fn := Try.f101) (c := (Try.f101.body).getD .skip) (by kernel_rfl) rfl (by kernel_rfl) rfl (fun K hK => ?_)
  generalize hF : finish Try.prog Try.f101 K = KF
  simp only [Try.f101, Option.getD_some, argsT, setArgs, fV1_eq, T.setK_eq, id]
  repeat refine S.seq ?_
  refine S.region ?_
  simp (disch := first | omega | (simp only [add_nx, upd_nx] <;> omega) | decide) only [rUz, ↓reduceIte, Nat.reduceEqDiff, Nat.reduceAdd]
  unfold inB at hK
  by_cases h1 : 0 ≤ i
  · have hd : decide (0 ≤ i) = true := decide_eq_true h1
    rw [hd, Bool.true_and] at hK
    repeat refine S.seq ?_
    refine S.region ?_
    simp (disch := first | omega | (simp only [add_nx, upd_nx] <;> omega) | decide) only [rUz, ↓reduceIte, Nat.reduceEqDiff, Nat.reduceAdd, hd]
    refine S.ret ?_
    try simp only [seqK_ret, blockK_ret]
    subst hF
    simp only [finish, endMarks]
    rw [show Try.f101.results.toList = [.tmp 2] from rfl]
    simp (disch := first | omega | (simp only [add_nx, upd_nx] <;> omega) | decide) only [resA, ev_tmp, tget_ne, tget_eq, get_ne, get_eq, upd_eq, upd_ne, ag_eq, ag_ne, result1]
    exact hK _ _ Kp.refl rfl
  · have hd : decide (0 ≤ i) = false := decide_eq_false h1
    rw [hd, Bool.false_and] at hK
    repeat refine S.seq ?_
    refine S.region ?_
    simp (disch := first | omega | (simp only [add_nx, upd_nx] <;> omega) | decide) only [rUz, ↓reduceIte, Nat.reduceEqDiff, Nat.reduceAdd, hd]
    refine S.ret ?_
    try simp only [seqK_ret, blockK_ret]
    subst hF
    simp only [finish, endMarks]
    rw [show Try.f101.results.toList = [.tmp 2] from rfl]
    simp (disch := first | omega | (simp only [add_nx, upd_nx] <;> omega) | decide) only [resA, ev_tmp, tget_ne, tget_eq, get_ne, get_eq, upd_eq, upd_ne, ag_eq, ag_ne, result1]
    exact hK _ _ Kp.refl rfl
set_option maxHeartbeats 4000000 in
theorem validDay_y (S : Ev.Steps Try.prog pr R) (hoff : Off pr) (h0 : AHeap) (st : Int) (dv lv : Value) (x : PD) (hx : SlAt h0 2 x.1 (x.2.1.map c2)) (h7 : (x.2.1.length : Int) ≤ 7) :
    Brings Try.prog R 83 [.agg ⟨bkV st dv lv⟩, .agg ⟨cD x⟩] h0 fun u _ => u = .bool (okD st x) := by
  refine brings_of (fn := Try.f83) (c := (Try.f83.body).getD .skip) (by kernel_rfl) rfl (by kernel_rfl) rfl (fun K hK => ?_)
  generalize hF : finish Try.prog Try.f83 K = KF
  simp only [Try.f83, Option.getD_some, argsT, setArgs, fV1_eq, T.setK_eq, id]
  have hK' : ∀ b, b = okD st x → ∀ g, Kp h0 g → K (.bool b) g = true := fun b e g hk => hK _ _ hk (by rw [e])
  clear hK
  have hok : okD st x = (decide ((x.2.1.length : Int) = st) && x.2.1.all okR && (inB x.2.2.1 0 x.2.2.2 && decide (x.2.2.2 ≤ 100))) := by
    unfold okD okD1
    generalize (inB x.2.2.1 0 x.2.2.2 && decide (x.2.2.2 ≤ 100)) = b
    cases decide ((x.2.1.length : Int) = st) <;> cases b <;> cases x.2.1.all okR <;> rfl
  rw [hok] at hK'
  repeat refine S.seq ?_
  refine S.region ?_
  simp (disch := first | omega | (simp only [add_nx, upd_nx] <;> omega) | decide) only [rUz, ↓reduceIte, Nat.reduceEqDiff, Nat.reduceAdd]
  obtain ⟨B2, hB2⟩ : ∃ x, x = h0.nx := ⟨_, rfl⟩
  obtain ⟨B3, hB3⟩ : ∃ x, x = h0.nx + 1 := ⟨_, rfl⟩
  have hb2 : ((h0.add (bkV st dv lv)).add (cD x)).bl.get B2 = some (.cells (bkV st dv lv) B2 false) := by rw [ag_ne (by show B2 ≠ h0.nx + 1; omega)]; subst hB2; exact ag_eq rfl
  have hb3 : ((h0.add (bkV st dv lv)).add (cD x)).bl.get B3 = some (.cells (cD x) B3 false) := by subst hB3; exact ag_eq rfl
  have hn3 : B3 < ((h0.add (bkV st dv lv)).add (cD x)).nx := by show B3 < h0.nx + 2; omega
  have hk1 : Kp h0 ((h0.add (bkV st dv lv)).add (cD x)) := Kp.refl.add.add
  rw [← hB3, ← hB2]
  clear hB2 hB3
  generalize (h0.add (bkV st dv lv)).add (cD x) = H at hb2 hb3 hn3 hk1 ⊢
  have hxH := SlAt.mono hx hk1
  have lx := fun t h1 o => row_len hxH iscR t h1 o
  have hrt : ∀ c : List Value, c = cD x → partL Try.prog 48 c 1 = some (.agg ⟨c2 x.2.2⟩) := fun c e => by subst e; rw [pcR]; rfl
  cases h1 : decide ((x.2.1.length : Int) = st) with
  | false =>
    rw [h1, Bool.false_and, Bool.false_and] at hK'
    repeat refine S.seq ?_
    refine S.region ?_
    simp (disch := first | omega | (simp only [add_nx, upd_nx] <;> omega) | decide) only [rUz, ↓reduceIte, Nat.reduceEqDiff, Nat.reduceAdd, fieldAddr_ptr fcD0 lcR, fieldAddr_ptr fB0 s3, p3, qcR, hb2, hb3, bk0, cD0, lx, h1]
    repeat refine S.seq ?_
    refine S.region ?_
    simp (disch := first | omega | (simp only [add_nx, upd_nx] <;> omega) | decide) only [rUz, ↓reduceIte, Nat.reduceEqDiff, Nat.reduceAdd]
    refine S.ret ?_
    try simp only [seqK_ret, blockK_ret]
    subst hF
    simp only [finish, endMarks]
    rw [show Try.f83.results.toList = [.tmp 4] from rfl]
    simp (disch := first | omega | (simp only [add_nx, upd_nx] <;> omega) | decide) only [resA, ev_tmp, tget_ne, tget_eq, get_ne, get_eq, upd_eq, upd_ne, ag_eq, ag_ne, result1]
    exact hK' _ rfl _ hk1
  | true =>
  rw [h1, Bool.true_and] at hK'
  repeat refine S.seq ?_
  refine S.region ?_
  simp (disch := first | omega | (simp only [add_nx, upd_nx] <;> omega) | decide) only [rUz, ↓reduceIte, Nat.reduceEqDiff, Nat.reduceAdd, fieldAddr_ptr fcD0 lcR, fieldAddr_ptr fB0 s3, p3, qcR, hb2, hb3, bk0, cD0, lx, h1]
  refine wr_brings (fid := 96) (first := #[]) (captured := #[]) (Post := fun u _ => u = .bool (x.2.1.all okR)) rfl (hoff _ _ _ rfl) (by simp (disch := first | omega | (simp only [add_nx, upd_nx] <;> omega) | decide) only [rUz, ↓reduceIte, Nat.reduceEqDiff, Nat.reduceAdd]; exact allcR_y S hoff H x.1 x.2.1 hxH (by omega) 97 rfl #[] okR (fun h' _ c _ => isOfPrices_y S hoff h' c)) ?_
  rintro u g hkg rfl
  have hb3g := (hkg.get hn3).trans hb3
  cases h2 : x.2.1.all okR with
  | false =>
    rw [h2, Bool.false_and] at hK'
    simp (disch := first | omega | (simp only [add_nx, upd_nx] <;> omega) | decide) only [rUz, ↓reduceIte, Nat.reduceEqDiff, Nat.reduceAdd, h2]
    repeat refine S.seq ?_
    refine S.region ?_
    simp (disch := first | omega | (simp only [add_nx, upd_nx] <;> omega) | decide) only [rUz, ↓reduceIte, Nat.reduceEqDiff, Nat.reduceAdd]
    refine S.ret ?_
    try simp only [seqK_ret, blockK_ret]
    subst hF
    simp only [finish, endMarks]
    rw [show Try.f83.results.toList = [.tmp 4] from rfl]
    simp (disch := first | omega | (simp only [add_nx, upd_nx] <;> omega) | decide) only [resA, ev_tmp, tget_ne, tget_eq, get_ne, get_eq, upd_eq, upd_ne, ag_eq, ag_ne, result1]
    exact hK' _ rfl _ (hk1.trans hkg)
  | true =>
  rw [h2, Bool.true_and] at hK'
  simp (disch := first | omega | (simp only [add_nx, upd_nx] <;> omega) | decide) only [rUz, ↓reduceIte, Nat.reduceEqDiff, Nat.reduceAdd, h2]
  repeat refine S.seq ?_
  refine S.region ?_
  simp (disch := first | omega | (simp only [add_nx, upd_nx] <;> omega) | decide) only [rUz, ↓reduceIte, Nat.reduceEqDiff, Nat.reduceAdd, fieldAddr_ptr fcD1 ScR, hb3g, hrt _ rfl]
  refine wr_brings (fid := 98) (first := #[]) (captured := #[]) (Post := fun u _ => u = .bool (inB x.2.2.1 0 x.2.2.2 && decide (x.2.2.2 ≤ 100))) rfl (hoff _ _ _ rfl) (by simp (disch := first | omega | (simp only [add_nx, upd_nx] <;> omega) | decide) only [rUz, ↓reduceIte, Nat.reduceEqDiff, Nat.reduceAdd]; exact isFrom0_y S _ x.2.2 100) ?_
  rintro u g2 hkg2 rfl
  simp (disch := first | omega | (simp only [add_nx, upd_nx] <;> omega) | decide) only [rUz, ↓reduceIte, Nat.reduceEqDiff, Nat.reduceAdd]
  refine S.ret ?_
  try simp only [seqK_ret, blockK_ret]
  subst hF
  simp only [finish, endMarks]
  rw [show Try.f83.results.toList = [.tmp 4] from rfl]
  simp (disch := first | omega | (simp only [add_nx, upd_nx] <;> omega) | decide) only [resA, ev_tmp, tget_ne, tget_eq, get_ne, get_eq, upd_eq, upd_ne, ag_eq, ag_ne, result1]
  exact hK' _ rfl _ (hk1.trans (hkg.trans hkg2))
set_option maxHeartbeats 4000000 in
theorem validLoan_y (S : Ev.Steps Try.prog pr R) (hoff : Off pr) (h0 : AHeap) (st : Int) (dv lv : Value) (x : PL) (hx : IAt h0 x.1 x.2.2.2) (h7 : (x.2.2.2.length : Int) ≤ 7) :
    Brings Try.prog R 85 [.agg ⟨bkV st dv lv⟩, .agg ⟨cL x⟩] h0 fun u _ => u = .bool (okL st x) := by
  refine brings_of (fn := Try.f85) (c := (Try.f85.body).getD .skip) (by kernel_rfl) rfl (by kernel_rfl) rfl (fun K hK => ?_)
  generalize hF : finish Try.prog Try.f85 K = KF
  simp only [Try.f85, Option.getD_some, argsT, setArgs, fV1_eq, T.setK_eq, id]
  have hK' : ∀ b, b = okL st x → ∀ g, Kp h0 g → K (.bool b) g = true := fun b e g hk => hK _ _ hk (by rw [e])
  clear hK
  have hok : okL st x = (inB x.2.1 0 100000 && (decide (0 ≤ x.2.2.1) && (decide (x.2.2.1 ≤ 100) && (decide ((x.2.2.2.length : Int) = st) && x.2.2.2.all fun n => inB n 0 100)))) := by
    unfold okL okL1
    rw [show inB x.2.2.1 0 100 = (decide (0 ≤ x.2.2.1) && decide (x.2.2.1 ≤ 100)) from rfl, Bool.and_assoc, Bool.and_assoc, Bool.and_assoc]
  rw [hok] at hK'
  repeat refine S.seq ?_
  refine S.region ?_
  simp (disch := first | omega | (simp only [add_nx, upd_nx] <;> omega) | decide) only [rUz, ↓reduceIte, Nat.reduceEqDiff, Nat.reduceAdd]
  obtain ⟨B2, hB2⟩ : ∃ x, x = h0.nx := ⟨_, rfl⟩
  obtain ⟨B3, hB3⟩ : ∃ x, x = h0.nx + 1 := ⟨_, rfl⟩
  have hb2 : ((h0.add (bkV st dv lv)).add (cL x)).bl.get B2 = some (.cells (bkV st dv lv) B2 false) := by rw [ag_ne (by show B2 ≠ h0.nx + 1; omega)]; subst hB2; exact ag_eq rfl
  have hb3 : ((h0.add (bkV st dv lv)).add (cL x)).bl.get B3 = some (.cells (cL x) B3 false) := by subst hB3; exact ag_eq rfl
  have hn3 : B3 < ((h0.add (bkV st dv lv)).add (cL x)).nx := by show B3 < h0.nx + 2; omega
  have hn2 : B2 < ((h0.add (bkV st dv lv)).add (cL x)).nx := by show B2 < h0.nx + 2; omega
  have hk1 : Kp h0 ((h0.add (bkV st dv lv)).add (cL x)) := Kp.refl.add.add
  rw [← hB3, ← hB2]
  clear hB2 hB3
  generalize (h0.add (bkV st dv lv)).add (cL x) = H at hb2 hb3 hn3 hn2 hk1 ⊢
  have hxH := hx.mono hk1
  repeat refine S.seq ?_
  refine S.region ?_
  simp (disch := first | omega | (simp only [add_nx, upd_nx] <;> omega) | decide) only [rUz, ↓reduceIte, Nat.reduceEqDiff, Nat.reduceAdd, fieldAddr_ptr fcL0 s3, p3, hb3, cL0]
  refine wr_brings (fid := 66) (first := #[]) (captured := #[]) (Post := fun v _ => v = .bool (inB x.2.1 0 100000)) rfl (hoff _ _ _ rfl) (by simp (disch := first | omega | (simp only [add_nx, upd_nx] <;> omega) | decide) only [rUz, ↓reduceIte, Nat.reduceEqDiff, Nat.reduceAdd]; exact isMoney_y S _ x.2.1) ?_
  rintro u g hkg rfl
  replace hb2 := (hkg.get hn2).trans hb2
  replace hb3 := (hkg.get hn3).trans hb3
  have hxg := hxH.mono hkg
  have lx := fun t h1 o => iv_len hxg t h1 o
  have hkk := hk1.trans hkg
  cases h1 : inB x.2.1 0 100000 with
  | false =>
    rw [h1, Bool.false_and] at hK'
    simp (disch := first | omega | (simp only [add_nx, upd_nx] <;> omega) | decide) only [rUz, ↓reduceIte, Nat.reduceEqDiff, Nat.reduceAdd, h1]
    repeat refine S.seq ?_
    refine S.region ?_
    simp (disch := first | omega | (simp only [add_nx, upd_nx] <;> omega) | decide) only [rUz, ↓reduceIte, Nat.reduceEqDiff, Nat.reduceAdd]
    refine S.ret ?_
    try simp only [seqK_ret, blockK_ret]
    subst hF
    simp only [finish, endMarks]
    rw [show Try.f85.results.toList = [.tmp 4] from rfl]
    simp (disch := first | omega | (simp only [add_nx, upd_nx] <;> omega) | decide) only [resA, ev_tmp, tget_ne, tget_eq, get_ne, get_eq, upd_eq, upd_ne, ag_eq, ag_ne, result1]
    exact hK' _ rfl _ hkk
  | true =>
  rw [h1, Bool.true_and] at hK'
  cases h2 : decide (0 ≤ x.2.2.1) with
  | false =>
    rw [h2, Bool.false_and] at hK'
    simp (disch := first | omega | (simp only [add_nx, upd_nx] <;> omega) | decide) only [rUz, ↓reduceIte, Nat.reduceEqDiff, Nat.reduceAdd, h1, h2, fieldAddr_ptr fcL1 s3, p3, hb3, cL1]
    repeat refine S.seq ?_
    refine S.region ?_
    simp (disch := first | omega | (simp only [add_nx, upd_nx] <;> omega) | decide) only [rUz, ↓reduceIte, Nat.reduceEqDiff, Nat.reduceAdd]
    refine S.ret ?_
    try simp only [seqK_ret, blockK_ret]
    subst hF
    simp only [finish, endMarks]
    rw [show Try.f85.results.toList = [.tmp 4] from rfl]
    simp (disch := first | omega | (simp only [add_nx, upd_nx] <;> omega) | decide) only [resA, ev_tmp, tget_ne, tget_eq, get_ne, get_eq, upd_eq, upd_ne, ag_eq, ag_ne, result1]
    exact hK' _ rfl _ hkk
  | true =>
  rw [h2, Bool.true_and] at hK'
  cases h3 : decide (x.2.2.1 ≤ 100) with
  | false =>
    rw [h3, Bool.false_and] at hK'
    simp (disch := first | omega | (simp only [add_nx, upd_nx] <;> omega) | decide) only [rUz, ↓reduceIte, Nat.reduceEqDiff, Nat.reduceAdd, h1, h2, h3, fieldAddr_ptr fcL1 s3, p3, hb3, cL1]
    repeat refine S.seq ?_
    refine S.region ?_
    simp (disch := first | omega | (simp only [add_nx, upd_nx] <;> omega) | decide) only [rUz, ↓reduceIte, Nat.reduceEqDiff, Nat.reduceAdd]
    refine S.ret ?_
    try simp only [seqK_ret, blockK_ret]
    subst hF
    simp only [finish, endMarks]
    rw [show Try.f85.results.toList = [.tmp 4] from rfl]
    simp (disch := first | omega | (simp only [add_nx, upd_nx] <;> omega) | decide) only [resA, ev_tmp, tget_ne, tget_eq, get_ne, get_eq, upd_eq, upd_ne, ag_eq, ag_ne, result1]
    exact hK' _ rfl _ hkk
  | true =>
  rw [h3, Bool.true_and] at hK'
  simp (disch := first | omega | (simp only [add_nx, upd_nx] <;> omega) | decide) only [rUz, ↓reduceIte, Nat.reduceEqDiff, Nat.reduceAdd, h1, h2, h3, fieldAddr_ptr fcL1 s3, p3, hb3, cL1]
  cases h4 : decide ((x.2.2.2.length : Int) = st) with
  | false =>
    rw [h4, Bool.false_and] at hK'
    repeat refine S.seq ?_
    refine S.region ?_
    simp (disch := first | omega | (simp only [add_nx, upd_nx] <;> omega) | decide) only [rUz, ↓reduceIte, Nat.reduceEqDiff, Nat.reduceAdd, h4, fieldAddr_ptr fcL2 lI, fieldAddr_ptr fB0 s3, p3, qI, hb2, hb3, cL2, bk0, lx]
    refine S.ret ?_
    try simp only [seqK_ret, blockK_ret]
    subst hF
    simp only [finish, endMarks]
    rw [show Try.f85.results.toList = [.tmp 4] from rfl]
    simp (disch := first | omega | (simp only [add_nx, upd_nx] <;> omega) | decide) only [resA, ev_tmp, tget_ne, tget_eq, get_ne, get_eq, upd_eq, upd_ne, ag_eq, ag_ne, result1]
    exact hK' _ rfl _ hkk
  | true =>
  rw [h4, Bool.true_and] at hK'
  repeat refine S.seq ?_
  refine S.region ?_
  simp (disch := first | omega | (simp only [add_nx, upd_nx] <;> omega) | decide) only [rUz, ↓reduceIte, Nat.reduceEqDiff, Nat.reduceAdd, h4, fieldAddr_ptr fcL2 lI, fieldAddr_ptr fB0 s3, p3, qI, hb2, hb3, cL2, bk0, lx]
  refine wr_brings (fid := 65) (first := #[]) (captured := #[]) (Post := fun u _ => u = .bool (x.2.2.2.all fun n => inB n 0 100)) rfl (hoff _ _ _ rfl) (by simp (disch := first | omega | (simp only [add_nx, upd_nx] <;> omega) | decide) only [rUz, ↓reduceIte, Nat.reduceEqDiff, Nat.reduceAdd]; exact allI_y S hoff g x.1 x.2.2.2 hxg (by omega) 101 rfl #[] (fun n => inB n 0 100) (fun h' _ c _ => isNumber_y S h' c)) ?_
  rintro u g2 hkg2 rfl
  simp (disch := first | omega | (simp only [add_nx, upd_nx] <;> omega) | decide) only [rUz, ↓reduceIte, Nat.reduceEqDiff, Nat.reduceAdd]
  refine S.ret ?_
  try simp only [seqK_ret, blockK_ret]
  subst hF
  simp only [finish, endMarks]
  rw [show Try.f85.results.toList = [.tmp 4] from rfl]
  simp (disch := first | omega | (simp only [add_nx, upd_nx] <;> omega) | decide) only [resA, ev_tmp, tget_ne, tget_eq, get_ne, get_eq, upd_eq, upd_ne, ag_eq, ag_ne, result1]
  exact hK' _ rfl _ (hkk.trans hkg2)
set_option maxHeartbeats 4000000 in
theorem isFew_y (S : Ev.Steps Try.prog pr R) (h0 : AHeap) (st : Int) (dv lv : Value) (D : List PD) (L : List PL) (hb : BkAt h0 dv lv D L) : Brings Try.prog R 59 [.agg ⟨bkV st dv lv⟩] h0 fun u _ => u = .bool (fewB st D L) := by
  refine brings_of (fn := Try.f59) (c := (Try.f59.body).getD .skip) (by kernel_rfl) rfl (by kernel_rfl) rfl (fun K hK => ?_)
  generalize hF : finish Try.prog Try.f59 K = KF
  simp only [Try.f59, Option.getD_some, argsT, setArgs, fV1_eq, T.setK_eq, id]
  have hK' : ∀ b, b = fewB st D L → ∀ g, Kp h0 g → K (.bool b) g = true := fun b e g hk => hK _ _ hk (by rw [e])
  clear hK
  unfold fewB at hK'
  have lD := fun t h1 o => row_len hb.dy iscD t h1 o
  have lL := fun t h1 o => row_len hb.ln iscL t h1 o
  repeat refine S.seq ?_
  refine S.region ?_
  simp (disch := first | omega | (simp only [add_nx, upd_nx] <;> omega) | decide) only [rUz, ↓reduceIte, Nat.reduceEqDiff, Nat.reduceAdd]
  cases h1 : decide (st ≤ 4) with
  | false =>
    rw [h1, Bool.false_and] at hK'
    repeat refine S.seq ?_
    refine S.region ?_
    simp (disch := first | omega | (simp only [add_nx, upd_nx] <;> omega) | decide) only [rUz, ↓reduceIte, Nat.reduceEqDiff, Nat.reduceAdd, fieldAddr_ptr fB0 s3, p3, bk0, h1]
    repeat refine S.seq ?_
    refine S.region ?_
    simp (disch := first | omega | (simp only [add_nx, upd_nx] <;> omega) | decide) only [rUz, ↓reduceIte, Nat.reduceEqDiff, Nat.reduceAdd]
    refine S.ret ?_
    try simp only [seqK_ret, blockK_ret]
    subst hF
    simp only [finish, endMarks]
    rw [show Try.f59.results.toList = [.tmp 2] from rfl]
    simp (disch := first | omega | (simp only [add_nx, upd_nx] <;> omega) | decide) only [resA, ev_tmp, tget_ne, tget_eq, get_ne, get_eq, upd_eq, upd_ne, ag_eq, ag_ne, result1]
    exact hK' _ rfl _ Kp.refl.add
  | true =>
  rw [h1, Bool.true_and] at hK'
  cases h2 : decide ((D.length : Int) ≤ 4) with
  | false =>
    rw [h2, Bool.false_and] at hK'
    repeat refine S.seq ?_
    refine S.region ?_
    simp (disch := first | omega | (simp only [add_nx, upd_nx] <;> omega) | decide) only [rUz, ↓reduceIte, Nat.reduceEqDiff, Nat.reduceAdd, fieldAddr_ptr fB0 s3, fieldAddr_ptr fB1 lcD, p3, qcD, bk0, bk1, lD, h1, h2]
    repeat refine S.seq ?_
    refine S.region ?_
    simp (disch := first | omega | (simp only [add_nx, upd_nx] <;> omega) | decide) only [rUz, ↓reduceIte, Nat.reduceEqDiff, Nat.reduceAdd]
    refine S.ret ?_
    try simp only [seqK_ret, blockK_ret]
    subst hF
    simp only [finish, endMarks]
    rw [show Try.f59.results.toList = [.tmp 2] from rfl]
    simp (disch := first | omega | (simp only [add_nx, upd_nx] <;> omega) | decide) only [resA, ev_tmp, tget_ne, tget_eq, get_ne, get_eq, upd_eq, upd_ne, ag_eq, ag_ne, result1]
    exact hK' _ rfl _ Kp.refl.add
  | true =>
  rw [h2, Bool.true_and] at hK'
  repeat refine S.seq ?_
  refine S.region ?_
  simp (disch := first | omega | (simp only [add_nx, upd_nx] <;> omega) | decide) only [rUz, ↓reduceIte, Nat.reduceEqDiff, Nat.reduceAdd, fieldAddr_ptr fB0 s3, fieldAddr_ptr fB1 lcD, p3, qcD, bk0, bk1, lD, h1, h2]
  repeat refine S.seq ?_
  refine S.region ?_
  simp (disch := first | omega | (simp only [add_nx, upd_nx] <;> omega) | decide) only [rUz, ↓reduceIte, Nat.reduceEqDiff, Nat.reduceAdd, fieldAddr_ptr fB2 lcL, qcL, bk2, lL]
  refine S.ret ?_
  try simp only [seqK_ret, blockK_ret]
  subst hF
  simp only [finish, endMarks]
  rw [show Try.f59.results.toList = [.tmp 2] from rfl]
  simp (disch := first | omega | (simp only [add_nx, upd_nx] <;> omega) | decide) only [resA, ev_tmp, tget_ne, tget_eq, get_ne, get_eq, upd_eq, upd_ne, ag_eq, ag_ne, result1]
  exact hK' _ rfl _ Kp.refl.add
def validZ (st : Int) (D : List PD) (L : List PL) : Bool := openB st D && (D.all (okD st) && L.all (okL st))
set_option maxHeartbeats 8000000 in
theorem isValid_y (S : Ev.Steps Try.prog pr R) (hoff : Off pr) (h0 : AHeap) (st : Int) (dv lv : Value) (D : List PD) (L : List PL) (hb : BkAt h0 dv lv D L) (hd7 : (D.length : Int) ≤ 7) (hl7 : (L.length : Int) ≤ 7) (hp7 : ∀ x, x ∈ D → (x.2.1.length : Int) ≤ 7) (hx7 : ∀ x, x ∈ L → (x.2.2.2.length : Int) ≤ 7) :
    Brings Try.prog R 60 [.agg ⟨bkV st dv lv⟩] h0 fun u _ => u = .bool (validZ st D L) := by
  refine brings_of (fn := Try.f60) (c := (Try.f60.body).getD .skip) (by kernel_rfl) rfl (by kernel_rfl) rfl (fun K hK => ?_)
  generalize hF : finish Try.prog Try.f60 K = KF
  simp only [Try.f60, Option.getD_some, argsT, setArgs, fV1_eq, T.setK_eq, id]
  have hK' : ∀ b, b = validZ st D L → ∀ g, Kp h0 g → K (.bool b) g = true := fun b e g hk => hK _ _ hk (by rw [e])
  clear hK
  have hgt : decide (0 < st) = decide (1 ≤ st) := by by_cases h : 1 ≤ st; rw [decide_eq_true h, decide_eq_true (by omega)]; rw [decide_eq_false h, decide_eq_false (by omega)]
  have hgd : decide (0 < (D.length : Int)) = !decide ((D.length : Int) = 0) := by by_cases h : (D.length : Int) = 0; rw [decide_eq_true h, decide_eq_false (by omega)]; rfl; rw [decide_eq_false h, decide_eq_true (by omega)]; rfl
  unfold validZ openB at hK'
  rw [← hgt, ← hgd] at hK'
  have lD := fun t h1 o => row_len hb.dy iscD t h1 o
  repeat refine S.seq ?_
  refine S.region ?_
  simp (disch := first | omega | (simp only [add_nx, upd_nx] <;> omega) | decide) only [rUz, ↓reduceIte, Nat.reduceEqDiff, Nat.reduceAdd]
  have hb1 : (h0.add (bkV st dv lv)).bl.get h0.nx = some (.cells (bkV st dv lv) h0.nx false) := ag_eq rfl
  have hn1 : h0.nx < (h0.add (bkV st dv lv)).nx := Nat.lt_succ_self _
  have hk1 : Kp h0 (h0.add (bkV st dv lv)) := Kp.refl.add
  generalize h0.add (bkV st dv lv) = H at hb1 hn1 hk1 ⊢
  generalize h0.nx = B1 at hb1 hn1 ⊢
  have hbH := hb.mono hk1
  cases h1 : decide (0 < st) with
  | false =>
    rw [h1, Bool.false_and, Bool.false_and] at hK'
    repeat refine S.seq ?_
    refine S.region ?_
    simp (disch := first | omega | (simp only [add_nx, upd_nx] <;> omega) | decide) only [rUz, ↓reduceIte, Nat.reduceEqDiff, Nat.reduceAdd, fieldAddr_ptr fB0 s3, p3, hb1, bk0, h1]
    repeat refine S.seq ?_
    refine S.region ?_
    simp (disch := first | omega | (simp only [add_nx, upd_nx] <;> omega) | decide) only [rUz, ↓reduceIte, Nat.reduceEqDiff, Nat.reduceAdd]
    refine S.ret ?_
    try simp only [seqK_ret, blockK_ret]
    subst hF
    simp only [finish, endMarks]
    rw [show Try.f60.results.toList = [.tmp 2] from rfl]
    simp (disch := first | omega | (simp only [add_nx, upd_nx] <;> omega) | decide) only [resA, ev_tmp, tget_ne, tget_eq, get_ne, get_eq, upd_eq, upd_ne, ag_eq, ag_ne, result1]
    exact hK' _ rfl _ hk1
  | true =>
  rw [h1, Bool.true_and] at hK'
  cases h2 : decide (0 < (D.length : Int)) with
  | false =>
    rw [h2, Bool.false_and] at hK'
    repeat refine S.seq ?_
    refine S.region ?_
    simp (disch := first | omega | (simp only [add_nx, upd_nx] <;> omega) | decide) only [rUz, ↓reduceIte, Nat.reduceEqDiff, Nat.reduceAdd, fieldAddr_ptr fB0 s3, fieldAddr_ptr fB1 lcD, p3, qcD, hb1, bk0, bk1, lD, h1, h2]
    repeat refine S.seq ?_
    refine S.region ?_
    simp (disch := first | omega | (simp only [add_nx, upd_nx] <;> omega) | decide) only [rUz, ↓reduceIte, Nat.reduceEqDiff, Nat.reduceAdd]
    refine S.ret ?_
    try simp only [seqK_ret, blockK_ret]
    subst hF
    simp only [finish, endMarks]
    rw [show Try.f60.results.toList = [.tmp 2] from rfl]
    simp (disch := first | omega | (simp only [add_nx, upd_nx] <;> omega) | decide) only [resA, ev_tmp, tget_ne, tget_eq, get_ne, get_eq, upd_eq, upd_ne, ag_eq, ag_ne, result1]
    exact hK' _ rfl _ hk1
  | true =>
  rw [h2, Bool.true_and] at hK'
  repeat refine S.seq ?_
  refine S.region ?_
  simp (disch := first | omega | (simp only [add_nx, upd_nx] <;> omega) | decide) only [rUz, ↓reduceIte, Nat.reduceEqDiff, Nat.reduceAdd, fieldAddr_ptr fB0 s3, fieldAddr_ptr fB1 lcD, p3, qcD, hb1, bk0, bk1, lD, h1, h2]
  repeat refine S.seq ?_
  refine S.region ?_
  simp (disch := first | omega | (simp only [add_nx, upd_nx] <;> omega) | decide) only [rUz, ↓reduceIte, Nat.reduceEqDiff, Nat.reduceAdd, fieldAddr_ptr fB1 lcD, qcD, hb1, bk1, part_0 pB (bkV_len st dv lv)]
  refine wr_brings (fid := 82) (first := #[]) (captured := #[]) (Post := fun u _ => u = .bool (D.all (okD st))) rfl (hoff _ _ _ rfl) (by simp (disch := first | omega | (simp only [add_nx, upd_nx] <;> omega) | decide) only [rUz, ↓reduceIte, Nat.reduceEqDiff, Nat.reduceAdd]; exact allcD_y S hoff H dv D hbH.dy (by omega) 83 rfl #[.agg ⟨bkV st dv lv⟩] (okD st) (fun h' hk x hx => validDay_y S hoff h' st dv lv x (SlAt.mono (hbH.pr x hx) hk) (hp7 x hx))) ?_
  rintro u g hkg rfl
  have hb1g := (hkg.get hn1).trans hb1
  cases h3 : D.all (okD st) with
  | false =>
    rw [h3, Bool.false_and] at hK'
    simp (disch := first | omega | (simp only [add_nx, upd_nx] <;> omega) | decide) only [rUz, ↓reduceIte, Nat.reduceEqDiff, Nat.reduceAdd, h3]
    refine S.ret ?_
    try simp only [seqK_ret, blockK_ret]
    subst hF
    simp only [finish, endMarks]
    rw [show Try.f60.results.toList = [.tmp 2] from rfl]
    simp (disch := first | omega | (simp only [add_nx, upd_nx] <;> omega) | decide) only [resA, ev_tmp, tget_ne, tget_eq, get_ne, get_eq, upd_eq, upd_ne, ag_eq, ag_ne, result1]
    exact hK' _ rfl _ (hk1.trans hkg)
  | true =>
  rw [h3, Bool.true_and] at hK'
  have hbg := hbH.mono hkg
  simp (disch := first | omega | (simp only [add_nx, upd_nx] <;> omega) | decide) only [rUz, ↓reduceIte, Nat.reduceEqDiff, Nat.reduceAdd, h3, fieldAddr_ptr fB2 lcL, qcL, hb1g, bk2, part_0 pB (bkV_len st dv lv)]
  refine wr_brings (fid := 84) (first := #[]) (captured := #[]) (Post := fun u _ => u = .bool (L.all (okL st))) rfl (hoff _ _ _ rfl) (by simp (disch := first | omega | (simp only [add_nx, upd_nx] <;> omega) | decide) only [rUz, ↓reduceIte, Nat.reduceEqDiff, Nat.reduceAdd]; exact allcL_y S hoff g lv L hbg.ln (by omega) 85 rfl #[.agg ⟨bkV st dv lv⟩] (okL st) (fun h' hk x hx => validLoan_y S hoff h' st dv lv x ((hbg.sh x hx).mono hk) (hx7 x hx))) ?_
  rintro u g2 hkg2 rfl
  simp (disch := first | omega | (simp only [add_nx, upd_nx] <;> omega) | decide) only [rUz, ↓reduceIte, Nat.reduceEqDiff, Nat.reduceAdd]
  refine S.ret ?_
  try simp only [seqK_ret, blockK_ret]
  subst hF
  simp only [finish, endMarks]
  rw [show Try.f60.results.toList = [.tmp 2] from rfl]
  simp (disch := first | omega | (simp only [add_nx, upd_nx] <;> omega) | decide) only [resA, ev_tmp, tget_ne, tget_eq, get_ne, get_eq, upd_eq, upd_ne, ag_eq, ag_ne, result1]
  exact hK' _ rfl _ (hk1.trans (hkg.trans hkg2))
set_option maxHeartbeats 4000000 in
theorem checkBank_y (S : Ev.Steps Try.prog pr R) (hoff : Off pr) (h0 : AHeap) (st : Int) (dv lv : Value) (D : List PD) (L : List PL) (hb : BkAt h0 dv lv D L) (hd7 : (D.length : Int) ≤ 7) (hl7 : (L.length : Int) ≤ 7) (hp7 : ∀ x, x ∈ D → (x.2.1.length : Int) ≤ 7) (hx7 : ∀ x, x ∈ L → (x.2.2.2.length : Int) ≤ 7) :
    Brings Try.prog R 24 [.agg ⟨bkV st dv lv⟩] h0 fun u _ => u = iv (faultZ st D L) := by
  refine brings_of (fn := Try.f24) (c := (Try.f24.body).getD .skip) (by kernel_rfl) rfl (by kernel_rfl) rfl (fun K hK => ?_)
  generalize hF : finish Try.prog Try.f24 K = KF
  simp only [Try.f24, Option.getD_some, argsT, setArgs, fV1_eq, T.setK_eq, id]
  have hK' : ∀ n, n = faultZ st D L → ∀ g, Kp h0 g → K (iv n) g = true := fun b e g hk => hK _ _ hk (by rw [e])
  clear hK
  unfold faultZ at hK'
  repeat refine S.seq ?_
  refine S.region ?_
  simp (disch := first | omega | (simp only [add_nx, upd_nx] <;> omega) | decide) only [rUz, ↓reduceIte, Nat.reduceEqDiff, Nat.reduceAdd]
  have hb1 : (h0.add (bkV st dv lv)).bl.get h0.nx = some (.cells (bkV st dv lv) h0.nx false) := ag_eq rfl
  have hn1 : h0.nx < (h0.add (bkV st dv lv)).nx := Nat.lt_succ_self _
  have hk1 : Kp h0 (h0.add (bkV st dv lv)) := Kp.refl.add
  generalize h0.add (bkV st dv lv) = H at hb1 hn1 hk1 ⊢
  generalize h0.nx = B1 at hb1 hn1 ⊢
  have hbH := hb.mono hk1
  repeat refine S.seq ?_
  refine S.region ?_
  simp (disch := first | omega | (simp only [add_nx, upd_nx] <;> omega) | decide) only [rUz, ↓reduceIte, Nat.reduceEqDiff, Nat.reduceAdd, hb1, part_0 pB (bkV_len st dv lv)]
  refine wr_brings (fid := 59) (first := #[]) (captured := #[]) (Post := fun u _ => u = .bool (fewB st D L)) rfl (hoff _ _ _ rfl) (by simp (disch := first | omega | (simp only [add_nx, upd_nx] <;> omega) | decide) only [rUz, ↓reduceIte, Nat.reduceEqDiff, Nat.reduceAdd]; exact isFew_y S H st dv lv D L hbH) ?_
  rintro u g hkg rfl
  have hb1g := (hkg.get hn1).trans hb1
  cases h1 : fewB st D L with
  | false =>
    rw [h1, cond_false] at hK'
    simp (disch := first | omega | (simp only [add_nx, upd_nx] <;> omega) | decide) only [rUz, ↓reduceIte, Nat.reduceEqDiff, Nat.reduceAdd, un_not, h1, Bool.not_false]
    repeat refine S.seq ?_
    refine S.cond (v := true) (by first | rfl | (simp (disch := first | omega | (simp only [add_nx, upd_nx] <;> omega) | decide) only [rUz, ↓reduceIte, Nat.reduceEqDiff, Nat.reduceAdd] <;> rfl)) (fun _ => ?_) (fun e => by cases e)
    repeat refine S.seq ?_
    refine S.region ?_
    simp (disch := first | omega | (simp only [add_nx, upd_nx] <;> omega) | decide) only [rUz, ↓reduceIte, Nat.reduceEqDiff, Nat.reduceAdd]
    refine S.ret ?_
    try simp only [seqK_ret, blockK_ret]
    subst hF
    simp only [finish, endMarks]
    rw [show Try.f24.results.toList = [.tmp 2] from rfl]
    simp (disch := first | omega | (simp only [add_nx, upd_nx] <;> omega) | decide) only [resA, ev_tmp, tget_ne, tget_eq, get_ne, get_eq, upd_eq, upd_ne, ag_eq, ag_ne, result1]
    exact hK' _ rfl _ (hk1.trans hkg)
  | true =>
  rw [h1, cond_true] at hK'
  simp (disch := first | omega | (simp only [add_nx, upd_nx] <;> omega) | decide) only [rUz, ↓reduceIte, Nat.reduceEqDiff, Nat.reduceAdd, un_not, h1, Bool.not_true]
  repeat refine S.seq ?_
  refine S.cond (v := false) (by first | rfl | (simp (disch := first | omega | (simp only [add_nx, upd_nx] <;> omega) | decide) only [rUz, ↓reduceIte, Nat.reduceEqDiff, Nat.reduceAdd] <;> rfl)) (fun e => by cases e) (fun _ => ?_)
  repeat refine S.seq ?_
  refine S.skip ?_
  simp (disch := first | omega | (simp only [add_nx, upd_nx] <;> omega) | decide) only [rUz, ↓reduceIte, Nat.reduceEqDiff, Nat.reduceAdd]
  repeat refine S.seq ?_
  refine S.region ?_
  simp (disch := first | omega | (simp only [add_nx, upd_nx] <;> omega) | decide) only [rUz, ↓reduceIte, Nat.reduceEqDiff, Nat.reduceAdd, hb1g, part_0 pB (bkV_len st dv lv)]
  refine wr_brings (fid := 60) (first := #[]) (captured := #[]) (Post := fun u _ => u = .bool (validZ st D L)) rfl (hoff _ _ _ rfl) (by simp (disch := first | omega | (simp only [add_nx, upd_nx] <;> omega) | decide) only [rUz, ↓reduceIte, Nat.reduceEqDiff, Nat.reduceAdd]; exact isValid_y S hoff g st dv lv D L (hbH.mono hkg) hd7 hl7 hp7 hx7) ?_
  rintro u g2 hkg2 rfl
  unfold validZ
  cases h2 : (openB st D && (D.all (okD st) && L.all (okL st))) with
  | false =>
    rw [h2, cond_false] at hK'
    simp (disch := first | omega | (simp only [add_nx, upd_nx] <;> omega) | decide) only [rUz, ↓reduceIte, Nat.reduceEqDiff, Nat.reduceAdd, un_not, h2, Bool.not_false]
    repeat refine S.seq ?_
    refine S.cond (v := true) (by first | rfl | (simp (disch := first | omega | (simp only [add_nx, upd_nx] <;> omega) | decide) only [rUz, ↓reduceIte, Nat.reduceEqDiff, Nat.reduceAdd] <;> rfl)) (fun _ => ?_) (fun e => by cases e)
    repeat refine S.seq ?_
    refine S.region ?_
    simp (disch := first | omega | (simp only [add_nx, upd_nx] <;> omega) | decide) only [rUz, ↓reduceIte, Nat.reduceEqDiff, Nat.reduceAdd]
    refine S.ret ?_
    try simp only [seqK_ret, blockK_ret]
    subst hF
    simp only [finish, endMarks]
    rw [show Try.f24.results.toList = [.tmp 2] from rfl]
    simp (disch := first | omega | (simp only [add_nx, upd_nx] <;> omega) | decide) only [resA, ev_tmp, tget_ne, tget_eq, get_ne, get_eq, upd_eq, upd_ne, ag_eq, ag_ne, result1]
    exact hK' _ rfl _ (hk1.trans (hkg.trans hkg2))
  | true =>
  rw [h2, cond_true] at hK'
  simp (disch := first | omega | (simp only [add_nx, upd_nx] <;> omega) | decide) only [rUz, ↓reduceIte, Nat.reduceEqDiff, Nat.reduceAdd, un_not, h2, Bool.not_true]
  repeat refine S.seq ?_
  refine S.cond (v := false) (by first | rfl | (simp (disch := first | omega | (simp only [add_nx, upd_nx] <;> omega) | decide) only [rUz, ↓reduceIte, Nat.reduceEqDiff, Nat.reduceAdd] <;> rfl)) (fun e => by cases e) (fun _ => ?_)
  repeat refine S.seq ?_
  refine S.skip ?_
  simp (disch := first | omega | (simp only [add_nx, upd_nx] <;> omega) | decide) only [rUz, ↓reduceIte, Nat.reduceEqDiff, Nat.reduceAdd]
  repeat refine S.seq ?_
  refine S.region ?_
  simp (disch := first | omega | (simp only [add_nx, upd_nx] <;> omega) | decide) only [rUz, ↓reduceIte, Nat.reduceEqDiff, Nat.reduceAdd]
  refine S.ret ?_
  try simp only [seqK_ret, blockK_ret]
  subst hF
  simp only [finish, endMarks]
  rw [show Try.f24.results.toList = [.tmp 2] from rfl]
  simp (disch := first | omega | (simp only [add_nx, upd_nx] <;> omega) | decide) only [resA, ev_tmp, tget_ne, tget_eq, get_ne, get_eq, upd_eq, upd_ne, ag_eq, ag_ne, result1]
  exact hK' _ rfl _ (hk1.trans (hkg.trans hkg2))
end Go.Proofs.Mg
