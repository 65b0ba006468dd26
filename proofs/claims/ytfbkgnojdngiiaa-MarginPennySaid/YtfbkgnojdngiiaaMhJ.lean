import Derived.Test.YtfbkgnojdngiiaaMhH
/- Words, numbers picked by them, banks that are ready. -/
namespace Go.Proofs.Mg
open Go Go.Ev Go.RowKit
set_option linter.unusedSimpArgs false
abbrev u16v (n : Int) : Value := .int .u16 n
def WdAt (h : AHeap) (v : Value) (l : List Int) : Prop := SlAt h 1 v (l.map fun n => [u16v n]) ∧ ∀ n, n ∈ l → 0 ≤ n ∧ n ≤ 65535
theorem WdAt.mono {h h' : AHeap} {v : Value} {l : List Int} (k : WdAt h v l) (a : Kp h h') : WdAt h' v l := ⟨SlAt.mono k.1 a, k.2⟩
theorem isW16 : isSlTy Try.prog 78 = true := by kernel_rfl
theorem slW16 : slOf Try.prog 78 = some 144 := by kernel_rfl
theorem s16 : sizeB Try.prog 144 = some 1 := by kernel_rfl
theorem p16 (c : List Value) (o : Nat) : partL Try.prog 144 c o = c[o]? := by kernel_rfl
theorem w_cv16 {x : Operand} : isW Try.prog (.convert 144 3 x) = false := by
  show isDig Try.prog 144 3 = false
  kernel_rfl
theorem w_cv8 {x : Operand} : isW Try.prog (.convert 5 3 x) = false := by
  show isDig Try.prog 5 3 = false
  kernel_rfl
variable {pr : Prim} {R : ExT}
set_option maxHeartbeats 4000000 in
theorem word_y (S : Ev.Steps Try.prog pr R) (h0 : AHeap) (wv : Value) (ws : List Int) (hw : WdAt h0 wv ws) (hsz : (ws.length : Int) < 9223372036854775808) (i : Int) (hi : 0 ≤ i ∧ i ≤ 1000) :
    Brings Try.prog R 64 [wv, iv i] h0 fun u h => (∃ n, u = iv n ∧ 0 ≤ n ∧ n ≤ 65535) ∧ h0 = h := by
  refine brings_of (fn := Try.f64) (c := (Try.f64.body).getD .skip) (by kernel_rfl) rfl (by kernel_rfl) rfl (fun K hK => ?_)
  generalize hF : finish Try.prog Try.f64 K = KF
  simp only [Try.f64, Option.getD_some, argsT, setArgs, fV1_eq, T.setK_eq, id]
  have hln := fun t h1 o => (by have := SlAt.len (P := Try.prog) hw.1 isW16 (t := t) h1 o; rwa [List.length_map] at this : rLen Try.prog t h1 o 78 wv = some (iv (ws.length : Int)))
  repeat refine S.seq ?_
  refine S.region ?_
  simp (disch := first | omega | (simp only [add_nx, upd_nx] <;> omega) | decide) only [rUz, ↓reduceIte, Nat.reduceEqDiff, Nat.reduceAdd]
  by_cases h0l : (ws.length : Int) = 0
  · repeat refine S.seq ?_
    refine S.region ?_
    simp (disch := first | omega | (simp only [add_nx, upd_nx] <;> omega) | decide) only [rUz, ↓reduceIte, Nat.reduceEqDiff, Nat.reduceAdd, hln, decide_eq_true h0l]
    repeat refine S.seq ?_
    refine S.cond (v := true) (by first | rfl | (simp (disch := first | omega | (simp only [add_nx, upd_nx] <;> omega) | decide) only [rUz, ↓reduceIte, Nat.reduceEqDiff, Nat.reduceAdd] <;> rfl)) (fun _ => ?_) (fun e => by cases e)
    repeat refine S.seq ?_
    refine S.region ?_
    simp (disch := first | omega | (simp only [add_nx, upd_nx] <;> omega) | decide) only [rUz, ↓reduceIte, Nat.reduceEqDiff, Nat.reduceAdd]
    refine S.ret ?_
    try simp only [seqK_ret, blockK_ret]
    subst hF
    simp only [finish, endMarks]
    rw [show Try.f64.results.toList = [.tmp 4] from rfl]
    simp (disch := first | omega | (simp only [add_nx, upd_nx] <;> omega) | decide) only [resA, ev_tmp, tget_ne, tget_eq, get_ne, get_eq, upd_eq, upd_ne, ag_eq, ag_ne, result1]
    exact hK _ _ Kp.refl ⟨⟨0, rfl, by omega, by omega⟩, rfl⟩
  · repeat refine S.seq ?_
    refine S.region ?_
    simp (disch := first | omega | (simp only [add_nx, upd_nx] <;> omega) | decide) only [rUz, ↓reduceIte, Nat.reduceEqDiff, Nat.reduceAdd, hln, decide_eq_false h0l]
    repeat refine S.seq ?_
    refine S.cond (v := false) (by first | rfl | (simp (disch := first | omega | (simp only [add_nx, upd_nx] <;> omega) | decide) only [rUz, ↓reduceIte, Nat.reduceEqDiff, Nat.reduceAdd] <;> rfl)) (fun e => by cases e) (fun _ => ?_)
    repeat refine S.seq ?_
    refine S.skip ?_
    simp (disch := first | omega | (simp only [add_nx, upd_nx] <;> omega) | decide) only [rUz, ↓reduceIte, Nat.reduceEqDiff, Nat.reduceAdd]
    have hpos : 0 < (ws.length : Int) := by omega
    obtain ⟨k, hk⟩ : ∃ k : Nat, (k : Int) = i.tmod (ws.length : Int) := ⟨(i.tmod (ws.length : Int)).toNat, by have := Int.tmod_nonneg (ws.length : Int) hi.1; omega⟩
    have hkl : k < ws.length := by have := Int.tmod_lt_of_pos i hpos; omega
    obtain ⟨b, f, ro, q1, q2, q3⟩ := SlAt.idx (P := Try.prog) hw.1 slW16 s16 (i := k) (by rw [List.length_map]; exact hkl)
    have hm : (ws.map fun n => [u16v n])[k]? = some [u16v ws[k]] := by rw [List.getElem?_map, List.getElem?_eq_getElem hkl]; rfl
    have q4 := flat_get (SlAt.sized hw.1) (j := 0) hm (x := u16v ws[k]) rfl
    have hb := hw.2 ws[k] (List.getElem_mem hkl)
    generalize ws[k] = n at q4 hb
    rw [Nat.mul_one] at q1
    rw [Nat.mul_one, Nat.add_zero] at q4
    repeat refine S.seq ?_
    refine S.region ?_
    simp (disch := first | omega | (simp only [add_nx, upd_nx] <;> omega) | decide) only [rUz, ↓reduceIte, Nat.reduceEqDiff, Nat.reduceAdd, hln]
    refine optR_of' (bin_rem (i := i) (j := (ws.length : Int)) (by simp (disch := first | omega | (simp only [add_nx, upd_nx] <;> omega) | decide) only [rUz, ↓reduceIte, Nat.reduceEqDiff, Nat.reduceAdd]) (by simp (disch := first | omega | (simp only [add_nx, upd_nx] <;> omega) | decide) only [rUz, ↓reduceIte, Nat.reduceEqDiff, Nat.reduceAdd]) (by omega)) ?_
    rw [← hk]
    simp (disch := first | omega | (simp only [add_nx, upd_nx] <;> omega) | decide) only [rUz, ↓reduceIte, Nat.reduceEqDiff, Nat.reduceAdd, q1, q3, p16, q4, w_cv16, rd_conv]
    refine optR_of' (v := iv n) (conv_int Try.underlying144 Try.underlying3 (by omega) (by omega)) ?_
    simp (disch := first | omega | (simp only [add_nx, upd_nx] <;> omega) | decide) only [rUz, ↓reduceIte, Nat.reduceEqDiff, Nat.reduceAdd]
    refine S.ret ?_
    try simp only [seqK_ret, blockK_ret]
    subst hF
    simp only [finish, endMarks]
    rw [show Try.f64.results.toList = [.tmp 4] from rfl]
    simp (disch := first | omega | (simp only [add_nx, upd_nx] <;> omega) | decide) only [resA, ev_tmp, tget_ne, tget_eq, get_ne, get_eq, upd_eq, upd_ne, ag_eq, ag_ne, result1]
    exact hK _ _ Kp.refl ⟨⟨n, rfl, hb.1, hb.2⟩, rfl⟩
set_option maxHeartbeats 8000000 in
theorem pick_y (S : Ev.Steps Try.prog pr R) (h0 : AHeap) (r : R2) (w : Int) (hr : 0 ≤ r.1 ∧ r.1 ≤ r.2 ∧ r.2 ≤ 1000) (hw : 0 ≤ w ∧ w ≤ 65535) :
    Brings Try.prog R 63 [.agg ⟨c2 r⟩, iv w] h0 fun u _ => ∃ n, u = iv n ∧ r.1 ≤ n ∧ n ≤ r.2 := by
  refine brings_of (fn := Try.f63) (c := (Try.f63.body).getD .skip) (by kernel_rfl) rfl (by kernel_rfl) rfl (fun K hK => ?_)
  generalize hF : finish Try.prog Try.f63 K = KF
  simp only [Try.f63, Option.getD_some, argsT, setArgs, fV1_eq, T.setK_eq, id]
  have hKn : ∀ n, r.1 ≤ n → n ≤ r.2 → ∀ g, Kp h0 g → K (iv n) g = true := fun n a b g hk => hK _ _ hk ⟨n, rfl, a, b⟩
  clear hK
  repeat refine S.seq ?_
  refine S.region ?_
  simp (disch := first | omega | (simp only [add_nx, upd_nx] <;> omega) | decide) only [rUz, ↓reduceIte, Nat.reduceEqDiff, Nat.reduceAdd]
  have hb2 : (h0.add (c2 r)).bl.get h0.nx = some (.cells (c2 r) h0.nx false) := ag_eq rfl
  have hk1 : Kp h0 (h0.add (c2 r)) := Kp.refl.add
  generalize h0.add (c2 r) = H at hb2 hk1 ⊢
  generalize h0.nx = B2 at hb2 ⊢
  repeat refine S.seq ?_
  refine S.region ?_
  simp (disch := first | omega | (simp only [add_nx, upd_nx] <;> omega) | decide) only [rUz, ↓reduceIte, Nat.reduceEqDiff, Nat.reduceAdd]
  refine optR_of' (bin_rem (i := w) (j := 4) (by simp (disch := first | omega | (simp only [add_nx, upd_nx] <;> omega) | decide) only [rUz, ↓reduceIte, Nat.reduceEqDiff, Nat.reduceAdd]) (by simp (disch := first | omega | (simp only [add_nx, upd_nx] <;> omega) | decide) only [rUz, ↓reduceIte, Nat.reduceEqDiff, Nat.reduceAdd]) (by omega)) ?_
  simp (disch := first | omega | (simp only [add_nx, upd_nx] <;> omega) | decide) only [rUz, ↓reduceIte, Nat.reduceEqDiff, Nat.reduceAdd]
  repeat refine S.seq ?_
  refine S.block ?_
  generalize w.tmod 4 = m
  by_cases h1 : m = 0
  · repeat refine S.seq ?_
    refine S.region ?_
    simp (disch := first | omega | (simp only [add_nx, upd_nx] <;> omega) | decide) only [rUz, ↓reduceIte, Nat.reduceEqDiff, Nat.reduceAdd, decide_eq_true h1]
    repeat refine S.seq ?_
    refine S.cond (v := true) (by first | rfl | (simp (disch := first | omega | (simp only [add_nx, upd_nx] <;> omega) | decide) only [rUz, ↓reduceIte, Nat.reduceEqDiff, Nat.reduceAdd] <;> rfl)) (fun _ => ?_) (fun e => by cases e)
    repeat refine S.seq ?_
    refine S.region ?_
    simp (disch := first | omega | (simp only [add_nx, upd_nx] <;> omega) | decide) only [rUz, ↓reduceIte, Nat.reduceEqDiff, Nat.reduceAdd, fieldAddr_ptr frR0 s3, p3, hb2, c20]
    refine S.ret ?_
    try simp only [seqK_ret, blockK_ret]
    subst hF
    simp only [finish, endMarks]
    rw [show Try.f63.results.toList = [.tmp 4] from rfl]
    simp (disch := first | omega | (simp only [add_nx, upd_nx] <;> omega) | decide) only [resA, ev_tmp, tget_ne, tget_eq, get_ne, get_eq, upd_eq, upd_ne, ag_eq, ag_ne, result1]
    exact hKn _ (by omega) (by omega) _ hk1
  repeat refine S.seq ?_
  refine S.region ?_
  simp (disch := first | omega | (simp only [add_nx, upd_nx] <;> omega) | decide) only [rUz, ↓reduceIte, Nat.reduceEqDiff, Nat.reduceAdd, decide_eq_false h1]
  repeat refine S.seq ?_
  refine S.cond (v := false) (by first | rfl | (simp (disch := first | omega | (simp only [add_nx, upd_nx] <;> omega) | decide) only [rUz, ↓reduceIte, Nat.reduceEqDiff, Nat.reduceAdd] <;> rfl)) (fun e => by cases e) (fun _ => ?_)
  by_cases h2 : m = 1
  · repeat refine S.seq ?_
    refine S.region ?_
    simp (disch := first | omega | (simp only [add_nx, upd_nx] <;> omega) | decide) only [rUz, ↓reduceIte, Nat.reduceEqDiff, Nat.reduceAdd, decide_eq_true h2]
    repeat refine S.seq ?_
    refine S.cond (v := true) (by first | rfl | (simp (disch := first | omega | (simp only [add_nx, upd_nx] <;> omega) | decide) only [rUz, ↓reduceIte, Nat.reduceEqDiff, Nat.reduceAdd] <;> rfl)) (fun _ => ?_) (fun e => by cases e)
    repeat refine S.seq ?_
    refine S.region ?_
    simp (disch := first | omega | (simp only [add_nx, upd_nx] <;> omega) | decide) only [rUz, ↓reduceIte, Nat.reduceEqDiff, Nat.reduceAdd, fieldAddr_ptr frR1 s3, p3, hb2, c21]
    refine S.ret ?_
    try simp only [seqK_ret, blockK_ret]
    subst hF
    simp only [finish, endMarks]
    rw [show Try.f63.results.toList = [.tmp 4] from rfl]
    simp (disch := first | omega | (simp only [add_nx, upd_nx] <;> omega) | decide) only [resA, ev_tmp, tget_ne, tget_eq, get_ne, get_eq, upd_eq, upd_ne, ag_eq, ag_ne, result1]
    exact hKn _ (by omega) (by omega) _ hk1
  repeat refine S.seq ?_
  refine S.region ?_
  simp (disch := first | omega | (simp only [add_nx, upd_nx] <;> omega) | decide) only [rUz, ↓reduceIte, Nat.reduceEqDiff, Nat.reduceAdd, decide_eq_false h2]
  repeat refine S.seq ?_
  refine S.cond (v := false) (by first | rfl | (simp (disch := first | omega | (simp only [add_nx, upd_nx] <;> omega) | decide) only [rUz, ↓reduceIte, Nat.reduceEqDiff, Nat.reduceAdd] <;> rfl)) (fun e => by cases e) (fun _ => ?_)
  repeat refine S.seq ?_
  refine S.skip ?_
  simp (disch := first | omega | (simp only [add_nx, upd_nx] <;> omega) | decide) only [rUz, ↓reduceIte, Nat.reduceEqDiff, Nat.reduceAdd]
  have hq := Int.tdiv_nonneg hw.1 (by omega : (0 : Int) ≤ 4)
  have hq2 : w.tdiv 4 ≤ 65535 := by have := Int.tdiv_le_self 4 hw.1; omega
  repeat refine S.seq ?_
  refine S.drawnL [(false, 0), (false, 1), (false, 0), (false, 4), (false, 0), (false, 16), (false, 0), (false, 64), (false, 240), (false, 496), (false, 1020), (false, 2047), (false, 4095)] (by kernel_rfl) (by kernel_rfl) (by kernel_rfl) ?_
  simp (disch := first | omega | (simp only [add_nx, upd_nx] <;> omega) | decide) only [rUz, ↓reduceIte, Nat.reduceEqDiff, Nat.reduceAdd, rDz, infoL, Nat.reduceSub, fieldAddr_ptr frR0 s3, fieldAddr_ptr frR1 s3, p3, hb2, c20, c21]
  refine drR_of' (bin_quo (i := w) (j := 4) (by simp (disch := first | omega | (simp only [add_nx, upd_nx] <;> omega) | decide) only [rUz, ↓reduceIte, Nat.reduceEqDiff, Nat.reduceAdd, rDz, infoL, Nat.reduceSub]) (by simp (disch := first | omega | (simp only [add_nx, upd_nx] <;> omega) | decide) only [rUz, ↓reduceIte, Nat.reduceEqDiff, Nat.reduceAdd, rDz, infoL, Nat.reduceSub]) (by omega) (by omega) (by omega)) ?_
  simp (disch := first | omega | (simp only [add_nx, upd_nx] <;> omega) | decide) only [rUz, ↓reduceIte, Nat.reduceEqDiff, Nat.reduceAdd, rDz, infoL, Nat.reduceSub, fieldAddr_ptr frR0 s3, fieldAddr_ptr frR1 s3, p3, hb2, c20, c21]
  generalize w.tdiv 4 = q at hq hq2
  refine drR_of' (bin_rem (i := q) (j := r.2 - r.1 + 1) (by simp (disch := first | omega | (simp only [add_nx, upd_nx] <;> omega) | decide) only [rUz, ↓reduceIte, Nat.reduceEqDiff, Nat.reduceAdd, rDz, infoL, Nat.reduceSub]) (by simp (disch := first | omega | (simp only [add_nx, upd_nx] <;> omega) | decide) only [rUz, ↓reduceIte, Nat.reduceEqDiff, Nat.reduceAdd, rDz, infoL, Nat.reduceSub]) (by omega)) ?_
  have hm1 := Int.tmod_nonneg (r.2 - r.1 + 1) hq
  have hm2 := Int.tmod_lt_of_pos q (by omega : 0 < r.2 - r.1 + 1)
  generalize q.tmod (r.2 - r.1 + 1) = z at hm1 hm2
  simp (disch := first | omega | (simp only [add_nx, upd_nx] <;> omega) | decide) only [rUz, ↓reduceIte, Nat.reduceEqDiff, Nat.reduceAdd, rDz, infoL, Nat.reduceSub]
  refine S.ret ?_
  try simp only [seqK_ret, blockK_ret]
  subst hF
  simp only [finish, endMarks]
  rw [show Try.f63.results.toList = [.tmp 4] from rfl]
  simp (disch := first | omega | (simp only [add_nx, upd_nx] <;> omega) | decide) only [resA, ev_tmp, tget_ne, tget_eq, get_ne, get_eq, upd_eq, upd_ne, ag_eq, ag_ne, result1]
  exact hKn _ (by omega) (by omega) _ hk1
/-- What is asked of a valid, thin bank. -/
def readyB (st : Int) (D : List PD) (L : List PL) : Bool := thinB D L [] [] && decide (faultZ st D L = 0)
set_option maxHeartbeats 4000000 in
theorem ready_y (S : Ev.Steps Try.prog pr R) (hoff : Off pr) (h0 : AHeap) (st : Int) (dv lv : Value) (D : List PD) (L : List PL) (hb : BkAt h0 dv lv D L) :
    Brings Try.prog R 31 [.agg ⟨bkV st dv lv⟩] h0 fun u _ => u = .bool (readyB st D L) := by
  refine brings_of (fn := Try.f31) (c := (Try.f31.body).getD .skip) (by kernel_rfl) rfl (by kernel_rfl) rfl (fun K hK => ?_)
  generalize hF : finish Try.prog Try.f31 K = KF
  simp only [Try.f31, Option.getD_some, argsT, setArgs, fV1_eq, T.setK_eq, id]
  have hKn : ∀ b, b = readyB st D L → ∀ g, Kp h0 g → K (.bool b) g = true := fun b e g hk => hK _ _ hk (by rw [e])
  clear hK
  unfold readyB at hKn
  repeat refine S.seq ?_
  refine S.region ?_
  simp (disch := first | omega | (simp only [add_nx, upd_nx] <;> omega) | decide) only [rUz, ↓reduceIte, Nat.reduceEqDiff, Nat.reduceAdd]
  have hb1 : (h0.add (bkV st dv lv)).bl.get h0.nx = some (.cells (bkV st dv lv) h0.nx false) := ag_eq rfl
  have hk1 : Kp h0 (h0.add (bkV st dv lv)) := Kp.refl.add
  have hn1 : h0.nx < (h0.add (bkV st dv lv)).nx := Nat.lt_succ_self _
  generalize h0.add (bkV st dv lv) = H at hb1 hk1 hn1 ⊢
  generalize h0.nx = B1 at hb1 hn1 ⊢
  have ht0 : TuAt H nl nl [] [] := ⟨.inl ⟨rfl, .inl rfl⟩, fun x hx => (by cases hx), .inl ⟨rfl, .inl rfl⟩⟩
  repeat refine S.seq ?_
  refine S.region ?_
  simp (disch := first | omega | (simp only [add_nx, upd_nx] <;> omega) | decide) only [rUz, ↓reduceIte, Nat.reduceEqDiff, Nat.reduceAdd, hb1, part_0 pA (bkV_len st dv lv), rd_build, List.map_nil, brU0]
  refine wr_brings (fid := 25) (first := #[]) (captured := #[]) (Post := fun u _ => u = .bool (thinB D L [] [])) rfl (hoff _ _ _ rfl) (by simp (disch := first | omega | (simp only [add_nx, upd_nx] <;> omega) | decide) only [rUz, ↓reduceIte, Nat.reduceEqDiff, Nat.reduceAdd]; exact thin_y S H st dv lv nl nl D L [] [] (hb.mono hk1) ht0) ?_
  rintro u g hkg rfl
  replace hb1 := (hkg.get hn1).trans hb1
  replace hk1 := hk1.trans hkg
  cases h1 : thinB D L [] [] with
  | false =>
    rw [h1, Bool.false_and] at hKn
    simp (disch := first | omega | (simp only [add_nx, upd_nx] <;> omega) | decide) only [rUz, ↓reduceIte, Nat.reduceEqDiff, Nat.reduceAdd, h1]
    refine S.ret ?_
    try simp only [seqK_ret, blockK_ret]
    subst hF
    simp only [finish, endMarks]
    rw [show Try.f31.results.toList = [.tmp 2] from rfl]
    simp (disch := first | omega | (simp only [add_nx, upd_nx] <;> omega) | decide) only [resA, ev_tmp, tget_ne, tget_eq, get_ne, get_eq, upd_eq, upd_ne, ag_eq, ag_ne, result1]
    exact hKn _ rfl _ hk1
  | true =>
    rw [h1, Bool.true_and] at hKn
    simp (disch := first | omega | (simp only [add_nx, upd_nx] <;> omega) | decide) only [rUz, ↓reduceIte, Nat.reduceEqDiff, Nat.reduceAdd, h1, hb1, part_0 pA (bkV_len st dv lv)]
    refine wr_brings (fid := 28) (first := #[]) (captured := #[]) (Post := fun u _ => u = iv (faultZ st D L)) rfl (hoff _ _ _ rfl) (by simp (disch := first | omega | (simp only [add_nx, upd_nx] <;> omega) | decide) only [rUz, ↓reduceIte, Nat.reduceEqDiff, Nat.reduceAdd]; exact faultw_y S hoff g st dv lv D L (hb.mono hk1)) ?_
    rintro u g2 hkg2 rfl
    simp (disch := first | omega | (simp only [add_nx, upd_nx] <;> omega) | decide) only [rUz, ↓reduceIte, Nat.reduceEqDiff, Nat.reduceAdd]
    refine S.ret ?_
    try simp only [seqK_ret, blockK_ret]
    subst hF
    simp only [finish, endMarks]
    rw [show Try.f31.results.toList = [.tmp 2] from rfl]
    simp (disch := first | omega | (simp only [add_nx, upd_nx] <;> omega) | decide) only [resA, ev_tmp, tget_ne, tget_eq, get_ne, get_eq, upd_eq, upd_ne, ag_eq, ag_ne, result1]
    exact hKn _ rfl _ (hk1.trans hkg2)
end Go.Proofs.Mg
