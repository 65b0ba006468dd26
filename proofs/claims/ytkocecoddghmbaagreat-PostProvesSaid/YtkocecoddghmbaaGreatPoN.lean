import Derived.Test.YtkocecoddghmbaaGreatPoM
/- The law's helpers; whether a list is a truth, and how orders come, by the reference. -/
namespace Go.Proofs.Po
open Go Go.Ev Go.RowKit
set_option linter.unusedSimpArgs false
variable {pr : Prim} {R : ExT}
/-- A slice whose cells are of a family of their own. -/
def IAf (h : AHeap) (v : Value) (l : List Int) (F : Nat) : Prop :=
  (l = [] ∧ v = .slice none 0 0) ∨ ∃ b c f ro, v = .slice (some ⟨b, 0, none⟩) l.length c ∧ b < h.nx ∧ h.bl.get b = some (.cells (l.map iv) f ro) ∧ f < h.nx ∧ f ≠ F
theorem IAf.at {h : AHeap} {v : Value} {l : List Int} {F : Nat} (k : IAf h v l F) : IAt h v l := by
  rcases k with ⟨rfl, rfl⟩ | ⟨b, c, f, ro, k1, k2, k3, _⟩
  · exact .inl ⟨rfl, .inl rfl⟩
  · exact .inr ⟨b, c, f, ro, k1, k2, k3⟩
theorem ne_of {a F : Nat} (h : F < a ∨ a + 2 ≤ F) : a ≠ F := by omega
section
variable {P : Program} {h : AHeap} {call : CallT} {ops : Array Oper} {n : Nat} {rest : List Oper} {t : T Value} {KR : T Value → AHeap → Bool} {dst : Option Tmp} {v : Value} {l : List Int} {a e : TypeId} {x : Operand}
theorem wr_copyI (h1 : slOf P a = some e) (hu : P.underlying a = some (.slice e)) (h2 : sizeB P e = some 1) (hn : numOk P e 1 = true) (hx : ev P t x = v) (hv : IS h v l) (hl : l.length < 1000000)
    (kk : ∀ v' h', Kp h h' → (∀ F, (F < h.nx ∨ h'.nx ≤ F) → IAf h' v' l F) → (v' = .slice none 0 0 ∨ ∃ b c, v' = .slice (some ⟨b, 0, none⟩) l.length c) → putR P call ops n rest dst t v' h' KR = true) :
    wrR P call ops n rest (.call ⟨.builtin .append, #[.const (.slice none 0 0), x], #[a, a]⟩) dst t h KR = true := by
  have hnum2 : ∀ m, m < bigNat → numOk P e m = true := fun m hm => by
    unfold numOk at hn ⊢
    split at hn
    · simp only [Bool.and_eq_true] at hn ⊢
      exact ⟨by rw [Nat.blt_eq]; exact hm, hn.2⟩
    · cases hn
  have hc : ev P t (.const (.slice none 0 0)) = .slice none 0 0 := rfl
  rcases hv with ⟨k1, rfl | rfl⟩ | ⟨b, cap, f, ro, k1, rfl, k3, k4, k5⟩
  · have k1' : l = [] := by simpa using k1
    have hko : Ev.kindOk P a (.slice none 0 0) = true := by simp only [Ev.kindOk, hu]
    simp only [wrR, awrite, wCall, wAppend, h1, hx, hc, hko, cond_true, appendA, h2, srcCells, appendNil]
    exact kk _ _ Kp.refl (fun F _ => .inl ⟨k1', rfl⟩) (.inl rfl)
  · have k1' : l = [] := by simpa using k1
    have hko : Ev.kindOk P a emptyS = true := by simp only [Ev.kindOk, hu, emptyS]
    have hs : srcCells h 1 emptyS = some ([], 0) := rfl
    simp only [wrR, awrite, wCall, wAppend, h1, hx, hc, hko, cond_true, appendA, h2, hs, appendNil]
    exact kk _ _ Kp.refl (fun F _ => .inl ⟨k1', rfl⟩) (.inl rfl)
  · have hfl : (l.map fun n => [iv n]).flatten = l.map iv := by
      clear k1 k4 k5 hx hl kk
      induction l with
      | nil => rfl
      | cons a l ih => simp only [List.map_cons, List.flatten_cons, List.singleton_append]; rw [ih]
    rw [hfl] at k4
    rw [List.length_map] at hx
    have hln : l.length ≠ 0 := fun q => k1 (by rw [List.length_eq_zero_iff.1 q]; rfl)
    have hs : srcCells h 1 (.slice (some ⟨b, 0, none⟩) l.length cap) = some (l.map iv, l.length) := by
      have hb : Nat.ble (Nat.add 0 (Nat.mul l.length 1)) (l.map iv).length = true := Nat.ble_eq_true_of_le (by rw [List.length_map]; show 0 + l.length * 1 ≤ _; omega)
      simp only [srcCells, k4, hb, cond_true]
      rw [show Nat.mul l.length 1 = l.length from Nat.mul_one _, List.drop_zero, List.take_of_length_le (by rw [List.length_map]; exact Nat.le_refl _)]
    have hz : Nat.beq l.length 0 = false := by cases q : Nat.beq l.length 0 with | true => exact absurd (Nat.eq_of_beq_eq_true q) hln | false => rfl
    have hko : Ev.kindOk P a (.slice (some ⟨b, 0, none⟩) l.length cap) = true := by simp only [Ev.kindOk, hu]
    simp only [wrR, awrite, wCall, wAppend, h1, hx, hc, hko, cond_true, appendA, h2, hs, appendNil, hz, cond_false, hnum2 _ hl, growN_eq]
    refine kk _ _ ⟨by show h.nx ≤ h.nx + 2; omega, fun k hk => ⟨?_, ?_⟩⟩ (fun F hF => .inr ⟨h.nx + 1, _, h.nx, false, rfl, by show h.nx + 1 < h.nx + 2; omega, ?_, by show h.nx < h.nx + 2; omega, ne_of hF⟩) (.inr ⟨_, _, rfl⟩)
    · show (T.set (h.nx + 2) h.bl (h.nx + 1) (.cells (l.map iv) h.nx false)).get k = _
      rw [get_ne (by omega) (by omega)]
    · show (T.set (h.nx + 2) (T.set (h.nx + 1) h.fams h.nx [h.nx + 1]) (h.nx + 1) [1]).get k = _
      rw [get_ne (by omega) (by omega), get_ne (by omega) (by omega)]
    · exact get_eq (by omega)
end

set_option maxHeartbeats 4000000 in
theorem list_y (S : Ev.Steps Tryz.prog pr R) (h0 : AHeap) (v : Value) (l : List Int) (hv : IS h0 v l) (hl : l.length ≤ 1000) :
    Brings Tryz.prog R 14 [v] h0 fun u h => IAt h u l := by
  refine brings_of (fn := Tryz.f14) (c := (Tryz.f14.body).getD .skip) (by kernel_rfl) rfl (by kernel_rfl) rfl (fun K hK => ?_)
  generalize hF : finish Tryz.prog Tryz.f14 K = KF
  simp only [Tryz.f14, Option.getD_some, argsT, setArgs, fV1_eq, T.setK_eq, id]
  repeat refine S.seq ?_
  refine S.region ?_
  simp (disch := first | omega | (simp only [add_nx, upd_nx] <;> omega) | decide) only [rUz, ↓reduceIte, Nat.reduceEqDiff, Nat.reduceAdd]
  repeat refine S.seq ?_
  refine S.region ?_
  simp (disch := first | omega | (simp only [add_nx, upd_nx] <;> omega) | decide) only [rUz, ↓reduceIte, Nat.reduceEqDiff, Nat.reduceAdd, w_append]
  refine wr_copyI slI uI s3' nI (by simp (disch := first | omega | (simp only [add_nx, upd_nx] <;> omega) | decide) only [rUz, ↓reduceIte, Nat.reduceEqDiff, Nat.reduceAdd]) hv (by omega) ?_
  intro v' h' hk hI hs
  simp (disch := first | omega | (simp only [add_nx, upd_nx] <;> omega) | decide) only [rUz, ↓reduceIte, Nat.reduceEqDiff, Nat.reduceAdd]
  refine S.ret ?_
  try simp only [seqK_ret, blockK_ret]
  subst hF
  simp only [finish, endMarks]
  rw [show Tryz.f14.results.toList = [.tmp 2] from rfl]
  simp (disch := first | omega | (simp only [add_nx, upd_nx] <;> omega) | decide) only [resA, ev_tmp, tget_ne, tget_eq, get_ne, get_eq, upd_eq, upd_ne, ag_eq, ag_ne, result1]
  exact hK _ _ hk (hI h'.nx (.inr (Nat.le_refl _))).at

/-! ## Structs of integers, compared -/
theorem kSaR : intKey Tryz.prog 90 = some 4 := by kernel_rfl
theorem gSaR : Tryz.prog.eqGuardType Tryz.prog.depth 90 = false := by kernel_rfl
def eqSa (x y : Sa) : Bool := beqI x.bu y.bu && (beqI x.se y.se && (beqI x.nu y.nu && beqI x.pr y.pr))
theorem eqInts_Sa (x y : Sa) : eqInts (cSa x) (cSa y) = some (eqSa x y) := by
  have hk : beqKind IntKind.i64 IntKind.i64 = true := rfl
  unfold cSa eqSa
  simp only [eqInts, hk, cond_true]
  cases beqI x.bu y.bu <;> cases beqI x.se y.se <;> cases beqI x.nu y.nu <;> cases beqI x.pr y.pr <;> rfl
theorem plain_Sa (x : Sa) : plainB (.agg ⟨cSa x⟩) = true := rfl
/-! ## Whether a list is a truth, by the reference -/
structure IIt (O : List Od) (t0 : List Int) (H : AHeap) (B2 : Nat) (tv : Value) (k : Nat) (t : T Value) (h : AHeap) : Prop where
  hh : h = H
  ha : (List.zip O t0).all comeQ = ((List.zip O t0).drop k).all comeQ
  t1 : tget t 1 = tv
  t2 : tget t 2 = ptr0 B2
  t5 : tget t 5 = iv (k : Int)
  hk1 : k ≤ t0.length
  hk2 : k ≤ O.length
set_option maxHeartbeats 16000000 in
theorem isTruth_y (S : Ev.Steps Tryz.prog pr R) (hoff : Off pr) (h0 : AHeap) (v tv : Value) (O : List Od) (t0 : List Int) (hb : PoAt h0 v O) (ht : IAt h0 tv t0) (h9 : O.length ≤ 9) (_h11 : t0.length ≤ 11) :
    Brings Tryz.prog R 17 [.agg ⟨poV v⟩, tv] h0 fun u _ => u = .bool (truthB O t0) := by
  refine brings_of (fn := Tryz.f17) (c := (Tryz.f17.body).getD .skip) (by kernel_rfl) rfl (by kernel_rfl) rfl (fun K hK => ?_)
  generalize hF : finish Tryz.prog Tryz.f17 K = KF
  simp only [Tryz.f17, Option.getD_some, argsT, setArgs, fV1_eq, T.setK_eq, id]
  have hK' : ∀ b, b = truthB O t0 → ∀ g, Kp h0 g → K (.bool b) g = true := fun b e g hk => hK _ _ hk (by rw [e])
  clear hK
  unfold truthB at hK'
  repeat refine S.seq ?_
  refine S.region ?_
  simp (disch := first | omega | (simp only [add_nx, upd_nx] <;> omega) | decide) only [rUz, ↓reduceIte, Nat.reduceEqDiff, Nat.reduceAdd]
  have hb1 : (h0.add (poV v)).bl.get h0.nx = some (.cells (poV v) h0.nx false) := ag_eq rfl
  have hk1 : Kp h0 (h0.add (poV v)) := Kp.refl.add
  generalize h0.add (poV v) = H at hb1 hk1 ⊢
  generalize h0.nx = B2 at hb1 ⊢
  have hbH := hb.mono hk1
  have htH := ht.mono hk1
  have lO := fun t h1 o => row_len hbH isrO t h1 o
  have lT := fun t h1 o => iv_len htH t h1 o
  repeat refine S.seq ?_
  refine S.region ?_
  simp (disch := first | omega | (simp only [add_nx, upd_nx] <;> omega) | decide) only [rUz, ↓reduceIte, Nat.reduceEqDiff, Nat.reduceAdd]
  repeat refine S.seq ?_
  refine S.block ?_
  refine S.loop (ι := Nat) (IIt O t0 H B2 tv) (fun k => t0.length - k) ?_ 0 _ _ ?_
  rotate_left
  · refine ⟨rfl, rfl, ?_, ?_, ?_, Nat.zero_le _, Nat.zero_le _⟩
    all_goals (first | rfl | (simp (disch := first | omega | (simp only [add_nx, upd_nx] <;> omega) | decide) only [rUz, ↓reduceIte, Nat.reduceEqDiff, Nat.reduceAdd]; done) | (simp (disch := first | omega | (simp only [add_nx, upd_nx] <;> omega) | decide) only [rUz, ↓reduceIte, Nat.reduceEqDiff, Nat.reduceAdd]; rfl))
  intro k t h ⟨hh, ha, t1, t2, t5, hk1', hk2⟩ K' hn he
  subst hh
  have last : k = t0.length ∨ k = O.length → (List.zip O t0).all comeQ = true := fun e => by
    rw [ha, List.drop_of_length_le (by rw [List.length_zip]; omega), List.all_nil]
  have fin : ∀ t, tget t 1 = tv → tget t 2 = ptr0 B2 → (List.zip O t0).all comeQ = true → K' (.exit 0) t h [] = true := fun t t1 t2 hall => by
    refine he _ _ _ _ (fun e => by cases e) ?_
    rw [hall, Bool.and_true] at hK'
    simp (disch := first | omega | (simp only [add_nx, upd_nx] <;> omega) | decide) only [rUz, ↓reduceIte, Nat.reduceEqDiff, Nat.reduceAdd]
    repeat refine S.seq ?_
    refine S.region ?_
    simp (disch := first | omega | (simp only [add_nx, upd_nx] <;> omega) | decide) only [rUz, ↓reduceIte, Nat.reduceEqDiff, Nat.reduceAdd, t1, t2, hb1, fieldAddr_ptr fA0 lrO, qrO, po0, lO, lT]
    refine S.ret ?_
    try simp only [seqK_ret, blockK_ret]
    subst hF
    simp only [finish, endMarks]
    rw [show Tryz.f17.results.toList = [.tmp 4] from rfl]
    simp (disch := first | omega | (simp only [add_nx, upd_nx] <;> omega) | decide) only [resA, ev_tmp, tget_ne, tget_eq, get_ne, get_eq, upd_eq, upd_ne, ag_eq, ag_ne, result1]
    refine hK' _ ?_ _ hk1
    rw [Bool.eq_iff_iff, decide_eq_true_eq, decide_eq_true_eq]
    omega
  cases h1 : decide ((k : Int) < (t0.length : Int)) with
  | false =>
    have hkn : k = t0.length := by have := of_decide_eq_false h1; omega
    repeat refine S.seq ?_
    refine S.region ?_
    simp (disch := first | omega | (simp only [add_nx, upd_nx] <;> omega) | decide) only [rUz, ↓reduceIte, Nat.reduceEqDiff, Nat.reduceAdd, t1, t5, lT, h1]
    repeat refine S.seq ?_
    refine S.cond (v := false) (by first | rfl | (simp (disch := first | omega | (simp only [add_nx, upd_nx] <;> omega) | decide) only [rUz, ↓reduceIte, Nat.reduceEqDiff, Nat.reduceAdd] <;> rfl)) (fun e => by cases e) (fun _ => ?_)
    refine S.exit ?_
    refine fin _ ?_ ?_ (last (.inl hkn))
    all_goals (first | rfl | (simp (disch := first | omega | (simp only [add_nx, upd_nx] <;> omega) | decide) only [rUz, ↓reduceIte, Nat.reduceEqDiff, Nat.reduceAdd, t1, t2]; done) | (simp (disch := first | omega | (simp only [add_nx, upd_nx] <;> omega) | decide) only [rUz, ↓reduceIte, Nat.reduceEqDiff, Nat.reduceAdd, t1, t2]; rfl))
  | true =>
  have hkn : k < t0.length := by have := of_decide_eq_true h1; omega
  cases h2 : decide ((k : Int) < (O.length : Int)) with
  | false =>
    have hkO : k = O.length := by have := of_decide_eq_false h2; omega
    repeat refine S.seq ?_
    refine S.region ?_
    simp (disch := first | omega | (simp only [add_nx, upd_nx] <;> omega) | decide) only [rUz, ↓reduceIte, Nat.reduceEqDiff, Nat.reduceAdd, t1, t2, t5, hb1, fieldAddr_ptr fA0 lrO, qrO, po0, lO, lT, h1, h2]
    repeat refine S.seq ?_
    refine S.cond (v := false) (by first | rfl | (simp (disch := first | omega | (simp only [add_nx, upd_nx] <;> omega) | decide) only [rUz, ↓reduceIte, Nat.reduceEqDiff, Nat.reduceAdd] <;> rfl)) (fun e => by cases e) (fun _ => ?_)
    refine S.exit ?_
    refine fin _ ?_ ?_ (last (.inr hkO))
    all_goals (first | rfl | (simp (disch := first | omega | (simp only [add_nx, upd_nx] <;> omega) | decide) only [rUz, ↓reduceIte, Nat.reduceEqDiff, Nat.reduceAdd, t1, t2]; done) | (simp (disch := first | omega | (simp only [add_nx, upd_nx] <;> omega) | decide) only [rUz, ↓reduceIte, Nat.reduceEqDiff, Nat.reduceAdd, t1, t2]; rfl))
  | true =>
  have hkO : k < O.length := by have := of_decide_eq_true h2; omega
  clear fin last
  have hkz : k < (List.zip O t0).length := by rw [List.length_zip]; omega
  have hgz : (List.zip O t0)[k] = (O[k], t0[k]) := List.getElem_zip
  rw [List.drop_eq_getElem_cons hkz, List.all_cons, hgz] at ha
  have hps : O[k]? = some O[k] := List.getElem?_eq_getElem hkO
  obtain ⟨rb, rf, rw0, r1, r2, r3, r4⟩ := htH.idx slI s3' hkn
  generalize t0[k] = z at ha r4
  generalize O[k] = x at ha hps
  obtain ⟨b, f, ro, cells, q1, q2, q3, q4, q5, q6⟩ := row_idx hbH slrO srO hps
  have c3' := q6 3 _ (cOd3 x)
  have c4' := q6 4 _ (cOd4 x)
  repeat refine S.seq ?_
  refine S.region ?_
  simp (disch := first | omega | (simp only [add_nx, upd_nx] <;> omega) | decide) only [rUz, ↓reduceIte, Nat.reduceEqDiff, Nat.reduceAdd, t1, t2, t5, hb1, fieldAddr_ptr fA0 lrO, qrO, po0, lO, lT, h1, h2]
  repeat refine S.seq ?_
  refine S.cond (v := true) (by first | rfl | (simp (disch := first | omega | (simp only [add_nx, upd_nx] <;> omega) | decide) only [rUz, ↓reduceIte, Nat.reduceEqDiff, Nat.reduceAdd] <;> rfl)) (fun _ => ?_) (fun e => by cases e)
  repeat refine S.seq ?_
  refine S.skip ?_
  simp (disch := first | omega | (simp only [add_nx, upd_nx] <;> omega) | decide) only [rUz, ↓reduceIte, Nat.reduceEqDiff, Nat.reduceAdd]
  repeat refine S.seq ?_
  refine S.block ?_
  repeat refine S.seq ?_
  refine S.drawnL [(false, 0), (false, 0), (false, 3), (false, 7), (false, 0), (false, 16), (false, 0), (false, 112), (false, 240), (false, 496), (false, 1008), (false, 0), (false, 2048), (false, 0), (false, 14336), (false, 30720), (false, 63488), (false, 129024), (true, 262143), (false, 524287)] (by kernel_rfl) (by kernel_rfl) (by kernel_rfl) ?_
  simp (disch := first | omega | (simp only [add_nx, upd_nx] <;> omega) | decide) only [rUz, ↓reduceIte, Nat.reduceEqDiff, Nat.reduceAdd, rDz, infoL, Nat.reduceSub, t1, t2, t5, hb1, fieldAddr_ptr fA0 lrO, fieldAddr_ptr frO3 SrR, fieldAddr_ptr frR0 s3, fieldAddr_ptr frR1 s3, qrO, po0, r1, r3, p3, r4, q1, q3, c3', c4', Nat.add_assoc]
  refine drW_brings (fid := 36) (first := #[]) (captured := #[]) (Post := fun v g => v = .bool (inB z x.lo x.hi) ∧ g = h) rfl (hoff _ _ _ rfl) (by simp (disch := first | omega | (simp only [add_nx, upd_nx] <;> omega) | decide) only [rUz, ↓reduceIte, Nat.reduceEqDiff, Nat.reduceAdd]; exact in_y S h z x.lo x.hi) (Nat.le_of_ble_eq_true rfl) ?_
  rintro u g - ⟨rfl, rfl⟩
  refine ⟨?_, ?_⟩
  · try simp (disch := first | decide | rfl) only [again_nil, again_skip, again_free]
  simp (disch := first | omega | (simp only [add_nx, upd_nx] <;> omega) | decide) only [rUz, ↓reduceIte, Nat.reduceEqDiff, Nat.reduceAdd, rDz, infoL, Nat.reduceSub, un_not]
  have hq : comeQ (x, z) = inB z x.lo x.hi := rfl
  rw [hq] at ha
  cases h3 : inB z x.lo x.hi with
  | false =>
    rw [h3, Bool.false_and] at ha
    repeat refine S.seq ?_
    refine S.cond (v := true) (by first | rfl | (simp (disch := first | omega | (simp only [add_nx, upd_nx] <;> omega) | decide) only [rUz, ↓reduceIte, Nat.reduceEqDiff, Nat.reduceAdd, h3, Bool.not_false] <;> rfl)) (fun _ => ?_) (fun e => by cases e)
    repeat refine S.seq ?_
    refine S.region ?_
    simp (disch := first | omega | (simp only [add_nx, upd_nx] <;> omega) | decide) only [rUz, ↓reduceIte, Nat.reduceEqDiff, Nat.reduceAdd]
    refine S.ret ?_
    simp only [seqK_ret, blockK_ret]
    refine he _ _ _ _ (fun e => by cases e) ?_
    try simp only [seqK_ret, blockK_ret]
    subst hF
    simp only [finish, endMarks]
    rw [show Tryz.f17.results.toList = [.tmp 4] from rfl]
    simp (disch := first | omega | (simp only [add_nx, upd_nx] <;> omega) | decide) only [resA, ev_tmp, tget_ne, tget_eq, get_ne, get_eq, upd_eq, upd_ne, ag_eq, ag_ne, result1]
    exact hK' _ (by rw [ha, Bool.and_false]) _ hk1
  | true =>
    rw [h3, Bool.true_and] at ha
    repeat refine S.seq ?_
    refine S.cond (v := false) (by first | rfl | (simp (disch := first | omega | (simp only [add_nx, upd_nx] <;> omega) | decide) only [rUz, ↓reduceIte, Nat.reduceEqDiff, Nat.reduceAdd, h3, Bool.not_true] <;> rfl)) (fun e => by cases e) (fun _ => ?_)
    repeat refine S.seq ?_
    refine S.skip ?_
    simp (disch := first | omega | (simp only [add_nx, upd_nx] <;> omega) | decide) only [rUz, ↓reduceIte, Nat.reduceEqDiff, Nat.reduceAdd]
    repeat refine S.seq ?_
    refine S.region ?_
    simp (disch := first | omega | (simp only [add_nx, upd_nx] <;> omega) | decide) only [rUz, ↓reduceIte, Nat.reduceEqDiff, Nat.reduceAdd, t5]
    refine hn (k + 1) _ _ (by omega) ⟨rfl, ha, ?_, ?_, ?_, by omega, by omega⟩
    all_goals (first | rfl | (simp (disch := first | omega | (simp only [add_nx, upd_nx] <;> omega) | decide) only [rUz, ↓reduceIte, Nat.reduceEqDiff, Nat.reduceAdd, t1, t2]; done) | (simp (disch := first | omega | (simp only [add_nx, upd_nx] <;> omega) | decide) only [rUz, ↓reduceIte, Nat.reduceEqDiff, Nat.reduceAdd, t1, t2]; rfl))
end Go.Proofs.Po
