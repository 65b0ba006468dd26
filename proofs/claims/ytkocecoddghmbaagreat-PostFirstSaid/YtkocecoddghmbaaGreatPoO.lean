import Derived.Test.YtkocecoddghmbaaGreatPoN
/- How orders come, by the reference; sales compared and converted. -/
namespace Go.Proofs.Po
open Go Go.Ev Go.RowKit
set_option linter.unusedSimpArgs false
variable {pr : Prim} {R : ExT}
theorem atM_len (m : Int) : ∀ (l : List Int) (k : Nat), (atM m l k).length ≤ l.length
  | [], _ => by simp [atM]
  | a :: r, k => by
    have := atM_len m r (k + 1)
    unfold atM
    cases decide (a = m) with
    | true => simp only [cond_true, List.length_cons]; omega
    | false => simp only [cond_false, List.length_cons]; omega
theorem cmU_len (t : List Int) : ∀ j, (cmU t j).length ≤ j * t.length
  | 0 => by simp [cmU]
  | j + 1 => by
    have h1 := cmU_len t j
    have h2 := atM_len (j : Int) t 0
    unfold cmU
    rw [List.length_append, Nat.succ_mul]; omega
def snds (L : List AR) : List (List Value) := (L.map fun x => x.2).map cn
theorem snds_app (A B : List AR) : snds (A ++ B) = snds A ++ snds B := by unfold snds; rw [List.map_append, List.map_append]
theorem snds_len (A : List AR) : (snds A).length = A.length := by unfold snds; rw [List.length_map, List.length_map]
theorem App.blk_ge {lo : Nat} {h : AHeap} {sz F b : Nat} {v : Value} {cs : List (List Value)} (k : App lo h sz v cs F) (hb : blk v = some b) : lo ≤ b := by
  rcases k with ⟨_, rfl⟩ | ⟨b', l, _, rfl, hlo, _⟩
  · cases hb
  · cases hb; exact hlo
structure ICm (t0 : List Int) (H : AHeap) (tv : Value) (m : Nat) (t : T Value) (h : AHeap) : Prop where
  kp : Kp H h
  ex : ∃ u F, App H.nx h 1 u (snds (cmU t0 m)) F ∧ tget t 5 = u
  t1 : tget t 1 = tv
  t6 : tget t 6 = iv (m : Int)
  hm : m ≤ 31
structure ICi (t0 : List Int) (H : AHeap) (tv : Value) (m : Nat) (i : Nat) (t : T Value) (h : AHeap) : Prop where
  kp : Kp H h
  ex : ∃ u F, App H.nx h 1 u (snds (cmU t0 m ++ atM (m : Int) (t0.take i) 0)) F ∧ tget t 5 = u
  t1 : tget t 1 = tv
  t6 : tget t 6 = iv (m : Int)
  t7 : tget t 7 = iv (i : Int)
  hi : i ≤ t0.length
set_option maxHeartbeats 16000000 in
theorem comes_y (S : Ev.Steps Tryz.prog pr R) (h0 : AHeap) (v tv : Value) (t0 : List Int) (ht : IAt h0 tv t0) (h11 : t0.length ≤ 11) :
    Brings Tryz.prog R 39 [.agg ⟨poV v⟩, tv] h0 fun u h => SlAt h 1 u ((ordZ t0).map cn) ∧ ∀ b, blk u = some b → h0.nx ≤ b := by
  refine brings_of (fn := Tryz.f39) (c := (Tryz.f39.body).getD .skip) (by kernel_rfl) rfl (by kernel_rfl) rfl (fun K hK => ?_)
  generalize hF : finish Tryz.prog Tryz.f39 K = KF
  simp only [Tryz.f39, Option.getD_some, argsT, setArgs, fV1_eq, T.setK_eq, id]
  repeat refine S.seq ?_
  refine S.region ?_
  simp (disch := first | omega | (simp only [add_nx, upd_nx] <;> omega) | decide) only [rUz, ↓reduceIte, Nat.reduceEqDiff, Nat.reduceAdd]
  have hk1 : Kp h0 (h0.add (poV v)) := Kp.refl.add
  generalize h0.add (poV v) = H at hk1 ⊢
  have htH := ht.mono hk1
  repeat refine S.seq ?_
  refine S.region ?_
  simp (disch := first | omega | (simp only [add_nx, upd_nx] <;> omega) | decide) only [rUz, ↓reduceIte, Nat.reduceEqDiff, Nat.reduceAdd]
  repeat refine S.seq ?_
  refine S.region ?_
  simp (disch := first | omega | (simp only [add_nx, upd_nx] <;> omega) | decide) only [rUz, ↓reduceIte, Nat.reduceEqDiff, Nat.reduceAdd]
  repeat refine S.seq ?_
  refine S.block ?_
  refine S.loop (ι := Nat) (ICm t0 H tv) (fun m => 31 - m) ?_ 0 _ _ ?_
  rotate_left
  · refine ⟨Kp.refl, ⟨nl, 0, .inl ⟨rfl, rfl⟩, ?_⟩, ?_, ?_, by omega⟩
    all_goals (first | rfl | (simp (disch := first | omega | (simp only [add_nx, upd_nx] <;> omega) | decide) only [rUz, ↓reduceIte, Nat.reduceEqDiff, Nat.reduceAdd]; done) | (simp (disch := first | omega | (simp only [add_nx, upd_nx] <;> omega) | decide) only [rUz, ↓reduceIte, Nat.reduceEqDiff, Nat.reduceAdd]; rfl))
  intro m t h ⟨kp, ⟨u, F, app, t5⟩, t1, t6, hm⟩ K' hn he
  repeat refine S.seq ?_
  refine S.region ?_
  simp (disch := first | omega | (simp only [add_nx, upd_nx] <;> omega) | decide) only [rUz, ↓reduceIte, Nat.reduceEqDiff, Nat.reduceAdd, t6]
  repeat refine S.seq ?_
  refine S.cond (v := decide ((m : Int) ≤ 30)) (by first | rfl | (simp (disch := first | omega | (simp only [add_nx, upd_nx] <;> omega) | decide) only [rUz, ↓reduceIte, Nat.reduceEqDiff, Nat.reduceAdd] <;> rfl)) (fun e => ?_) (fun e => ?_)
  · have hm30 : m ≤ 30 := by have := of_decide_eq_true e; omega
    clear e
    repeat refine S.seq ?_
    refine S.skip ?_
    simp (disch := first | omega | (simp only [add_nx, upd_nx] <;> omega) | decide) only [rUz, ↓reduceIte, Nat.reduceEqDiff, Nat.reduceAdd]
    repeat refine S.seq ?_
    refine S.block ?_
    repeat refine S.seq ?_
    refine S.region ?_
    simp (disch := first | omega | (simp only [add_nx, upd_nx] <;> omega) | decide) only [rUz, ↓reduceIte, Nat.reduceEqDiff, Nat.reduceAdd]
    repeat refine S.seq ?_
    refine S.block ?_
    refine S.loop (ι := Nat) (ICi t0 H tv m) (fun i => t0.length - i) ?_ 0 _ _ ?_
    rotate_left
    · refine ⟨kp, ⟨u, F, ?_, ?_⟩, ?_, ?_, ?_, Nat.zero_le _⟩
      · rw [List.take_zero]; unfold atM; rw [List.append_nil]; exact app
      all_goals (first | rfl | (simp (disch := first | omega | (simp only [add_nx, upd_nx] <;> omega) | decide) only [rUz, ↓reduceIte, Nat.reduceEqDiff, Nat.reduceAdd, t1, t5, t6]; done) | (simp (disch := first | omega | (simp only [add_nx, upd_nx] <;> omega) | decide) only [rUz, ↓reduceIte, Nat.reduceEqDiff, Nat.reduceAdd, t1, t5, t6]; rfl))
    clear t1 t5 t6 app kp
    clear t h
    intro i t h ⟨kp, ⟨u, F, app, t5⟩, t1, t6, t7, hi⟩ K2 hn2 he2
    have lT := fun t h1 o => iv_len (htH.mono kp) t h1 o
    repeat refine S.seq ?_
    refine S.region ?_
    simp (disch := first | omega | (simp only [add_nx, upd_nx] <;> omega) | decide) only [rUz, ↓reduceIte, Nat.reduceEqDiff, Nat.reduceAdd, t1, t7, lT]
    repeat refine S.seq ?_
    refine S.cond (v := decide ((i : Int) < (t0.length : Int))) (by first | rfl | (simp (disch := first | omega | (simp only [add_nx, upd_nx] <;> omega) | decide) only [rUz, ↓reduceIte, Nat.reduceEqDiff, Nat.reduceAdd] <;> rfl)) (fun e => ?_) (fun e => ?_)
    · have hin : i < t0.length := by have := of_decide_eq_true e; omega
      clear e
      obtain ⟨rb, rf, rw0, r1, r2, r3, r4⟩ := (htH.mono kp).idx slI s3' hin
      have htk : t0.take (i + 1) = t0.take i ++ [t0[i]] := take_snoc hin
      have hsn := atM_snoc (m : Int) t0[i] (t0.take i) 0
      rw [List.length_take, Nat.min_eq_left hi, Nat.zero_add, ← htk] at hsn
      have hlen : (snds (cmU t0 m ++ atM (m : Int) (t0.take i) 0)).length ≤ 400 := by
        have e1 := cmU_len t0 m
        have e2 := atM_len (m : Int) (t0.take i) 0
        have e3 : m * t0.length ≤ 30 * 11 := Nat.mul_le_mul hm30 h11
        rw [snds_len, List.length_append]
        rw [List.length_take] at e2
        omega
      generalize t0[i] = z at r4 hsn
      repeat refine S.seq ?_
      refine S.skip ?_
      simp (disch := first | omega | (simp only [add_nx, upd_nx] <;> omega) | decide) only [rUz, ↓reduceIte, Nat.reduceEqDiff, Nat.reduceAdd]
      repeat refine S.seq ?_
      refine S.block ?_
      repeat refine S.seq ?_
      refine S.region ?_
      simp (disch := first | omega | (simp only [add_nx, upd_nx] <;> omega) | decide) only [rUz, ↓reduceIte, Nat.reduceEqDiff, Nat.reduceAdd, t1, t6, t7, r1, r3, p3, r4]
      cases hz : decide (z = (m : Int)) with
      | true =>
        rw [hz, cond_true] at hsn
        repeat refine S.seq ?_
        refine S.cond (v := true) (by first | rfl | (simp (disch := first | omega | (simp only [add_nx, upd_nx] <;> omega) | decide) only [rUz, ↓reduceIte, Nat.reduceEqDiff, Nat.reduceAdd, hz] <;> rfl)) (fun _ => ?_) (fun e => by cases e)
        repeat refine S.seq ?_
        refine S.region ?_
        simp (disch := first | omega | (simp only [add_nx, upd_nx] <;> omega) | decide) only [rUz, ↓reduceIte, Nat.reduceEqDiff, Nat.reduceAdd, t5, t7, w_buildSlice]
        refine wr_lit1 slI s3' z3 rfl (by omega) (u := iv (i : Int)) (l := cn i) (by simp (disch := first | omega | (simp only [add_nx, upd_nx] <;> omega) | decide) only [rUz, ↓reduceIte, Nat.reduceEqDiff, Nat.reduceAdd]) rfl rfl ?_
        simp (disch := first | omega | (simp only [add_nx, upd_nx] <;> omega) | decide) only [rUz, ↓reduceIte, Nat.reduceEqDiff, Nat.reduceAdd, w_append]
        refine wr_append (bx := h.nx) (cx := 1) (v := u) slI uI (by simp (disch := first | omega | (simp only [add_nx, upd_nx] <;> omega) | decide) only [rUz, ↓reduceIte, Nat.reduceEqDiff, Nat.reduceAdd, t5]) (by simp (disch := first | omega | (simp only [add_nx, upd_nx] <;> omega) | decide) only [rUz, ↓reduceIte, Nat.reduceEqDiff, Nat.reduceAdd]) (app.mono (Kp.refl.add (c := cn i))) (by have := kp.1; show H.nx ≤ h.nx + 1; omega) s3' rfl (by omega) (ag_eq rfl) nI (by show _ < 1000000; omega) ?_
        intro v' h' F' app' sm _ _ _
        have hkp' : Kp H h' := sm.kp (Nat.le_refl _) (kp.trans (Kp.refl.add (c := cn i)))
        have hl' : snds (cmU t0 m ++ atM (m : Int) (t0.take (i + 1)) 0) = snds (cmU t0 m ++ atM (m : Int) (t0.take i) 0) ++ [cn i] := by
          rw [hsn, ← List.append_assoc, snds_app]; rfl
        simp (disch := first | omega | (simp only [add_nx, upd_nx] <;> omega) | decide) only [rUz, ↓reduceIte, Nat.reduceEqDiff, Nat.reduceAdd]
        repeat refine S.seq ?_
        refine S.region ?_
        simp (disch := first | omega | (simp only [add_nx, upd_nx] <;> omega) | decide) only [rUz, ↓reduceIte, Nat.reduceEqDiff, Nat.reduceAdd, t7]
        refine hn2 (i + 1) _ _ (by omega) ⟨hkp', ⟨v', F', by rw [hl']; exact app', ?_⟩, ?_, ?_, ?_, by omega⟩
        all_goals (first | rfl | (simp (disch := first | omega | (simp only [add_nx, upd_nx] <;> omega) | decide) only [rUz, ↓reduceIte, Nat.reduceEqDiff, Nat.reduceAdd, t1, t6]; done) | (simp (disch := first | omega | (simp only [add_nx, upd_nx] <;> omega) | decide) only [rUz, ↓reduceIte, Nat.reduceEqDiff, Nat.reduceAdd, t1, t6]; rfl))
      | false =>
        rw [hz, cond_false, List.append_nil] at hsn
        repeat refine S.seq ?_
        refine S.cond (v := false) (by first | rfl | (simp (disch := first | omega | (simp only [add_nx, upd_nx] <;> omega) | decide) only [rUz, ↓reduceIte, Nat.reduceEqDiff, Nat.reduceAdd, hz] <;> rfl)) (fun e => by cases e) (fun _ => ?_)
        repeat refine S.seq ?_
        refine S.skip ?_
        simp (disch := first | omega | (simp only [add_nx, upd_nx] <;> omega) | decide) only [rUz, ↓reduceIte, Nat.reduceEqDiff, Nat.reduceAdd]
        repeat refine S.seq ?_
        refine S.region ?_
        simp (disch := first | omega | (simp only [add_nx, upd_nx] <;> omega) | decide) only [rUz, ↓reduceIte, Nat.reduceEqDiff, Nat.reduceAdd, t7]
        refine hn2 (i + 1) _ _ (by omega) ⟨kp, ⟨u, F, by rw [hsn]; exact app, ?_⟩, ?_, ?_, ?_, by omega⟩
        all_goals (first | rfl | (simp (disch := first | omega | (simp only [add_nx, upd_nx] <;> omega) | decide) only [rUz, ↓reduceIte, Nat.reduceEqDiff, Nat.reduceAdd, t1, t5, t6]; done) | (simp (disch := first | omega | (simp only [add_nx, upd_nx] <;> omega) | decide) only [rUz, ↓reduceIte, Nat.reduceEqDiff, Nat.reduceAdd, t1, t5, t6]; rfl))
    have hin : i = t0.length := by have := of_decide_eq_false e; omega
    subst hin
    rw [List.take_of_length_le (Nat.le_refl _)] at app
    refine S.exit (he2 _ _ _ _ (fun e => by cases e) ?_)
    simp (disch := first | omega | (simp only [add_nx, upd_nx] <;> omega) | decide) only [rUz, ↓reduceIte, Nat.reduceEqDiff, Nat.reduceAdd]
    repeat refine S.seq ?_
    refine S.region ?_
    simp (disch := first | omega | (simp only [add_nx, upd_nx] <;> omega) | decide) only [rUz, ↓reduceIte, Nat.reduceEqDiff, Nat.reduceAdd, t6]
    refine hn (m + 1) _ _ (by omega) ⟨kp, ⟨u, F, app, ?_⟩, ?_, ?_, by omega⟩
    all_goals (first | rfl | (simp (disch := first | omega | (simp only [add_nx, upd_nx] <;> omega) | decide) only [rUz, ↓reduceIte, Nat.reduceEqDiff, Nat.reduceAdd, t1, t5]; done) | (simp (disch := first | omega | (simp only [add_nx, upd_nx] <;> omega) | decide) only [rUz, ↓reduceIte, Nat.reduceEqDiff, Nat.reduceAdd, t1, t5]; rfl))
  have hm31 : m = 31 := by have := of_decide_eq_false e; omega
  subst hm31
  refine S.exit (he _ _ _ _ (fun e => by cases e) ?_)
  simp (disch := first | omega | (simp only [add_nx, upd_nx] <;> omega) | decide) only [rUz, ↓reduceIte, Nat.reduceEqDiff, Nat.reduceAdd]
  repeat refine S.seq ?_
  refine S.region ?_
  simp (disch := first | omega | (simp only [add_nx, upd_nx] <;> omega) | decide) only [rUz, ↓reduceIte, Nat.reduceEqDiff, Nat.reduceAdd, t5]
  refine S.ret ?_
  try simp only [seqK_ret, blockK_ret]
  subst hF
  simp only [finish, endMarks]
  rw [show Tryz.f39.results.toList = [.tmp 4] from rfl]
  simp (disch := first | omega | (simp only [add_nx, upd_nx] <;> omega) | decide) only [resA, ev_tmp, tget_ne, tget_eq, get_ne, get_eq, upd_eq, upd_ne, ag_eq, ag_ne, result1]
  exact hK _ _ (hk1.trans kp) ⟨app.at, fun b hb => Nat.le_trans hk1.1 (App.blk_ge app hb)⟩
/-! ## Sales -/
structure IBk (l : List Sa) (H : AHeap) (sv : Value) (k : Nat) (t : T Value) (h : AHeap) : Prop where
  kp : Kp H h
  ex : ∃ u F, App H.nx h 4 u ((l.take k).map cSa) F ∧ tget t 3 = u
  t0 : tget t 0 = sv
  t4 : tget t 4 = iv (k : Int)
  hk : k ≤ l.length
theorem brSx (x : Sa) : rBuild Tryz.prog 90 [(0, iv x.bu), (1, iv x.se), (2, iv x.nu), (3, iv x.pr)] = some (.agg ⟨cSa x⟩) := brS _ _ _ _
set_option maxHeartbeats 16000000 in
theorem back_y (S : Ev.Steps Tryz.prog pr R) (h0 : AHeap) (sv : Value) (l : List Sa) (hs : SlAt h0 4 sv (l.map cSa)) (hl : l.length ≤ 1000) :
    Brings Tryz.prog R 19 [sv] h0 fun u h => SlAt h 4 u (l.map cSa) := by
  refine brings_of (fn := Tryz.f19) (c := (Tryz.f19.body).getD .skip) (by kernel_rfl) rfl (by kernel_rfl) rfl (fun K hK => ?_)
  generalize hF : finish Tryz.prog Tryz.f19 K = KF
  simp only [Tryz.f19, Option.getD_some, argsT, setArgs, fV1_eq, T.setK_eq, id]
  repeat refine S.seq ?_
  refine S.region ?_
  simp (disch := first | omega | (simp only [add_nx, upd_nx] <;> omega) | decide) only [rUz, ↓reduceIte, Nat.reduceEqDiff, Nat.reduceAdd]
  repeat refine S.seq ?_
  refine S.region ?_
  simp (disch := first | omega | (simp only [add_nx, upd_nx] <;> omega) | decide) only [rUz, ↓reduceIte, Nat.reduceEqDiff, Nat.reduceAdd]
  repeat refine S.seq ?_
  refine S.region ?_
  simp (disch := first | omega | (simp only [add_nx, upd_nx] <;> omega) | decide) only [rUz, ↓reduceIte, Nat.reduceEqDiff, Nat.reduceAdd]
  repeat refine S.seq ?_
  refine S.block ?_
  refine S.loop (ι := Nat) (IBk l h0 sv) (fun k => l.length - k) ?_ 0 _ _ ?_
  rotate_left
  · refine ⟨Kp.refl, ⟨nl, 0, .inl ⟨rfl, rfl⟩, ?_⟩, ?_, ?_, Nat.zero_le _⟩
    all_goals (first | rfl | (simp (disch := first | omega | (simp only [add_nx, upd_nx] <;> omega) | decide) only [rUz, ↓reduceIte, Nat.reduceEqDiff, Nat.reduceAdd]; done) | (simp (disch := first | omega | (simp only [add_nx, upd_nx] <;> omega) | decide) only [rUz, ↓reduceIte, Nat.reduceEqDiff, Nat.reduceAdd]; rfl))
  intro k t h ⟨kp, ⟨u, F, app, t3⟩, t0, t4, hk⟩ K' hn he
  have lS := fun t h1 o => row_len (SlAt.mono hs kp) iscS t h1 o
  repeat refine S.seq ?_
  refine S.region ?_
  simp (disch := first | omega | (simp only [add_nx, upd_nx] <;> omega) | decide) only [rUz, ↓reduceIte, Nat.reduceEqDiff, Nat.reduceAdd, t0, t4, lS]
  repeat refine S.seq ?_
  refine S.cond (v := decide ((k : Int) < (l.length : Int))) (by first | rfl | (simp (disch := first | omega | (simp only [add_nx, upd_nx] <;> omega) | decide) only [rUz, ↓reduceIte, Nat.reduceEqDiff, Nat.reduceAdd] <;> rfl)) (fun e => ?_) (fun e => ?_)
  · have hkn : k < l.length := by have := of_decide_eq_true e; omega
    clear e
    have hps : l[k]? = some l[k] := List.getElem?_eq_getElem hkn
    have hrows : (l.take (k + 1)).map cSa = (l.take k).map cSa ++ [cSa l[k]] := by rw [take_snoc hkn, List.map_append]; rfl
    generalize l[k] = x at hps hrows
    obtain ⟨b, f, ro, cells, q1, q2, q3, q4, q5, q6⟩ := row_idx (SlAt.mono hs kp) slcS scS hps
    have c0 := q6 0 _ (cSa0 x)
    have c1 := q6 1 _ (cSa1 x)
    have c2' := q6 2 _ (cSa2 x)
    have c3' := q6 3 _ (cSa3 x)
    rw [Nat.add_zero] at c0
    repeat refine S.seq ?_
    refine S.skip ?_
    simp (disch := first | omega | (simp only [add_nx, upd_nx] <;> omega) | decide) only [rUz, ↓reduceIte, Nat.reduceEqDiff, Nat.reduceAdd]
    repeat refine S.seq ?_
    refine S.block ?_
    repeat refine S.seq ?_
    refine S.drawnL [(false, 0), (false, 0), (false, 0), (false, 6), (false, 14), (false, 30), (false, 0), (false, 0), (false, 192), (false, 448), (false, 960), (false, 0), (false, 0), (false, 6144), (false, 14336), (false, 30720), (false, 0), (false, 0), (false, 196608), (false, 458752), (false, 983040), (false, 2097150), (true, 4194302), (true, 8388607), (false, 16777215)] (by kernel_rfl) (by kernel_rfl) (by kernel_rfl) ?_
    simp (disch := first | omega | (simp only [add_nx, upd_nx] <;> omega) | decide) only [rUz, ↓reduceIte, Nat.reduceEqDiff, Nat.reduceAdd, rDz, infoL, Nat.reduceSub, t0, t3, t4, q1, q3, fieldAddr_ptr fcS0 s3, fieldAddr_ptr fcS1 s3, fieldAddr_ptr fcS2 s3, fieldAddr_ptr fcS3 s3, p3, c0, c1, c2', c3', rd_build, List.map_cons, List.map_nil, brSx]
    refine drW_give (v := .slice (some ⟨h.nx, 0, none⟩) 1 1) (h' := h.add (cSa x)) (aw_lit1 slrS srS zrS rfl (by omega) (u := .agg ⟨cSa x⟩) (l := cSa x) (by simp (disch := first | omega | (simp only [add_nx, upd_nx] <;> omega) | decide) only [rUz, ↓reduceIte, Nat.reduceEqDiff, Nat.reduceAdd]) rfl rfl) (Nat.le_of_ble_eq_true rfl) ?_ ?_
    · try simp (disch := first | decide | rfl) only [again_nil, again_skip, again_free]
    simp (disch := first | omega | (simp only [add_nx, upd_nx] <;> omega) | decide) only [rUz, ↓reduceIte, Nat.reduceEqDiff, Nat.reduceAdd, rDz, infoL, Nat.reduceSub]
    refine drW_app (bx := h.nx) (cx := 1) (v := u) slrS urS (by simp (disch := first | omega | (simp only [add_nx, upd_nx] <;> omega) | decide) only [rUz, ↓reduceIte, Nat.reduceEqDiff, Nat.reduceAdd, rDz, infoL, Nat.reduceSub]) (by simp (disch := first | omega | (simp only [add_nx, upd_nx] <;> omega) | decide) only [rUz, ↓reduceIte, Nat.reduceEqDiff, Nat.reduceAdd, rDz, infoL, Nat.reduceSub]) (app.mono Kp.refl.add) (by have := kp.1; show h0.nx ≤ h.nx + 1; omega) srS rfl (by omega) (ag_eq rfl) nrS (by rw [List.length_map, List.length_take]; show _ < 1000000; omega) (Nat.le_of_ble_eq_true rfl) ?_
    intro v3 h3 F3 gr
    refine ⟨?_, ?_⟩
    · try simp (disch := first | decide | rfl) only [again_nil, again_skip, again_free]
    simp (disch := first | omega | (simp only [add_nx, upd_nx] <;> omega) | decide) only [rUz, ↓reduceIte, Nat.reduceEqDiff, Nat.reduceAdd, rDz, infoL, Nat.reduceSub]
    repeat refine S.seq ?_
    refine S.region ?_
    simp (disch := first | omega | (simp only [add_nx, upd_nx] <;> omega) | decide) only [rUz, ↓reduceIte, Nat.reduceEqDiff, Nat.reduceAdd, t4]
    have hkp' : Kp h0 h3 := gr.sm.kp (Nat.le_refl _) (kp.trans (Kp.refl.add (c := cSa x)))
    refine hn (k + 1) _ _ (by omega) ⟨hkp', ⟨v3, F3, by rw [hrows]; exact gr.app, ?_⟩, ?_, ?_, by omega⟩
    all_goals (first | rfl | (simp (disch := first | omega | (simp only [add_nx, upd_nx] <;> omega) | decide) only [rUz, ↓reduceIte, Nat.reduceEqDiff, Nat.reduceAdd, t0]; done) | (simp (disch := first | omega | (simp only [add_nx, upd_nx] <;> omega) | decide) only [rUz, ↓reduceIte, Nat.reduceEqDiff, Nat.reduceAdd, t0]; rfl))
  have hkn : k = l.length := by have := of_decide_eq_false e; omega
  subst hkn
  rw [List.take_of_length_le (Nat.le_refl _)] at app
  refine S.exit (he _ _ _ _ (fun e => by cases e) ?_)
  simp (disch := first | omega | (simp only [add_nx, upd_nx] <;> omega) | decide) only [rUz, ↓reduceIte, Nat.reduceEqDiff, Nat.reduceAdd]
  repeat refine S.seq ?_
  refine S.region ?_
  simp (disch := first | omega | (simp only [add_nx, upd_nx] <;> omega) | decide) only [rUz, ↓reduceIte, Nat.reduceEqDiff, Nat.reduceAdd, t3]
  refine S.ret ?_
  try simp only [seqK_ret, blockK_ret]
  subst hF
  simp only [finish, endMarks]
  rw [show Tryz.f19.results.toList = [.tmp 2] from rfl]
  simp (disch := first | omega | (simp only [add_nx, upd_nx] <;> omega) | decide) only [resA, ev_tmp, tget_ne, tget_eq, get_ne, get_eq, upd_eq, upd_ne, ag_eq, ag_ne, result1]
  exact hK _ _ kp app.at
end Go.Proofs.Po
