import Derived.Test.YtkocecoddghmbaaGreatPoN
/- How orders come, by the reference; sales compared and converted. -/
namespace Go.Proofs.Po
open Go Go.Ev Go.RowKit
set_option linter.unusedSimpArgs false
variable {pr : Prim} {R : ExT}
theorem atM_len (m : Int) : ∀ (l : List Int) (k : Nat), (atM m l k).length ≤ l.length
  | [], _ => by simp [atM]
  | a :: r, k => by
    have := atM_len m r (k + 1)
    unfold atM
    cases decide (a = m) with
    | true => simp only [cond_true, List.length_cons]; omega
    | false => simp only [cond_false, List.length_cons]; omega
theorem cmU_len (t : List Int) : ∀ j, (cmU t j).length ≤ j * t.length
  | 0 => by simp [cmU]
  | j + 1 => by
    have h1 := cmU_len t j
    have h2 := atM_len (j : Int) t 0
    unfold cmU
    rw [List.length_append, Nat.succ_mul]; omega
def snds (L : List AR) : List (List Value) := (L.map fun x => x.2).map cn
theorem snds_app (A B : List AR) : snds (A ++ B) = snds A ++ snds B := by unfold snds; rw [List.map_append, List.map_append]
theorem snds_len (A : List AR) : (snds A).length = A.length := by unfold snds; rw [List.length_map, List.length_map]
theorem App.blk_ge {lo : Nat} {h : AHeap} {sz F b : Nat} {v : Value} {cs : List (List Value)} (k : App lo h sz v cs F) (hb : blk v = some b) : lo ≤ b := by
  rcases k with ⟨_, rfl⟩ | ⟨b', l, _, rfl, hlo, _⟩
  · cases hb
  · cases hb; exact hlo
theorem slAt_ne {h0 h : AHeap} {sz : Nat} {v : Value} {cs : List (List Value)} (k : SlAt h0 sz v cs) (hn : h0.nx ≤ h.nx) (hg : ∀ j, blk v = some j → j < h0.nx → h.bl.get j = h0.bl.get j) : SlAt h sz v cs := by
  rcases k with k | ⟨b, cap, f, ro, k1, rfl, k3, k4, k5⟩
  · exact .inl k
  · exact .inr ⟨b, cap, f, ro, k1, rfl, Nat.lt_of_lt_of_le k3 hn, (hg b rfl k3).trans k4, k5⟩
structure ICm (t0 : List Int) (H : AHeap) (tv : Value) (m : Nat) (t : T Value) (h : AHeap) : Prop where
  kp : Kp H h
  ex : ∃ u F, App H.nx h 1 u (snds (cmU t0 m)) F ∧ tget t 5 = u
  t1 : tget t 1 = tv
  t6 : tget t 6 = iv (m : Int)
  hm : m ≤ 31
structure ICi (t0 : List Int) (H : AHeap) (tv : Value) (m : Nat) (i : Nat) (t : T Value) (h : AHeap) : Prop where
  kp : Kp H h
  ex : ∃ u F, App H.nx h 1 u (snds (cmU t0 m ++ atM (m : Int) (t0.take i) 0)) F ∧ tget t 5 = u
  t1 : tget t 1 = tv
  t6 : tget t 6 = iv (m : Int)
  t7 : tget t 7 = iv (i : Int)
  hi : i ≤ t0.length
set_option maxHeartbeats 16000000 in
theorem comes_y (S : Ev.Steps Tryz.prog pr R) (h0 : AHeap) (v tv : Value) (t0 : List Int) (ht : IAt h0 tv t0) (h11 : t0.length ≤ 11) :
    Brings Tryz.prog R 39 [.agg ⟨poV v⟩, tv] h0 fun u h => SlAt h 1 u ((ordZ t0).map cn) ∧ ∀ b, blk u = some b → h0.nx ≤ b := by
  refine brings_of (fn := Tryz.f39) (c := (Tryz.f39.body).getD .skip) (by kernel_rfl) rfl (by kernel_rfl) rfl (fun K hK => ?_)
  generalize hF : finish Tryz.prog Tryz.f39 K = KF
  simp only [Tryz.f39, Option.getD_some, argsT, setArgs, fV1_eq, T.setK_eq, id]
  repeat refine S.seq ?_
  refine S.region ?_
  simp (disch := first | omega | (simp only [add_nx, upd_nx] <;> omega) | decide) only [rUz, ↓reduceIte, Nat.reduceEqDiff, Nat.reduceAdd]
  have hk1 : Kp h0 (h0.add (poV v)) := Kp.refl.add
  generalize h0.add (poV v) = H at hk1 ⊢
  have htH := ht.mono hk1
  repeat refine S.seq ?_
  refine S.region ?_
  simp (disch := first | omega | (simp only [add_nx, upd_nx] <;> omega) | decide) only [rUz, ↓reduceIte, Nat.reduceEqDiff, Nat.reduceAdd]
  repeat refine S.seq ?_
  refine S.region ?_
  simp (disch := first | omega | (simp only [add_nx, upd_nx] <;> omega) | decide) only [rUz, ↓reduceIte, Nat.reduceEqDiff, Nat.reduceAdd]
  repeat refine S.seq ?_
  refine S.block ?_
  refine S.loop (ι := Nat) (ICm t0 H tv) (fun m => 31 - m) ?_ 0 _ _ ?_
  rotate_left
  · refine ⟨Kp.refl, ⟨nl, 0, .inl ⟨rfl, rfl⟩, ?_⟩, ?_, ?_, by omega⟩
    all_goals (first | rfl | (simp (disch := first | omega | (simp only [add_nx, upd_nx] <;> omega) | decide) only [rUz, ↓reduceIte, Nat.reduceEqDiff, Nat.reduceAdd]; done) | (simp (disch := first | omega | (simp only [add_nx, upd_nx] <;> omega) | decide) only [rUz, ↓reduceIte, Nat.reduceEqDiff, Nat.reduceAdd]; rfl))
  intro m t h ⟨kp, ⟨u, F, app, t5⟩, t1, t6, hm⟩ K' hn he
  repeat refine S.seq ?_
  refine S.region ?_
  simp (disch := first | omega | (simp only [add_nx, upd_nx] <;> omega) | decide) only [rUz, ↓reduceIte, Nat.reduceEqDiff, Nat.reduceAdd, t6]
  repeat refine S.seq ?_
  refine S.cond (v := decide ((m : Int) ≤ 30)) (by first | rfl | (simp (disch := first | omega | (simp only [add_nx, upd_nx] <;> omega) | decide) only [rUz, ↓reduceIte, Nat.reduceEqDiff, Nat.reduceAdd] <;> rfl)) (fun e => ?_) (fun e => ?_)
  · have hm30 : m ≤ 30 := by have := of_decide_eq_true e; omega
    clear e
    repeat refine S.seq ?_
    refine S.skip ?_
    simp (disch := first | omega | (simp only [add_nx, upd_nx] <;> omega) | decide) only [rUz, ↓reduceIte, Nat.reduceEqDiff, Nat.reduceAdd]
    repeat refine S.seq ?_
    refine S.block ?_
    repeat refine S.seq ?_
    refine S.region ?_
    simp (disch := first | omega | (simp only [add_nx, upd_nx] <;> omega) | decide) only [rUz, ↓reduceIte, Nat.reduceEqDiff, Nat.reduceAdd]
    repeat refine S.seq ?_
    refine S.block ?_
    refine S.loop (ι := Nat) (ICi t0 H tv m) (fun i => t0.length - i) ?_ 0 _ _ ?_
    rotate_left
    · refine ⟨kp, ⟨u, F, ?_, ?_⟩, ?_, ?_, ?_, Nat.zero_le _⟩
      · rw [List.take_zero]; unfold atM; rw [List.append_nil]; exact app
      all_goals (first | rfl | (simp (disch := first | omega | (simp only [add_nx, upd_nx] <;> omega) | decide) only [rUz, ↓reduceIte, Nat.reduceEqDiff, Nat.reduceAdd, t1, t5, t6]; done) | (simp (disch := first | omega | (simp only [add_nx, upd_nx] <;> omega) | decide) only [rUz, ↓reduceIte, Nat.reduceEqDiff, Nat.reduceAdd, t1, t5, t6]; rfl))
    clear t1 t5 t6 app kp
    clear t h
    intro i t h ⟨kp, ⟨u, F, app, t5⟩, t1, t6, t7, hi⟩ K2 hn2 he2
    have lT := fun t h1 o => iv_len (htH.mono kp) t h1 o
    repeat refine S.seq ?_
    refine S.region ?_
    simp (disch := first | omega | (simp only [add_nx, upd_nx] <;> omega) | decide) only [rUz, ↓reduceIte, Nat.reduceEqDiff, Nat.reduceAdd, t1, t7, lT]
    repeat refine S.seq ?_
    refine S.cond (v := decide ((i : Int) < (t0.length : Int))) (by first | rfl | (simp (disch := first | omega | (simp only [add_nx, upd_nx] <;> omega) | decide) only [rUz, ↓reduceIte, Nat.reduceEqDiff, Nat.reduceAdd] <;> rfl)) (fun e => ?_) (fun e => ?_)
    · have hin : i < t0.length := by have := of_decide_eq_true e; omega
      clear e
      obtain ⟨rb, rf, rw0, r1, r2, r3, r4⟩ := (htH.mono kp).idx slI s3' hin
      have htk : t0.take (i + 1) = t0.take i ++ [t0[i]] := take_snoc hin
      have hsn := atM_snoc (m : Int) t0[i] (t0.take i) 0
      rw [List.length_take, Nat.min_eq_left hi, Nat.zero_add, ← htk] at hsn
      have hlen : (snds (cmU t0 m ++ atM (m : Int) (t0.take i) 0)).length ≤ 400 := by
        have e1 := cmU_len t0 m
        have e2 := atM_len (m : Int) (t0.take i) 0
        have e3 : m * t0.length ≤ 30 * 11 := Nat.mul_le_mul hm30 h11
        rw [snds_len, List.length_append]
        rw [List.length_take] at e2
        omega
      generalize t0[i] = z at r4 hsn
      repeat refine S.seq ?_
      refine S.skip ?_
      simp (disch := first | omega | (simp only [add_nx, upd_nx] <;> omega) | decide) only [rUz, ↓reduceIte, Nat.reduceEqDiff, Nat.reduceAdd]
      repeat refine S.seq ?_
      refine S.block ?_
      repeat refine S.seq ?_
      refine S.region ?_
      simp (disch := first | omega | (simp only [add_nx, upd_nx] <;> omega) | decide) only [rUz, ↓reduceIte, Nat.reduceEqDiff, Nat.reduceAdd, t1, t6, t7, r1, r3, p3, r4]
      cases hz : decide (z = (m : Int)) with
      | true =>
        rw [hz, cond_true] at hsn
        repeat refine S.seq ?_
        refine S.cond (v := true) (by first | rfl | (simp (disch := first | omega | (simp only [add_nx, upd_nx] <;> omega) | decide) only [rUz, ↓reduceIte, Nat.reduceEqDiff, Nat.reduceAdd, hz] <;> rfl)) (fun _ => ?_) (fun e => by cases e)
        repeat refine S.seq ?_
        refine S.region ?_
        simp (disch := first | omega | (simp only [add_nx, upd_nx] <;> omega) | decide) only [rUz, ↓reduceIte, Nat.reduceEqDiff, Nat.reduceAdd, t5, t7, w_buildSlice]
        refine wr_lit1 slI s3' z3 rfl (by omega) (u := iv (i : Int)) (l := cn i) (by simp (disch := first | omega | (simp only [add_nx, upd_nx] <;> omega) | decide) only [rUz, ↓reduceIte, Nat.reduceEqDiff, Nat.reduceAdd]) rfl rfl ?_
        simp (disch := first | omega | (simp only [add_nx, upd_nx] <;> omega) | decide) only [rUz, ↓reduceIte, Nat.reduceEqDiff, Nat.reduceAdd, w_append]
        refine wr_append (bx := h.nx) (cx := 1) (v := u) slI uI (by simp (disch := first | omega | (simp only [add_nx, upd_nx] <;> omega) | decide) only [rUz, ↓reduceIte, Nat.reduceEqDiff, Nat.reduceAdd, t5]) (by simp (disch := first | omega | (simp only [add_nx, upd_nx] <;> omega) | decide) only [rUz, ↓reduceIte, Nat.reduceEqDiff, Nat.reduceAdd]) (app.mono (Kp.refl.add (c := cn i))) (by have := kp.1; show H.nx ≤ h.nx + 1; omega) s3' rfl (by omega) (ag_eq rfl) nI (by show _ < 1000000; omega) ?_
        intro v' h' F' app' sm _ _ _
        have hkp' : Kp H h' := sm.kp (Nat.le_refl _) (kp.trans (Kp.refl.add (c := cn i)))
        have hl' : snds (cmU t0 m ++ atM (m : Int) (t0.take (i + 1)) 0) = snds (cmU t0 m ++ atM (m : Int) (t0.take i) 0) ++ [cn i] := by
          rw [hsn, ← List.append_assoc, snds_app]; rfl
        simp (disch := first | omega | (simp only [add_nx, upd_nx] <;> omega) | decide) only [rUz, ↓reduceIte, Nat.reduceEqDiff, Nat.reduceAdd]
        repeat refine S.seq ?_
        refine S.region ?_
        simp (disch := first | omega | (simp only [add_nx, upd_nx] <;> omega) | decide) only [rUz, ↓reduceIte, Nat.reduceEqDiff, Nat.reduceAdd, t7]
        refine hn2 (i + 1) _ _ (by omega) ⟨hkp', ⟨v', F', by rw [hl']; exact app', ?_⟩, ?_, ?_, ?_, by omega⟩
        all_goals (first | rfl | (simp (disch := first | omega | (simp only [add_nx, upd_nx] <;> omega) | decide) only [rUz, ↓reduceIte, Nat.reduceEqDiff, Nat.reduceAdd, t1, t6]; done) | (simp (disch := first | omega | (simp only [add_nx, upd_nx] <;> omega) | decide) only [rUz, ↓reduceIte, Nat.reduceEqDiff, Nat.reduceAdd, t1, t6]; rfl))
      | false =>
        rw [hz, cond_false, List.append_nil] at hsn
        repeat refine S.seq ?_
        refine S.cond (v := false) (by first | rfl | (simp (disch := first | omega | (simp only [add_nx, upd_nx] <;> omega) | decide) only [rUz, ↓reduceIte, Nat.reduceEqDiff, Nat.reduceAdd, hz] <;> rfl)) (fun e => by cases e) (fun _ => ?_)
        repeat refine S.seq ?_
        refine S.skip ?_
        simp (disch := first | omega | (simp only [add_nx, upd_nx] <;> omega) | decide) only [rUz, ↓reduceIte, Nat.reduceEqDiff, Nat.reduceAdd]
        repeat refine S.seq ?_
        refine S.region ?_
        simp (disch := first | omega | (simp only [add_nx, upd_nx] <;> omega) | decide) only [rUz, ↓reduceIte, Nat.reduceEqDiff, Nat.reduceAdd, t7]
        refine hn2 (i + 1) _ _ (by omega) ⟨kp, ⟨u, F, by rw [hsn]; exact app, ?_⟩, ?_, ?_, ?_, by omega⟩
        all_goals (first | rfl | (simp (disch := first | omega | (simp only [add_nx, upd_nx] <;> omega) | decide) only [rUz, ↓reduceIte, Nat.reduceEqDiff, Nat.reduceAdd, t1, t5, t6]; done) | (simp (disch := first | omega | (simp only [add_nx, upd_nx] <;> omega) | decide) only [rUz, ↓reduceIte, Nat.reduceEqDiff, Nat.reduceAdd, t1, t5, t6]; rfl))
    have hin : i = t0.length := by have := of_decide_eq_false e; omega
    subst hin
    rw [List.take_of_length_le (Nat.le_refl _)] at app
    refine S.exit (he2 _ _ _ _ (fun e => by cases e) ?_)
    simp (disch := first | omega | (simp only [add_nx, upd_nx] <;> omega) | decide) only [rUz, ↓reduceIte, Nat.reduceEqDiff, Nat.reduceAdd]
    repeat refine S.seq ?_
    refine S.region ?_
    simp (disch := first | omega | (simp only [add_nx, upd_nx] <;> omega) | decide) only [rUz, ↓reduceIte, Nat.reduceEqDiff, Nat.reduceAdd, t6]
    refine hn (m + 1) _ _ (by omega) ⟨kp, ⟨u, F, app, ?_⟩, ?_, ?_, by omega⟩
    all_goals (first | rfl | (simp (disch := first | omega | (simp only [add_nx, upd_nx] <;> omega) | decide) only [rUz, ↓reduceIte, Nat.reduceEqDiff, Nat.reduceAdd, t1, t5]; done) | (simp (disch := first | omega | (simp only [add_nx, upd_nx] <;> omega) | decide) only [rUz, ↓reduceIte, Nat.reduceEqDiff, Nat.reduceAdd, t1, t5]; rfl))
  have hm31 : m = 31 := by have := of_decide_eq_false e; omega
  subst hm31
  refine S.exit (he _ _ _ _ (fun e => by cases e) ?_)
  simp (disch := first | omega | (simp only [add_nx, upd_nx] <;> omega) | decide) only [rUz, ↓reduceIte, Nat.reduceEqDiff, Nat.reduceAdd]
  repeat refine S.seq ?_
  refine S.region ?_
  simp (disch := first | omega | (simp only [add_nx, upd_nx] <;> omega) | decide) only [rUz, ↓reduceIte, Nat.reduceEqDiff, Nat.reduceAdd, t5]
  refine S.ret ?_
  try simp only [seqK_ret, blockK_ret]
  subst hF
  simp only [finish, endMarks]
  rw [show Tryz.f39.results.toList = [.tmp 4] from rfl]
  simp (disch := first | omega | (simp only [add_nx, upd_nx] <;> omega) | decide) only [resA, ev_tmp, tget_ne, tget_eq, get_ne, get_eq, upd_eq, upd_ne, ag_eq, ag_ne, result1]
  exact hK _ _ (hk1.trans kp) ⟨app.at, fun b hb => Nat.le_trans hk1.1 (App.blk_ge app hb)⟩
/-! ## Sales -/
end Go.Proofs.Po
