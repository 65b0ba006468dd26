import Derived.Test.YtemmpnipmklacaaRn3
namespace Go.Proofs.Rg
open Go Go.Ev
set_option linter.unusedSimpArgs false

theorem zB : zeroOf Try.prog 33 = some (.agg ⟨[iv 0, .slice none 0 0]⟩) := by kernel_rfl
theorem sB : sizeB Try.prog 33 = some 2 := by kernel_rfl
theorem bB (hs : Int) : rBuild Try.prog 33 [(0, iv hs)] = some (.agg ⟨[iv hs, .slice none 0 0]⟩) := by kernel_rfl
theorem bL (a b c d : Int) : rBuild Try.prog 75 [(0, iv a), (1, iv b), (2, iv c), (3, iv d)] = some (.agg ⟨[iv a, iv b, iv c, iv d]⟩) := by kernel_rfl
theorem uBc : Try.prog.underlying 31 = some (.slice 75) := by kernel_rfl
theorem nL : numOk Try.prog 75 1 = true := by kernel_rfl

def OA (cs : List C4) (h0 : AHeap) (cv : Value) (hs : Int) (lo B1 B2 B3 : Nat) (k : Nat) (t : T Value) (h : AHeap) : Prop :=
  k ≤ cs.length ∧ Kp h0 h ∧ lo ≤ h.nx ∧ tget t 1 = ptr0 B1 ∧ tget t 2 = ptr0 B2 ∧ tget t 3 = ptr0 B3 ∧ tget t 4 = iv (k : Int) ∧
  h.bl.get B1 = some (.cells [iv hs, cv] B1 false) ∧ h.bl.get B2 = some (.cells [iv 0, .slice none 0 0] B2 false) ∧ h.fams.get B2 = some [B2] ∧ h.fams.get B3 = some [B3] ∧
  ∃ (v : Value) (F : Nat), h.bl.get B3 = some (.cells [iv hs, v] B3 false) ∧ App lo h 4 v ((cs.take k).map cc) F ∧ F < h.nx

variable {pr : Prim} {R : ExT}
set_option maxHeartbeats 8000000 in
theorem book_y (S : Ev.Steps Try.prog pr R) (h0 : AHeap) (cv : Value) (hs : Int) (cs : List C4) (hc : CAt h0 cv cs) (hsz : cs.length ≤ 12) :
    Brings Try.prog R 11 [.agg ⟨[iv hs, cv]⟩] h0 fun v h => ∃ cv', v = .agg ⟨[iv hs, cv']⟩ ∧ CAt h cv' cs := by
  refine brings_of (fn := Try.f11) (c := (Try.f11.body).getD .skip) (by kernel_rfl) rfl (by kernel_rfl) rfl (fun K hK => ?_)
  generalize hF : finish Try.prog Try.f11 K = KF
  simp only [Try.f11, Option.getD_some, argsT, setArgs, fV1_eq, T.setK_eq, id]
  have hlen := fun t h1 o => hc.len isA t h1 o
  repeat refine S.seq ?_
  refine S.region ?_
  simp (disch := first | omega | (simp only [add_nx, upd_nx] <;> omega) | decide) only [rUz, ↓reduceIte, Nat.reduceEqDiff, Nat.reduceAdd, wr_alloc zB]
  repeat refine S.seq ?_
  refine S.region ?_
  simp (disch := first | omega | (simp only [add_nx, upd_nx] <;> omega) | decide) only [rUz, ↓reduceIte, Nat.reduceEqDiff, Nat.reduceAdd, fieldAddr_ptr fA0 s3, p3, rd_build, w_build, List.map_cons, List.map_nil, bB, wr_alloc zB]
  refine wr_storeN (B := h0.nx + 1 + 1) (c := [iv 0, .slice none 0 0]) (fam := h0.nx + 1 + 1) (k := h0.nx + 1 + 1) (l := [iv hs, .slice none 0 0]) (by simp (disch := first | omega | (simp only [add_nx, upd_nx] <;> omega) | decide) only [rUz, ↓reduceIte, Nat.reduceEqDiff, Nat.reduceAdd]) (by simp (disch := first | omega | (simp only [add_nx, upd_nx] <;> omega) | decide) only [rUz, ↓reduceIte, Nat.reduceEqDiff, Nat.reduceAdd]) sB (by omega) rfl (by simp (disch := first | omega | (simp only [add_nx, upd_nx] <;> omega) | decide) only [rUz, ↓reduceIte, Nat.reduceEqDiff, Nat.reduceAdd]) (by simp (disch := first | omega | (simp only [add_nx, upd_nx] <;> omega) | decide) only [rUz, ↓reduceIte, Nat.reduceEqDiff, Nat.reduceAdd]) rfl ?_
  simp (disch := first | omega | (simp only [add_nx, upd_nx] <;> omega) | decide) only [rUz, ↓reduceIte, Nat.reduceEqDiff, Nat.reduceAdd]
  repeat refine S.seq ?_
  refine S.region ?_
  simp (disch := first | omega | (simp only [add_nx, upd_nx] <;> omega) | decide) only [rUz, ↓reduceIte, Nat.reduceEqDiff, Nat.reduceAdd]
  repeat refine S.seq ?_
  refine S.block ?_
  obtain ⟨lo, hlo0⟩ : ∃ x, x = h0.nx + 3 := ⟨_, rfl⟩
  obtain ⟨B1, hB1⟩ : ∃ x, x = h0.nx := ⟨_, rfl⟩
  obtain ⟨B2, hB2⟩ : ∃ x, x = h0.nx + 1 := ⟨_, rfl⟩
  obtain ⟨B3, hB3⟩ : ∃ x, x = h0.nx + 1 + 1 := ⟨_, rfl⟩
  refine S.loop (ι := Nat) (OA cs h0 cv hs lo B1 B2 B3) (fun k => cs.length - k) ?_ 0 _ _ ?_
  · intro k t h ⟨hk, hkp, hlo, t1, t2, t3, t4, hb1, hb2, hf2, hf3, v, F, hb3, happ, hFlt⟩ K' hn he
    have hc1 : CAt h cv cs := hc.mono hkp
    repeat refine S.seq ?_
    refine S.region ?_
    simp (disch := first | omega | (simp only [add_nx, upd_nx] <;> omega) | decide) only [rUz, ↓reduceIte, Nat.reduceEqDiff, Nat.reduceAdd, t1, t4, hb1, fieldAddr_ptr fA1 sAc, pAc, hlen]
    repeat refine S.seq ?_
    refine S.cond (v := decide ((k : Int) < (cs.length : Int))) (by first | rfl | (simp (disch := first | omega | (simp only [add_nx, upd_nx] <;> omega) | decide) only [rUz, ↓reduceIte, Nat.reduceEqDiff, Nat.reduceAdd] <;> rfl)) (fun e => ?_) (fun e => ?_)
    · have hkn : k < cs.length := by have := of_decide_eq_true e; omega
      clear e
      have hps : cs[k]? = some cs[k] := List.getElem?_eq_getElem hkn
      generalize cs[k] = c at hps
      obtain ⟨b, f, ro, cells, q1, q2, q3, q4, q5, _⟩ := hc1.idx slA sK hps
      have qp := part_cc pK q4 q5
      repeat refine S.seq ?_
      refine S.skip ?_
      simp (disch := first | omega | (simp only [add_nx, upd_nx] <;> omega) | decide) only [rUz, ↓reduceIte, Nat.reduceEqDiff, Nat.reduceAdd]
      repeat refine S.seq ?_
      refine S.block ?_
      repeat refine S.seq ?_
      refine S.region ?_
      simp (disch := first | omega | (simp only [add_nx, upd_nx] <;> omega) | decide) only [rUz, ↓reduceIte, Nat.reduceEqDiff, Nat.reduceAdd, t1, t4, fieldAddr_ptr fA1 sAc, pAc, hb1, q1, q3, qp, wr_alloc zK]
      refine wr_storeN (B := h.nx) (c := [iv 0, iv 0, iv 0, iv 0]) (fam := h.nx) (k := h.nx) (l := cc c) (by simp (disch := first | omega | (simp only [add_nx, upd_nx] <;> omega) | decide) only [rUz, ↓reduceIte, Nat.reduceEqDiff, Nat.reduceAdd]) (by simp (disch := first | omega | (simp only [add_nx, upd_nx] <;> omega) | decide) only [rUz, ↓reduceIte, Nat.reduceEqDiff, Nat.reduceAdd]) sK (by omega) rfl (ag_eq rfl) (af_eq rfl) rfl ?_
      have hk4 : Kp h ((h.add [iv 0, iv 0, iv 0, iv 0]).upd h.nx (cc c) h.nx) := Kp.refl.add.upd (Nat.le_refl _)
      have hg4 : ((h.add [iv 0, iv 0, iv 0, iv 0]).upd h.nx (cc c) h.nx).bl.get h.nx = some (.cells (cc c) h.nx false) := upd_eq _ _ _
      simp (disch := first | omega | (simp only [add_nx, upd_nx] <;> omega) | decide) only [rUz, ↓reduceIte, Nat.reduceEqDiff, Nat.reduceAdd]
      generalize (h.add [iv 0, iv 0, iv 0, iv 0]).upd h.nx (cc c) h.nx = h4 at hk4 hg4 ⊢
      generalize h.nx = B4 at hg4 ⊢
      have hlo4 : lo ≤ h4.nx := Nat.le_trans hlo hk4.1
      have hb3' := (hk4.get (by omega : B3 < h.nx)).trans hb3
      have hf3' := (hk4.fget (by omega : B3 < h.nx)).trans hf3
      repeat refine S.seq ?_
      refine S.region ?_
      simp (disch := first | omega | (simp only [add_nx, upd_nx] <;> omega) | decide) only [rUz, ↓reduceIte, Nat.reduceEqDiff, Nat.reduceAdd, t3, hb3', hg4, fieldAddr_ptr fB1 sBc, pBc, p3, fieldAddr_ptr fK0 s3, fieldAddr_ptr fK1 s3, fieldAddr_ptr fK2 s3, fieldAddr_ptr fK3 s3, cc0, cc1, cc2, cc3, rd_build, w_build, List.map_cons, List.map_nil, bL, w_buildSlice, w_append]
      refine wr_lit1 slB sL zL rfl (by omega) (u := .agg ⟨cc c⟩) (l := cc c) (by simp (disch := first | omega | (simp only [add_nx, upd_nx] <;> omega) | decide) only [rUz, ↓reduceIte, Nat.reduceEqDiff, Nat.reduceAdd]; rfl) rfl rfl ?_
      simp (disch := first | omega | (simp only [add_nx, upd_nx] <;> omega) | decide) only [rUz, ↓reduceIte, Nat.reduceEqDiff, Nat.reduceAdd, w_append]
      have hbx : (h4.add (cc c)).bl.get h4.nx = some (.cells (cc c) h4.nx false) := ag_eq rfl
      refine wr_append slB uBc (v := v) (bx := h4.nx) (cx := 1) (by simp (disch := first | omega | (simp only [add_nx, upd_nx] <;> omega) | decide) only [rUz, ↓reduceIte, Nat.reduceEqDiff, Nat.reduceAdd]) (by simp (disch := first | omega | (simp only [add_nx, upd_nx] <;> omega) | decide) only [rUz, ↓reduceIte, Nat.reduceEqDiff, Nat.reduceAdd]) ((happ.mono hk4).mono Kp.refl.add) (by show lo ≤ h4.nx + 1; omega) sL rfl (by omega) hbx nL (by rw [List.length_map, List.length_take]; show _ < 1000000; omega) ?_
      intro v3 h3 F3 a1 a2 a3 a4 a5
      obtain ⟨qb, nb, cb, hv3⟩ := a1.sl
      subst hv3
      have hnx4 := hk4.1
      have hb3x : h3.bl.get B3 = some (.cells [iv hs, v] B3 false) := by
        rw [(a2.2 B3 (by omega)).1, ag_ne (by omega)]; exact hb3'
      have hf3x : h3.fams.get B3 = some [B3] := by
        rw [(a2.2 B3 (by omega)).2, af_ne (by omega)]; exact hf3'
      simp (disch := first | omega | (simp only [add_nx, upd_nx] <;> omega) | decide) only [rUz, ↓reduceIte, Nat.reduceEqDiff, Nat.reduceAdd, t3, fieldAddr_ptr fB1 sBc]
      refine wr_store sBc' ?_
      simp (disch := first | omega | (simp only [add_nx, upd_nx] <;> omega) | decide) only [rUz, ↓reduceIte, Nat.reduceEqDiff, Nat.reduceAdd, stR_sl, hb3x, hf3x, List.length_cons, List.length_nil]
      repeat refine S.seq ?_
      refine S.region ?_
      simp (disch := first | omega | (simp only [add_nx, upd_nx] <;> omega) | decide) only [rUz, ↓reduceIte, Nat.reduceEqDiff, Nat.reduceAdd, t4]
      have hB3lo : B3 < lo := by omega
      have hold : ∀ B, B < lo → B ≠ B3 → (h3.upd B3 ([iv hs, v].set 1 (.slice qb nb cb)) B3).bl.get B = h.bl.get B := fun B hB hne => by
        rw [upd_ne _ _ _ hne, (a2.2 B hB).1, ag_ne (by omega), hk4.get (by omega)]
      have hfold : ∀ B, B < lo → (h3.upd B3 ([iv hs, v].set 1 (.slice qb nb cb)) B3).fams.get B = h.fams.get B := fun B hB => by
        rw [upd_fams, (a2.2 B hB).2, af_ne (by omega), hk4.fget (by omega)]
      refine hn (k + 1) _ _ (by omega) ⟨by omega, (a2.kp (by omega) (hkp.trans hk4).add).upd (by omega), ?_, ?_, ?_, ?_, ?_, ?_, ?_, ?_, ?_, .slice qb nb cb, F3, upd_eq _ _ _, ?_, ?_⟩
      · have := a2.1
        have e2 : (h4.add (cc c)).nx = h4.nx + 1 := rfl
        show lo ≤ h3.nx
        omega
      · simp (disch := first | omega | (simp only [add_nx, upd_nx] <;> omega) | decide) only [rUz, ↓reduceIte, Nat.reduceEqDiff, Nat.reduceAdd, t1]
      · simp (disch := first | omega | (simp only [add_nx, upd_nx] <;> omega) | decide) only [rUz, ↓reduceIte, Nat.reduceEqDiff, Nat.reduceAdd, t2]
      · simp (disch := first | omega | (simp only [add_nx, upd_nx] <;> omega) | decide) only [rUz, ↓reduceIte, Nat.reduceEqDiff, Nat.reduceAdd, t3]
      · simp (disch := first | omega | (simp only [add_nx, upd_nx] <;> omega) | decide) only [rUz, ↓reduceIte, Nat.reduceEqDiff, Nat.reduceAdd]
      · rw [hold B1 (by omega) (by omega)]; exact hb1
      · rw [hold B2 (by omega) (by omega)]; exact hb2
      · rw [hfold B2 (by omega)]; exact hf2
      · rw [hfold B3 (by omega)]; exact hf3
      · rw [List.take_add_one, hps, List.map_append]
        exact a1.upd hB3lo
      · exact a1.fam_lt (by simp)
    · have hkn : k = cs.length := by have := of_decide_eq_false e; omega
      subst hkn
      rw [List.take_of_length_le (Nat.le_refl _)] at happ
      refine S.exit (he _ _ _ _ (fun e => by cases e) ?_)
      simp (disch := first | omega | (simp only [add_nx, upd_nx] <;> omega) | decide) only [rUz, ↓reduceIte, Nat.reduceEqDiff, Nat.reduceAdd]
      repeat refine S.seq ?_
      refine S.region ?_
      simp (disch := first | omega | (simp only [add_nx, upd_nx] <;> omega) | decide) only [rUz, ↓reduceIte, Nat.reduceEqDiff, Nat.reduceAdd, t2, t3, hb3, pB]
      refine wr_storeN (B := B2) (c := [iv 0, .slice none 0 0]) (fam := B2) (k := B2) (l := [iv hs, v]) (by simp (disch := first | omega | (simp only [add_nx, upd_nx] <;> omega) | decide) only [rUz, ↓reduceIte, Nat.reduceEqDiff, Nat.reduceAdd, t2]) (by simp (disch := first | omega | (simp only [add_nx, upd_nx] <;> omega) | decide) only [rUz, ↓reduceIte, Nat.reduceEqDiff, Nat.reduceAdd]) sB (by omega) rfl hb2 hf2 rfl ?_
      simp (disch := first | omega | (simp only [add_nx, upd_nx] <;> omega) | decide) only [rUz, ↓reduceIte, Nat.reduceEqDiff, Nat.reduceAdd]
      refine S.ret ?_
      try simp only [seqK_ret, blockK_ret]
      subst hF
      simp only [finish, endMarks]
      rw [show Try.f11.results.toList = [.cell 2 33] from rfl]
      simp (disch := first | omega | (simp only [add_nx, upd_nx] <;> omega) | decide) only [resA, ev_tmp, tget_ne, tget_eq, get_ne, get_eq, upd_eq, upd_ne, ag_eq, ag_ne, result1, t2, pB]
      exact hK _ _ (hkp.upd (by omega)) ⟨v, rfl, (happ.upd (by omega)).at⟩
  · subst hlo0 hB1 hB2 hB3
    refine ⟨Nat.zero_le _, Kp.refl.add.add.add.upd (by omega), Nat.le_refl _, ?_, ?_, ?_, ?_, ?_, ?_, ?_, ?_, .slice none 0 0, 0, ?_, .inl ⟨rfl, rfl⟩, (by show 0 < h0.nx + 3; omega)⟩
    all_goals (first | rfl | (simp (disch := first | omega | (simp only [add_nx, upd_nx] <;> omega) | decide) only [rUz, ↓reduceIte, Nat.reduceEqDiff, Nat.reduceAdd]; done) | (simp (disch := first | omega | (simp only [add_nx, upd_nx] <;> omega) | decide) only [rUz, ↓reduceIte, Nat.reduceEqDiff, Nat.reduceAdd]; rfl))
end Go.Proofs.Rg
