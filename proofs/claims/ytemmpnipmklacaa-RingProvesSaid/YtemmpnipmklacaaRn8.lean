import Derived.Test.YtemmpnipmklacaaRn7
namespace Go.Proofs.Rg
open Go Go.Ev
set_option linter.unusedSimpArgs false

/-! ## The greatest of numbers -/
variable {pr : Prim} {R : ExT}
def IG (l : List Int) (a : Int) (h0 : AHeap) (v : Value) (k : Nat) (t : T Value) (h : AHeap) : Prop :=
  k ≤ l.length ∧ h = h0 ∧ tget t 7 = v ∧ tget t 8 = iv (l.length : Int) ∧ tget t 9 = iv (k : Int) ∧ ∃ x, tget t 0 = iv x ∧ (l.drop k).foldl max2 x = l.foldl max2 a
set_option maxHeartbeats 8000000 in
theorem greatest_y (S : Ev.Steps Try.prog pr R) (h0 : AHeap) (a : Int) (v : Value) (l : List Int) (hl : IAt h0 v l) (hsz : (l.length : Int) ≤ 1000000) :
    Brings Try.prog R 68 [iv a, v] h0 fun u h => u = iv (l.foldl max2 a) ∧ h = h0 := by
  refine brings_of (fn := Try.f68) (c := (Try.f68.body).getD .skip) (by kernel_rfl) rfl (by kernel_rfl) rfl (fun K hK => ?_)
  generalize hF : finish Try.prog Try.f68 K = KF
  simp only [Try.f68, Option.getD_some, argsT, setArgs, fV1_eq, T.setK_eq, id]
  have hlen := fun t h1 o => hl.len isI t h1 o
  repeat refine S.seq ?_
  refine S.region ?_
  simp (disch := first | omega | (simp only [add_nx, upd_nx] <;> omega) | decide) only [rUz, ↓reduceIte, Nat.reduceEqDiff, Nat.reduceAdd]
  repeat refine S.seq ?_
  refine S.region ?_
  simp (disch := first | omega | (simp only [add_nx, upd_nx] <;> omega) | decide) only [rUz, ↓reduceIte, Nat.reduceEqDiff, Nat.reduceAdd, hlen]
  repeat refine S.seq ?_
  refine S.block ?_
  refine S.loop (ι := Nat) (IG l a h0 v) (fun k => l.length - k) ?_ 0 _ _ ?_
  · intro k t h ⟨hk, hh, t7, t8, t9, x, t0, hx⟩ K' hn he
    subst hh
    repeat refine S.seq ?_
    refine S.region ?_
    simp (disch := first | omega | (simp only [add_nx, upd_nx] <;> omega) | decide) only [rUz, ↓reduceIte, Nat.reduceEqDiff, Nat.reduceAdd, t8, t9]
    repeat refine S.seq ?_
    refine S.cond (v := decide ((k : Int) < (l.length : Int))) (by first | rfl | (simp (disch := first | omega | (simp only [add_nx, upd_nx] <;> omega) | decide) only [rUz, ↓reduceIte, Nat.reduceEqDiff, Nat.reduceAdd] <;> rfl)) (fun e => ?_) (fun e => ?_)
    · have hkn : k < l.length := by have := of_decide_eq_true e; omega
      clear e
      obtain ⟨b, f, ro, q1, q2, q3, q4⟩ := hl.idx slI s3' hkn
      rw [List.drop_eq_getElem_cons hkn, List.foldl_cons] at hx
      generalize l[k] = y at q4 hx
      repeat refine S.seq ?_
      refine S.skip ?_
      simp (disch := first | omega | (simp only [add_nx, upd_nx] <;> omega) | decide) only [rUz, ↓reduceIte, Nat.reduceEqDiff, Nat.reduceAdd]
      repeat refine S.seq ?_
      refine S.block ?_
      repeat refine S.seq ?_
      refine S.region ?_
      simp (disch := first | omega | (simp only [add_nx, upd_nx] <;> omega) | decide) only [rUz, ↓reduceIte, Nat.reduceEqDiff, Nat.reduceAdd, t7, t9, q1, q3, p3, q4]
      repeat refine S.seq ?_
      refine S.region ?_
      simp (disch := first | omega | (simp only [add_nx, upd_nx] <;> omega) | decide) only [rUz, ↓reduceIte, Nat.reduceEqDiff, Nat.reduceAdd, t0, rd_max, w_max]
      refine optR_of' (v := iv (max2 x y)) (call2_congr (t' := T.set 15 (T.set 14 .leaf 13 (iv x)) 14 (iv y)) (u := iv x) (v := iv y) ?_ ?_ (by kernel_rfl) (by kernel_rfl) (by kernel_rfl)) ?_
      · simp (disch := first | omega | (simp only [add_nx, upd_nx] <;> omega) | decide) only [rUz, ↓reduceIte, Nat.reduceEqDiff, Nat.reduceAdd, t0]
      · simp (disch := first | omega | (simp only [add_nx, upd_nx] <;> omega) | decide) only [rUz, ↓reduceIte, Nat.reduceEqDiff, Nat.reduceAdd]
      simp (disch := first | omega | (simp only [add_nx, upd_nx] <;> omega) | decide) only [rUz, ↓reduceIte, Nat.reduceEqDiff, Nat.reduceAdd]
      repeat refine S.seq ?_
      refine S.region ?_
      simp (disch := first | omega | (simp only [add_nx, upd_nx] <;> omega) | decide) only [rUz, ↓reduceIte, Nat.reduceEqDiff, Nat.reduceAdd, t9]
      refine hn (k + 1) _ _ (by omega) ⟨by omega, rfl, ?_, ?_, ?_, max2 x y, ?_, hx⟩
      all_goals (first | rfl | (simp (disch := first | omega | (simp only [add_nx, upd_nx] <;> omega) | decide) only [rUz, ↓reduceIte, Nat.reduceEqDiff, Nat.reduceAdd, t7, t8, t9]; done) | (simp (disch := first | omega | (simp only [add_nx, upd_nx] <;> omega) | decide) only [rUz, ↓reduceIte, Nat.reduceEqDiff, Nat.reduceAdd, t7, t8, t9]; rfl))
    · have hkn : k = l.length := by have := of_decide_eq_false e; omega
      subst hkn
      rw [List.drop_of_length_le (Nat.le_refl _), List.foldl_nil] at hx
      subst hx
      refine S.exit (he _ _ _ _ (fun e => by cases e) ?_)
      simp (disch := first | omega | (simp only [add_nx, upd_nx] <;> omega) | decide) only [rUz, ↓reduceIte, Nat.reduceEqDiff, Nat.reduceAdd]
      repeat refine S.seq ?_
      refine S.region ?_
      simp (disch := first | omega | (simp only [add_nx, upd_nx] <;> omega) | decide) only [rUz, ↓reduceIte, Nat.reduceEqDiff, Nat.reduceAdd, t0]
      refine S.ret ?_
      try simp only [seqK_ret, blockK_ret]
      subst hF
      simp only [finish, endMarks]
      rw [show Try.f68.results.toList = [.tmp 4] from rfl]
      simp (disch := first | omega | (simp only [add_nx, upd_nx] <;> omega) | decide) only [resA, ev_tmp, tget_ne, tget_eq, get_ne, get_eq, upd_eq, upd_ne, ag_eq, ag_ne, result1]
      exact hK _ _ Kp.refl ⟨rfl, rfl⟩
  · refine ⟨Nat.zero_le _, rfl, ?_, ?_, ?_, a, ?_, rfl⟩
    all_goals (first | rfl | (simp (disch := first | omega | (simp only [add_nx, upd_nx] <;> omega) | decide) only [rUz, ↓reduceIte, Nat.reduceEqDiff, Nat.reduceAdd]; done) | (simp (disch := first | omega | (simp only [add_nx, upd_nx] <;> omega) | decide) only [rUz, ↓reduceIte, Nat.reduceEqDiff, Nat.reduceAdd]; rfl))

/-! ## Lists of which a part is turned -/
def mixP {α : Type} (g' g : α → Int) (cs : List α) (k : Nat) : List Int := (cs.take k).map g' ++ (cs.drop k).map g
section
variable {α : Type} (g' g : α → Int) {cs : List α} {k : Nat} {c : α}
theorem mix_len (cs : List α) (k : Nat) : (mixP g' g cs k).length = cs.length := by
  simp only [mixP, List.length_append, List.length_map, List.length_take, List.length_drop]; omega
theorem mix_get (hc : cs[k]? = some c) : (mixP g' g cs k)[k]? = some (g c) := by
  have hk := (List.getElem?_eq_some_iff.1 hc).1
  have hl : ((cs.take k).map g').length = k := by rw [List.length_map, List.length_take]; omega
  rw [mixP, List.getElem?_append_right (by omega), hl, Nat.sub_self, List.getElem?_map, List.getElem?_drop, Nat.add_zero, hc]; rfl
theorem mix_step (hc : cs[k]? = some c) : (mixP g' g cs k).set k (g' c) = mixP g' g cs (k + 1) := by
  have hk := (List.getElem?_eq_some_iff.1 hc).1
  have hl : ((cs.take k).map g').length = k := by rw [List.length_map, List.length_take]; omega
  unfold mixP
  have hd : cs.drop k = c :: cs.drop (k + 1) := by
    rw [List.drop_eq_getElem_cons hk]
    have := List.getElem?_eq_getElem hk
    rw [hc] at this
    cases this; rfl
  rw [List.set_append_right _ _ (by omega), hl, Nat.sub_self, hd, List.map_cons, List.set_cons_zero, List.take_add_one, hc]
  simp
theorem mix_same (hc : cs[k]? = some c) (h : g' c = g c) : mixP g' g cs (k + 1) = mixP g' g cs k := by
  rw [← mix_step g' g hc, h]
  have := mix_get g' g hc
  obtain ⟨h1, h2⟩ := List.getElem?_eq_some_iff.1 this
  rw [← h2, List.set_getElem_self]
theorem mix_end (cs : List α) : mixP g' g cs cs.length = cs.map g' := by simp [mixP]
theorem mix_zero (cs : List α) : mixP g' g cs 0 = cs.map g := by simp [mixP]
end

/-! ## What is lost -/
def tou (k : Int) (c : C4) : Bool := decide (c.1 = k) || decide (c.2.1 = k)
def payT (k p : Int) (c : C4) : Int := bif tou k c then payC p c else 0
def lossP (n : Nat) (cs : List C4) (k : Nat) (p : Int) : List Int := ((bal n cs (cs.map (payT k p))).set k 0).map (max2 0)

def IL1 (n : Nat) (cs : List C4) (kh : Nat) (p : Int) (h0 : AHeap) (B3 B7 : Nat) (cv : Value) (k : Nat) (t : T Value) (h : AHeap) : Prop :=
  k ≤ cs.length ∧ Kp h0 h ∧ B3 < B7 ∧ h.bl.get B3 = some (.cells [iv (n : Int), cv] B3 false) ∧ tget t 1 = iv (kh : Int) ∧ tget t 3 = ptr0 B3 ∧ tget t 7 = .slice (some ⟨B7, 0, none⟩) cs.length cs.length ∧ tget t 17 = cv ∧ tget t 18 = iv (cs.length : Int) ∧ tget t 19 = iv (k : Int) ∧
  Own h B7 (mixP (payT kh p) (payC p) cs k)
def IL2 (n : Nat) (l : List Int) (h0 : AHeap) (B : Nat) (k : Nat) (t : T Value) (h : AHeap) : Prop :=
  k ≤ n ∧ Kp h0 h ∧ tget t 10 = .slice (some ⟨B, 0, none⟩) n n ∧ tget t 44 = .slice (some ⟨B, 0, none⟩) n n ∧ tget t 45 = iv (n : Int) ∧ tget t 46 = iv (k : Int) ∧ Own h B (mixP (max2 0) id l k)

set_option maxHeartbeats 16000000 in
theorem losses_y (S : Ev.Steps Try.prog pr R) (hoff : Off pr) (h0 : AHeap) (n : Nat) (hn6 : n ≤ 6) (cv : Value) (cs : List C4) (hc : CAt h0 cv cs) (hsz : cs.length ≤ 12) (hv : Hs n cs) (kh : Nat) (hkh : kh < n) (p : Int) (hp1 : 1 ≤ p) (hp2 : p ≤ 1000) :
    Brings Try.prog R 46 [.agg ⟨[iv (n : Int), cv]⟩, iv (kh : Int), iv p] h0 fun v h => ∃ B, v = .slice (some ⟨B, 0, none⟩) n n ∧ h0.nx ≤ B ∧ Own h B (lossP n cs kh p) := by
  refine brings_of (fn := Try.f46) (c := (Try.f46.body).getD .skip) (by kernel_rfl) rfl (by kernel_rfl) rfl (fun K hK => ?_)
  generalize hF : finish Try.prog Try.f46 K = KF
  simp only [Try.f46, Option.getD_some, argsT, setArgs, fV1_eq, T.setK_eq, id]
  have hlen := fun t h1 o => hc.len isB t h1 o
  repeat refine S.seq ?_
  refine S.region ?_
  simp (disch := first | omega | (simp only [add_nx, upd_nx] <;> omega) | decide) only [rUz, ↓reduceIte, Nat.reduceEqDiff, Nat.reduceAdd]
  have hb3 : (h0.add [iv (n : Int), cv]).bl.get h0.nx = some (.cells [iv (n : Int), cv] h0.nx false) := ag_eq rfl
  have hk1 : Kp h0 (h0.add [iv (n : Int), cv]) := Kp.refl.add
  have hlt : h0.nx < (h0.add [iv (n : Int), cv]).nx := Nat.lt_succ_self _
  generalize h0.add [iv (n : Int), cv] = H1 at hb3 hk1 hlt ⊢
  repeat refine S.seq ?_
  refine S.region ?_
  simp (disch := first | omega | (simp only [add_nx, upd_nx] <;> omega) | decide) only [rUz, ↓reduceIte, Nat.reduceEqDiff, Nat.reduceAdd, hb3, pB]
  refine wr_brings (fid := 44) (first := #[]) (captured := #[]) (Post := fun v h' => ∃ B, v = .slice (some ⟨B, 0, none⟩) cs.length cs.length ∧ H1.nx ≤ B ∧ Own h' B (pays p cs)) (by first | rfl | (simp (disch := first | omega | (simp only [add_nx, upd_nx] <;> omega) | decide) only [rUz, ↓reduceIte, Nat.reduceEqDiff, Nat.reduceAdd] <;> rfl)) (hoff _ _ _ rfl) (by simp (disch := first | omega | (simp only [add_nx, upd_nx] <;> omega) | decide) only [rUz, ↓reduceIte, Nat.reduceEqDiff, Nat.reduceAdd]; exact payments_y S H1 n _ cv cs (hc.mono hk1) hsz hv p hp1 hp2) ?_
  rintro v h2 hk2 ⟨B7, rfl, hB7, hO7⟩
  have hb3' := (hk2.get hlt).trans hb3
  have hkk := hk1.trans hk2
  simp (disch := first | omega | (simp only [add_nx, upd_nx] <;> omega) | decide) only [rUz, ↓reduceIte, Nat.reduceEqDiff, Nat.reduceAdd]
  repeat refine S.seq ?_
  refine S.region ?_
  simp (disch := first | omega | (simp only [add_nx, upd_nx] <;> omega) | decide) only [rUz, ↓reduceIte, Nat.reduceEqDiff, Nat.reduceAdd, hb3', fieldAddr_ptr fB1 sBc, pBc, hlen]
  repeat refine S.seq ?_
  refine S.block ?_
  have hB37 : h0.nx < B7 := by omega
  refine S.loop (ι := Nat) (IL1 n cs kh p h0 h0.nx B7 cv) (fun k => cs.length - k) ?_ 0 _ _ ?_
  · clear hO7 hb3' hkk hk2 hb3 hk1 hlt hB7 h2 H1
    intro k t h ⟨hk, hkp, hBB, hb3, t1, t3, t7, t17, t18, t19, how⟩ K' hn he
    have hnx := hkp.1
    repeat refine S.seq ?_
    refine S.region ?_
    simp (disch := first | omega | (simp only [add_nx, upd_nx] <;> omega) | decide) only [rUz, ↓reduceIte, Nat.reduceEqDiff, Nat.reduceAdd, t18, t19]
    repeat refine S.seq ?_
    refine S.cond (v := decide ((k : Int) < (cs.length : Int))) (by first | rfl | (simp (disch := first | omega | (simp only [add_nx, upd_nx] <;> omega) | decide) only [rUz, ↓reduceIte, Nat.reduceEqDiff, Nat.reduceAdd] <;> rfl)) (fun e => ?_) (fun e => ?_)
    · have hkn : k < cs.length := by have := of_decide_eq_true e; omega
      clear e
      have hps : cs[k]? = some cs[k] := List.getElem?_eq_getElem hkn
      have hmem : cs[k] ∈ cs := List.getElem_mem hkn
      generalize cs[k] = c at hps hmem
      obtain ⟨b, fb, ro, cells, q1, q2, q3, q4, q5, _⟩ := (hc.mono hkp).idx slB sL hps
      have qp := part_cc pL q4 q5
      repeat refine S.seq ?_
      refine S.skip ?_
      simp (disch := first | omega | (simp only [add_nx, upd_nx] <;> omega) | decide) only [rUz, ↓reduceIte, Nat.reduceEqDiff, Nat.reduceAdd]
      repeat refine S.seq ?_
      refine S.block ?_
      repeat refine S.seq ?_
      refine S.region ?_
      simp (disch := first | omega | (simp only [add_nx, upd_nx] <;> omega) | decide) only [rUz, ↓reduceIte, Nat.reduceEqDiff, Nat.reduceAdd, t17, t19, q1, q3, qp, wr_alloc zL]
      refine wr_storeN (B := h.nx) (c := [iv 0, iv 0, iv 0, iv 0]) (fam := h.nx) (k := h.nx) (l := cc c) (by simp (disch := first | omega | (simp only [add_nx, upd_nx] <;> omega) | decide) only [rUz, ↓reduceIte, Nat.reduceEqDiff, Nat.reduceAdd]) (by simp (disch := first | omega | (simp only [add_nx, upd_nx] <;> omega) | decide) only [rUz, ↓reduceIte, Nat.reduceEqDiff, Nat.reduceAdd]) sL (by omega) rfl (ag_eq rfl) (af_eq rfl) rfl ?_
      have hk4 : Kp h ((h.add [iv 0, iv 0, iv 0, iv 0]).upd h.nx (cc c) h.nx) := Kp.refl.add.upd (Nat.le_refl _)
      have hg4 : ((h.add [iv 0, iv 0, iv 0, iv 0]).upd h.nx (cc c) h.nx).bl.get h.nx = some (.cells (cc c) h.nx false) := upd_eq _ _ _
      have hlt9 : h.nx < ((h.add [iv 0, iv 0, iv 0, iv 0]).upd h.nx (cc c) h.nx).nx := Nat.lt_succ_self _
      simp (disch := first | omega | (simp only [add_nx, upd_nx] <;> omega) | decide) only [rUz, ↓reduceIte, Nat.reduceEqDiff, Nat.reduceAdd]
      have hblt := how.1
      generalize (h.add [iv 0, iv 0, iv 0, iv 0]).upd h.nx (cc c) h.nx = h4 at hk4 hg4 hlt9 ⊢
      have hb34 := (hk4.get (by omega : h0.nx < h.nx)).trans hb3
      have hkp4 := hkp.trans hk4
      have how4 := how.mono hk4
      generalize h.nx = B9 at hg4 hlt9 ⊢
      clear q1 q2 q3 q4 q5 qp hk4 hkp how hnx hb3 hblt
      have hfl := mix_len (payT kh p) (payC p) cs k
      have hkl : k < ((mixP (payT kh p) (payC p) cs k).map iv).length := by rw [List.length_map]; omega
      -- behind the test
      repeat refine S.seq ?_
      refine S.region ?_
      generalize hJJ : (fun (t : T Value) (h : AHeap) => _) = KJ
      have hJ : ∀ (t : T Value) (h5 : AHeap), Kp h4 h5 → tget t 1 = iv (kh : Int) → tget t 3 = ptr0 h0.nx → tget t 7 = .slice (some ⟨B7, 0, none⟩) cs.length cs.length → tget t 8 = iv (k : Int) → tget t 17 = cv → tget t 18 = iv (cs.length : Int) → tget t 19 = iv (k : Int) → tget t 33 = .bool (!tou kh c) → KJ t h5 = true := by
        intro t h5 hk5 t1 t3 t7 t8 t17 t18 t19 t33
        subst hJJ
        simp only [seqK_normal]
        have hkp5 := hkp4.trans hk5
        have hnx5 := hkp4.1
        have how5 := how4.mono hk5
        have hlt3 : h0.nx < h4.nx := by have := how4.1; omega
        have hb35 := (hk5.get hlt3).trans hb34
        cases ht : tou kh c with
        | false =>
          have hz : payT kh p c = 0 := by unfold payT; rw [ht]; rfl
          repeat refine S.seq ?_
          refine S.cond (v := true) (by first | rfl | (simp (disch := first | omega | (simp only [add_nx, upd_nx] <;> omega) | decide) only [rUz, ↓reduceIte, Nat.reduceEqDiff, Nat.reduceAdd, t33, ht, Bool.not_false] <;> rfl)) (fun _ => ?_) (fun e => by cases e)
          repeat refine S.seq ?_
          refine S.region ?_
          simp (disch := first | omega | (simp only [add_nx, upd_nx] <;> omega) | decide) only [rUz, ↓reduceIte, Nat.reduceEqDiff, Nat.reduceAdd, t7, t8, indexAddr_sl slI s3' hkn]
          refine wr_store s3' ?_
          simp (disch := first | omega | (simp only [add_nx, upd_nx] <;> omega) | decide) only [rUz, ↓reduceIte, Nat.reduceEqDiff, Nat.reduceAdd, how5.2.1, how5.2.2, hkl]
          repeat refine S.seq ?_
          refine S.region ?_
          simp (disch := first | omega | (simp only [add_nx, upd_nx] <;> omega) | decide) only [rUz, ↓reduceIte, Nat.reduceEqDiff, Nat.reduceAdd, t19]
          refine hn (k + 1) _ _ (by omega) ⟨by omega, hkp5.upd (by omega), hBB, by rw [upd_ne _ _ _ (by omega)]; exact hb35, ?_, ?_, ?_, ?_, ?_, ?_, by rw [← mix_step _ _ hps, hz]; exact how5.upd⟩
          all_goals (first | rfl | (simp (disch := first | omega | (simp only [add_nx, upd_nx] <;> omega) | decide) only [rUz, ↓reduceIte, Nat.reduceEqDiff, Nat.reduceAdd, t1, t3, t7, t17, t18, t19]; done) | (simp (disch := first | omega | (simp only [add_nx, upd_nx] <;> omega) | decide) only [rUz, ↓reduceIte, Nat.reduceEqDiff, Nat.reduceAdd, t1, t3, t7, t17, t18, t19]; rfl))
        | true =>
          have hz : payT kh p c = payC p c := by unfold payT; rw [ht]; rfl
          repeat refine S.seq ?_
          refine S.cond (v := false) (by first | rfl | (simp (disch := first | omega | (simp only [add_nx, upd_nx] <;> omega) | decide) only [rUz, ↓reduceIte, Nat.reduceEqDiff, Nat.reduceAdd, t33, ht, Bool.not_true] <;> rfl)) (fun e => by cases e) (fun _ => ?_)
          repeat refine S.seq ?_
          refine S.skip ?_
          simp (disch := first | omega | (simp only [add_nx, upd_nx] <;> omega) | decide) only [rUz, ↓reduceIte, Nat.reduceEqDiff, Nat.reduceAdd]
          repeat refine S.seq ?_
          refine S.region ?_
          simp (disch := first | omega | (simp only [add_nx, upd_nx] <;> omega) | decide) only [rUz, ↓reduceIte, Nat.reduceEqDiff, Nat.reduceAdd, t19]
          refine hn (k + 1) _ _ (by omega) ⟨by omega, hkp5, hBB, hb35, ?_, ?_, ?_, ?_, ?_, ?_, by rw [mix_same _ _ hps hz]; exact how5⟩
          all_goals (first | rfl | (simp (disch := first | omega | (simp only [add_nx, upd_nx] <;> omega) | decide) only [rUz, ↓reduceIte, Nat.reduceEqDiff, Nat.reduceAdd, t1, t3, t7, t17, t18, t19]; done) | (simp (disch := first | omega | (simp only [add_nx, upd_nx] <;> omega) | decide) only [rUz, ↓reduceIte, Nat.reduceEqDiff, Nat.reduceAdd, t1, t3, t7, t17, t18, t19]; rfl))
      clear hJJ hn he
      simp (disch := first | omega | (simp only [add_nx, upd_nx] <;> omega) | decide) only [rUz, ↓reduceIte, Nat.reduceEqDiff, Nat.reduceAdd, hg4, part_c0 pL]
      refine wr_brings (fid := 66) (first := #[]) (captured := #[]) (Post := fun v _ => v = iv c.1) (by first | rfl | (simp (disch := first | omega | (simp only [add_nx, upd_nx] <;> omega) | decide) only [rUz, ↓reduceIte, Nat.reduceEqDiff, Nat.reduceAdd] <;> rfl)) (hoff _ _ _ rfl) (by simp (disch := first | omega | (simp only [add_nx, upd_nx] <;> omega) | decide) only [rUz, ↓reduceIte, Nat.reduceEqDiff, Nat.reduceAdd]; exact seller_y S _ _) ?_
      rintro v h5 hk5 rfl
      have hg5 := (hk5.get hlt9).trans hg4
      simp (disch := first | omega | (simp only [add_nx, upd_nx] <;> omega) | decide) only [rUz, ↓reduceIte, Nat.reduceEqDiff, Nat.reduceAdd, t1]
      cases hf : decide (c.1 = (kh : Int)) with
      | true =>
        simp (disch := first | omega | (simp only [add_nx, upd_nx] <;> omega) | decide) only [rUz, ↓reduceIte, Nat.reduceEqDiff, Nat.reduceAdd, hf, Bool.not_true]
        refine hJ _ _ hk5 ?_ ?_ ?_ ?_ ?_ ?_ ?_ ?_
        rotate_right
        · simp (disch := first | omega | (simp only [add_nx, upd_nx] <;> omega) | decide) only [rUz, ↓reduceIte, Nat.reduceEqDiff, Nat.reduceAdd, tou, hf, Bool.true_or, Bool.not_true]
        all_goals (first | rfl | (simp (disch := first | omega | (simp only [add_nx, upd_nx] <;> omega) | decide) only [rUz, ↓reduceIte, Nat.reduceEqDiff, Nat.reduceAdd, t1, t3, t7, t17, t18, t19]; done) | (simp (disch := first | omega | (simp only [add_nx, upd_nx] <;> omega) | decide) only [rUz, ↓reduceIte, Nat.reduceEqDiff, Nat.reduceAdd, t1, t3, t7, t17, t18, t19]; rfl))
      | false =>
      simp (disch := first | omega | (simp only [add_nx, upd_nx] <;> omega) | decide) only [rUz, ↓reduceIte, Nat.reduceEqDiff, Nat.reduceAdd, hf, Bool.not_false, t1, hg5, part_c0 pL]
      refine wr_brings (fid := 67) (first := #[]) (captured := #[]) (Post := fun v _ => v = iv c.2.1) (by first | rfl | (simp (disch := first | omega | (simp only [add_nx, upd_nx] <;> omega) | decide) only [rUz, ↓reduceIte, Nat.reduceEqDiff, Nat.reduceAdd] <;> rfl)) (hoff _ _ _ rfl) (by simp (disch := first | omega | (simp only [add_nx, upd_nx] <;> omega) | decide) only [rUz, ↓reduceIte, Nat.reduceEqDiff, Nat.reduceAdd]; exact buyer_y S _ _) ?_
      rintro v h6 hk6 rfl
      simp (disch := first | omega | (simp only [add_nx, upd_nx] <;> omega) | decide) only [rUz, ↓reduceIte, Nat.reduceEqDiff, Nat.reduceAdd, t1]
      refine hJ _ _ (hk5.trans hk6) ?_ ?_ ?_ ?_ ?_ ?_ ?_ ?_
      rotate_right
      · simp (disch := first | omega | (simp only [add_nx, upd_nx] <;> omega) | decide) only [rUz, ↓reduceIte, Nat.reduceEqDiff, Nat.reduceAdd, tou, hf, Bool.false_or]
      all_goals (first | rfl | (simp (disch := first | omega | (simp only [add_nx, upd_nx] <;> omega) | decide) only [rUz, ↓reduceIte, Nat.reduceEqDiff, Nat.reduceAdd, t1, t3, t7, t17, t18, t19]; done) | (simp (disch := first | omega | (simp only [add_nx, upd_nx] <;> omega) | decide) only [rUz, ↓reduceIte, Nat.reduceEqDiff, Nat.reduceAdd, t1, t3, t7, t17, t18, t19]; rfl))
    · have hkn : k = cs.length := by have := of_decide_eq_false e; omega
      subst hkn
      rw [mix_end] at how
      refine S.exit (he _ _ _ _ (fun e => by cases e) ?_)
      clear he hn e
      simp (disch := first | omega | (simp only [add_nx, upd_nx] <;> omega) | decide) only [rUz, ↓reduceIte, Nat.reduceEqDiff, Nat.reduceAdd]
      have hpb : bnd 200000 (cs.map (payT kh p)) := fun x hx => by
        obtain ⟨c, hc, rfl⟩ := List.mem_map.1 hx
        have := payC_bnd hv hp1 hp2 hc
        show -200000 ≤ payT kh p c ∧ payT kh p c ≤ 200000
        unfold payT payC
        cases tou kh c
        · show -200000 ≤ 0 ∧ 0 ≤ 200000; omega
        · show -200000 ≤ c.2.2.1 * (p - c.2.2.2) ∧ c.2.2.1 * (p - c.2.2.2) ≤ 200000; omega
      repeat refine S.seq ?_
      refine S.region ?_
      simp (disch := first | omega | (simp only [add_nx, upd_nx] <;> omega) | decide) only [rUz, ↓reduceIte, Nat.reduceEqDiff, Nat.reduceAdd, t3, hb3, pB]
      refine wr_brings (fid := 43) (first := #[]) (captured := #[]) (Post := fun v h' => ∃ B, v = .slice (some ⟨B, 0, none⟩) n n ∧ h.nx ≤ B ∧ Own h' B (bal n cs (cs.map (payT kh p)))) (by first | rfl | (simp (disch := first | omega | (simp only [add_nx, upd_nx] <;> omega) | decide) only [rUz, ↓reduceIte, Nat.reduceEqDiff, Nat.reduceAdd, t7] <;> rfl)) (hoff _ _ _ rfl) (by simp (disch := first | omega | (simp only [add_nx, upd_nx] <;> omega) | decide) only [rUz, ↓reduceIte, Nat.reduceEqDiff, Nat.reduceAdd, t7]; exact balances_y S hoff h n hn6 cv cs (hc.mono hkp) hsz hv _ _ (how.at' (by rw [List.length_map])) (by rw [List.length_map]) hpb) ?_
      rintro v g hkg ⟨B, rfl, hB, hO⟩
      have hkp2 := hkp.trans hkg
      have hBn : h0.nx ≤ B := by omega
      simp (disch := first | omega | (simp only [add_nx, upd_nx] <;> omega) | decide) only [rUz, ↓reduceIte, Nat.reduceEqDiff, Nat.reduceAdd]
      clear how hb3 hkg hB
      have hl := bal_len n cs (cs.map (payT kh p))
      unfold lossP at hK
      generalize bal n cs (cs.map (payT kh p)) = l at hl hO hK
      have hkl : kh < (l.map iv).length := by rw [List.length_map]; omega
      repeat refine S.seq ?_
      refine S.region ?_
      simp (disch := first | omega | (simp only [add_nx, upd_nx] <;> omega) | decide) only [rUz, ↓reduceIte, Nat.reduceEqDiff, Nat.reduceAdd, t1, indexAddr_sl slI s3' hkh]
      refine wr_store s3' ?_
      simp (disch := first | omega | (simp only [add_nx, upd_nx] <;> omega) | decide) only [rUz, ↓reduceIte, Nat.reduceEqDiff, Nat.reduceAdd, hO.2.1, hO.2.2, hkl]
      have hO2 := hO.upd (i := kh) (x := 0)
      have hkp3 : Kp h0 (g.upd B ((l.map iv).set kh (iv 0)) B) := hkp2.upd hBn
      generalize g.upd B ((l.map iv).set kh (iv 0)) B = g2 at hO2 hkp3 ⊢
      have hl2 : (l.set kh 0).length = n := by rw [List.length_set]; exact hl
      generalize l.set kh 0 = l2 at hO2 hl2 hK
      clear hkl hkp2 hO hl hpb hk hkp t1 t3 t7 t17 t18 t19
      repeat refine S.seq ?_
      refine S.region ?_
      simp (disch := first | omega | (simp only [add_nx, upd_nx] <;> omega) | decide) only [rUz, ↓reduceIte, Nat.reduceEqDiff, Nat.reduceAdd, len_sl isI]
      repeat refine S.seq ?_
      refine S.block ?_
      refine S.loop (ι := Nat) (IL2 n l2 h0 B) (fun k => n - k) ?_ 0 _ _ ?_
      · clear hO2 hkp3
        intro k t h ⟨hk, hkp, t10, t44, t45, t46, how⟩ K' hn he
        have hnx := hkp.1
        repeat refine S.seq ?_
        refine S.region ?_
        simp (disch := first | omega | (simp only [add_nx, upd_nx] <;> omega) | decide) only [rUz, ↓reduceIte, Nat.reduceEqDiff, Nat.reduceAdd, t45, t46]
        repeat refine S.seq ?_
        refine S.cond (v := decide ((k : Int) < (n : Int))) (by first | rfl | (simp (disch := first | omega | (simp only [add_nx, upd_nx] <;> omega) | decide) only [rUz, ↓reduceIte, Nat.reduceEqDiff, Nat.reduceAdd] <;> rfl)) (fun e => ?_) (fun e => ?_)
        · have hkn : k < n := by have := of_decide_eq_true e; omega
          clear e
          have hps : l2[k]? = some l2[k] := List.getElem?_eq_getElem (by omega)
          generalize l2[k] = x at hps
          have hgx : ((mixP (max2 0) id l2 k).map iv)[k]? = some (iv x) := by rw [List.getElem?_map, mix_get _ _ hps]; rfl
          have hml : k < ((mixP (max2 0) id l2 k).map iv).length := by rw [List.length_map, mix_len]; omega
          have hst := mix_step (max2 0) id hps
          repeat refine S.seq ?_
          refine S.skip ?_
          simp (disch := first | omega | (simp only [add_nx, upd_nx] <;> omega) | decide) only [rUz, ↓reduceIte, Nat.reduceEqDiff, Nat.reduceAdd]
          repeat refine S.seq ?_
          refine S.block ?_
          repeat refine S.seq ?_
          refine S.region ?_
          simp (disch := first | omega | (simp only [add_nx, upd_nx] <;> omega) | decide) only [rUz, ↓reduceIte, Nat.reduceEqDiff, Nat.reduceAdd, t44, t46, indexAddr_sl slI s3' hkn, how.2.1, hgx, p3]
          repeat refine S.seq ?_
          refine S.region ?_
          simp (disch := first | omega | (simp only [add_nx, upd_nx] <;> omega) | decide) only [rUz, ↓reduceIte, Nat.reduceEqDiff, Nat.reduceAdd, t10, w_buildSlice]
          refine wr_lit1 slI s3' z3 rfl (by omega) (u := iv x) (l := [iv x]) (by simp (disch := first | omega | (simp only [add_nx, upd_nx] <;> omega) | decide) only [rUz, ↓reduceIte, Nat.reduceEqDiff, Nat.reduceAdd]) rfl rfl ?_
          have hkx : Kp h (h.add [iv x]) := Kp.refl.add
          have hix : IAt (h.add [iv x]) (.slice (some ⟨h.nx, 0, none⟩) 1 1) [x] := .inr ⟨h.nx, 1, h.nx, false, rfl, Nat.lt_succ_self _, ag_eq rfl⟩
          have how2 := how.mono hkx
          simp (disch := first | omega | (simp only [add_nx, upd_nx] <;> omega) | decide) only [rUz, ↓reduceIte, Nat.reduceEqDiff, Nat.reduceAdd]
          refine wr_brings (fid := 68) (first := #[]) (captured := #[]) (Post := fun u h' => u = iv (max2 0 x) ∧ h' = h.add [iv x]) (by first | rfl | (simp (disch := first | omega | (simp only [add_nx, upd_nx] <;> omega) | decide) only [rUz, ↓reduceIte, Nat.reduceEqDiff, Nat.reduceAdd] <;> rfl)) (hoff _ _ _ rfl) (by simp (disch := first | omega | (simp only [add_nx, upd_nx] <;> omega) | decide) only [rUz, ↓reduceIte, Nat.reduceEqDiff, Nat.reduceAdd]; exact greatest_y S _ 0 _ [x] hix (by simp)) ?_
          rintro v g - ⟨rfl, rfl⟩
          simp (disch := first | omega | (simp only [add_nx, upd_nx] <;> omega) | decide) only [rUz, ↓reduceIte, Nat.reduceEqDiff, Nat.reduceAdd, t10, indexAddr_sl slI s3' hkn]
          refine wr_store s3' ?_
          simp (disch := first | omega | (simp only [add_nx, upd_nx] <;> omega) | decide) only [rUz, ↓reduceIte, Nat.reduceEqDiff, Nat.reduceAdd, how2.2.1, how2.2.2, hml]
          repeat refine S.seq ?_
          refine S.region ?_
          simp (disch := first | omega | (simp only [add_nx, upd_nx] <;> omega) | decide) only [rUz, ↓reduceIte, Nat.reduceEqDiff, Nat.reduceAdd, t46]
          refine hn (k + 1) _ _ (by omega) ⟨by omega, (hkp.trans hkx).upd hBn, ?_, ?_, ?_, ?_, by rw [← hst]; exact how2.upd⟩
          all_goals (first | rfl | (simp (disch := first | omega | (simp only [add_nx, upd_nx] <;> omega) | decide) only [rUz, ↓reduceIte, Nat.reduceEqDiff, Nat.reduceAdd, t10, t44, t45, t46]; done) | (simp (disch := first | omega | (simp only [add_nx, upd_nx] <;> omega) | decide) only [rUz, ↓reduceIte, Nat.reduceEqDiff, Nat.reduceAdd, t10, t44, t45, t46]; rfl))
        · have hkn : k = n := by have := of_decide_eq_false e; omega
          subst hkn
          rw [← hl2, mix_end] at how
          refine S.exit (he _ _ _ _ (fun e => by cases e) ?_)
          simp (disch := first | omega | (simp only [add_nx, upd_nx] <;> omega) | decide) only [rUz, ↓reduceIte, Nat.reduceEqDiff, Nat.reduceAdd]
          repeat refine S.seq ?_
          refine S.region ?_
          simp (disch := first | omega | (simp only [add_nx, upd_nx] <;> omega) | decide) only [rUz, ↓reduceIte, Nat.reduceEqDiff, Nat.reduceAdd, t10]
          refine S.ret ?_
          try simp only [seqK_ret, blockK_ret]
          subst hF
          simp only [finish, endMarks]
          rw [show Try.f46.results.toList = [.tmp 6] from rfl]
          simp (disch := first | omega | (simp only [add_nx, upd_nx] <;> omega) | decide) only [resA, ev_tmp, tget_ne, tget_eq, get_ne, get_eq, upd_eq, upd_ne, ag_eq, ag_ne, result1]
          exact hK _ _ hkp ⟨B, rfl, hBn, how⟩
      · refine ⟨Nat.zero_le _, hkp3, ?_, ?_, ?_, ?_, by rw [mix_zero, List.map_id]; exact hO2⟩
        all_goals (first | rfl | (simp (disch := first | omega | (simp only [add_nx, upd_nx] <;> omega) | decide) only [rUz, ↓reduceIte, Nat.reduceEqDiff, Nat.reduceAdd]; done) | (simp (disch := first | omega | (simp only [add_nx, upd_nx] <;> omega) | decide) only [rUz, ↓reduceIte, Nat.reduceEqDiff, Nat.reduceAdd]; rfl))
  · refine ⟨Nat.zero_le _, hkk, hB37, hb3', ?_, ?_, ?_, ?_, ?_, ?_, by rw [mix_zero]; exact hO7⟩
    all_goals (first | rfl | (simp (disch := first | omega | (simp only [add_nx, upd_nx] <;> omega) | decide) only [rUz, ↓reduceIte, Nat.reduceEqDiff, Nat.reduceAdd]; done) | (simp (disch := first | omega | (simp only [add_nx, upd_nx] <;> omega) | decide) only [rUz, ↓reduceIte, Nat.reduceEqDiff, Nat.reduceAdd]; rfl))
end Go.Proofs.Rg
