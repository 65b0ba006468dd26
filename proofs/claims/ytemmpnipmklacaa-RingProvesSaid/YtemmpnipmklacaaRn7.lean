import Derived.Test.YtemmpnipmklacaaRn6
namespace Go.Proofs.Rg
open Go Go.Ev
set_option linter.unusedSimpArgs false

/-! ## Lists that are filled -/
def fillP {α : Type} (g : α → Int) (cs : List α) (k : Nat) : List Int := (cs.take k).map g ++ List.replicate (cs.length - k) 0
theorem fill_len {α : Type} (g : α → Int) (cs : List α) {k : Nat} (hk : k ≤ cs.length) : (fillP g cs k).length = cs.length := by
  simp only [fillP, List.length_append, List.length_map, List.length_take, List.length_replicate]; omega
theorem fill_step {α : Type} (g : α → Int) {cs : List α} {k : Nat} {c : α} (hc : cs[k]? = some c) : (fillP g cs k).set k (g c) = fillP g cs (k + 1) := by
  have hk := (List.getElem?_eq_some_iff.1 hc).1
  unfold fillP
  have hl : ((cs.take k).map g).length = k := by rw [List.length_map, List.length_take]; omega
  rw [List.set_append_right _ _ (by omega), hl, Nat.sub_self, show cs.length - k = (cs.length - (k + 1)) + 1 from by omega, List.replicate_succ, List.set_cons_zero, List.take_add_one, hc]
  simp
theorem fill_end {α : Type} (g : α → Int) (cs : List α) : fillP g cs cs.length = cs.map g := by simp [fillP]
theorem fill_zero {α : Type} (g : α → Int) (cs : List α) : fillP g cs 0 = List.replicate cs.length 0 := by simp [fillP]

def payC (p : Int) (c : C4) : Int := c.2.2.1 * (p - c.2.2.2)
def pays (p : Int) (cs : List C4) : List Int := cs.map (payC p)
def nums (cs : List C4) : List Int := cs.map fun c => c.2.2.1
theorem payC_bnd {n : Nat} {cs : List C4} (hv : Hs n cs) {p : Int} (h1 : 1 ≤ p) (h2 : p ≤ 1000) {c : C4} (hc : c ∈ cs) : (-999 ≤ p - c.2.2.2 ∧ p - c.2.2.2 ≤ 999) ∧ -100000 ≤ c.2.2.1 * (p - c.2.2.2) ∧ c.2.2.1 * (p - c.2.2.2) ≤ 100000 := by
  obtain ⟨_, k1, k2, k3, k4⟩ := hv c hc
  refine ⟨⟨by omega, by omega⟩, ?_⟩
  generalize hd : p - c.2.2.2 = d
  have hd1 : -999 ≤ d := by omega
  have hd2 : d ≤ 999 := by omega
  have a1 : c.2.2.1 * d ≤ c.2.2.1 * 999 := Int.mul_le_mul_of_nonneg_left hd2 (by omega)
  have a2 : c.2.2.1 * (-999) ≤ c.2.2.1 * d := Int.mul_le_mul_of_nonneg_left hd1 (by omega)
  omega
theorem pays_bnd {n : Nat} {cs : List C4} (hv : Hs n cs) {p : Int} (h1 : 1 ≤ p) (h2 : p ≤ 1000) : bnd 200000 (pays p cs) := fun x hx => by
  obtain ⟨c, hc, rfl⟩ := List.mem_map.1 hx
  have := payC_bnd hv h1 h2 hc
  simp only [payC]; omega
theorem nums_bnd {n : Nat} {cs : List C4} (hv : Hs n cs) : bnd 200000 (nums cs) := fun x hx => by
  obtain ⟨c, hc, rfl⟩ := List.mem_map.1 hx
  have := hv c hc
  show -200000 ≤ c.2.2.1 ∧ c.2.2.1 ≤ 200000
  omega

variable {pr : Prim} {R : ExT}
def ID (n : Nat) (cs : List C4) (h0 : AHeap) (B1 B : Nat) (cv : Value) (k : Nat) (t : T Value) (h : AHeap) : Prop :=
  k ≤ cs.length ∧ Kp h0 h ∧ B1 < B ∧ h.bl.get B1 = some (.cells [iv (n : Int), cv] B1 false) ∧ tget t 1 = ptr0 B1 ∧ tget t 3 = .slice (some ⟨B, 0, none⟩) cs.length cs.length ∧ tget t 11 = cv ∧ tget t 12 = iv (cs.length : Int) ∧ tget t 13 = iv (k : Int) ∧ Own h B (fillP (fun c : C4 => c.2.2.1) cs k)

set_option maxHeartbeats 8000000 in
theorem differences_y (S : Ev.Steps Try.prog pr R) (hoff : Off pr) (h0 : AHeap) (n : Nat) (hn6 : n ≤ 6) (cv : Value) (cs : List C4) (hc : CAt h0 cv cs) (hsz : cs.length ≤ 12) (hv : Hs n cs) :
    Brings Try.prog R 40 [.agg ⟨[iv (n : Int), cv]⟩] h0 fun v h => ∃ B, v = .slice (some ⟨B, 0, none⟩) n n ∧ h0.nx ≤ B ∧ Own h B (bal n cs (nums cs)) := by
  refine brings_of (fn := Try.f40) (c := (Try.f40.body).getD .skip) (by kernel_rfl) rfl (by kernel_rfl) rfl (fun K hK => ?_)
  generalize hF : finish Try.prog Try.f40 K = KF
  simp only [Try.f40, Option.getD_some, argsT, setArgs, fV1_eq, T.setK_eq, id]
  have hlen := fun t h1 o => hc.len isB t h1 o
  repeat refine S.seq ?_
  refine S.region ?_
  simp (disch := first | omega | (simp only [add_nx, upd_nx] <;> omega) | decide) only [rUz, ↓reduceIte, Nat.reduceEqDiff, Nat.reduceAdd]
  repeat refine S.seq ?_
  refine S.region ?_
  simp (disch := first | omega | (simp only [add_nx, upd_nx] <;> omega) | decide) only [rUz, ↓reduceIte, Nat.reduceEqDiff, Nat.reduceAdd, fieldAddr_ptr fB1 sBc, pBc, hlen, w_makeSlice]
  refine wr_makeInts (k := cs.length) slI info3 z3 info3b info3s (by simp (disch := first | omega | (simp only [add_nx, upd_nx] <;> omega) | decide) only [rUz, ↓reduceIte, Nat.reduceEqDiff, Nat.reduceAdd]) (by simp (disch := first | omega | (simp only [add_nx, upd_nx] <;> omega) | decide) only [rUz, ↓reduceIte, Nat.reduceEqDiff, Nat.reduceAdd]) (by omega) (fun hown => ?_)
  have hk1 : Kp h0 ((h0.add [iv (n : Int), cv]).add ((List.replicate cs.length 0).map iv)) := Kp.refl.add.add
  have hb1 : ((h0.add [iv (n : Int), cv]).add ((List.replicate cs.length 0).map iv)).bl.get h0.nx = some (.cells [iv (n : Int), cv] h0.nx false) := by rw [ag_ne (by show h0.nx ≠ h0.nx + 1; omega)]; exact ag_eq rfl
  simp (disch := first | omega | (simp only [add_nx, upd_nx] <;> omega) | decide) only [rUz, ↓reduceIte, Nat.reduceEqDiff, Nat.reduceAdd]
  have hB : h0.nx ≤ h0.nx + 1 := Nat.le_succ _
  have hB1 : h0.nx < h0.nx + 1 := Nat.lt_succ_self _
  rw [add_nx] at hown
  generalize ((h0.add [iv (n : Int), cv]).add ((List.replicate cs.length 0).map iv)) = H1 at hown hk1 hb1 ⊢
  generalize h0.nx + 1 = B at hown hB hB1 ⊢
  repeat refine S.seq ?_
  refine S.region ?_
  simp (disch := first | omega | (simp only [add_nx, upd_nx] <;> omega) | decide) only [rUz, ↓reduceIte, Nat.reduceEqDiff, Nat.reduceAdd, fieldAddr_ptr fB1 sBc, pBc, hb1, hlen]
  repeat refine S.seq ?_
  refine S.block ?_
  refine S.loop (ι := Nat) (ID n cs h0 h0.nx B cv) (fun k => cs.length - k) ?_ 0 _ _ ?_
  · intro k t h ⟨hk, hkp, hBB, hb1, t1, t3, t11, t12, t13, how⟩ K' hn he
    have hnx := hkp.1
    repeat refine S.seq ?_
    refine S.region ?_
    simp (disch := first | omega | (simp only [add_nx, upd_nx] <;> omega) | decide) only [rUz, ↓reduceIte, Nat.reduceEqDiff, Nat.reduceAdd, t12, t13]
    repeat refine S.seq ?_
    refine S.cond (v := decide ((k : Int) < (cs.length : Int))) (by first | rfl | (simp (disch := first | omega | (simp only [add_nx, upd_nx] <;> omega) | decide) only [rUz, ↓reduceIte, Nat.reduceEqDiff, Nat.reduceAdd] <;> rfl)) (fun e => ?_) (fun e => ?_)
    · have hkn : k < cs.length := by have := of_decide_eq_true e; omega
      clear e
      have hps : cs[k]? = some cs[k] := List.getElem?_eq_getElem hkn
      have hmem : cs[k] ∈ cs := List.getElem_mem hkn
      generalize cs[k] = c at hps hmem
      obtain ⟨b, fb, ro, cells, q1, q2, q3, q4, q5, _⟩ := (hc.mono hkp).idx slB sL hps
      have qp := part_cc pL q4 q5
      repeat refine S.seq ?_
      refine S.skip ?_
      simp (disch := first | omega | (simp only [add_nx, upd_nx] <;> omega) | decide) only [rUz, ↓reduceIte, Nat.reduceEqDiff, Nat.reduceAdd]
      repeat refine S.seq ?_
      refine S.block ?_
      repeat refine S.seq ?_
      refine S.region ?_
      simp (disch := first | omega | (simp only [add_nx, upd_nx] <;> omega) | decide) only [rUz, ↓reduceIte, Nat.reduceEqDiff, Nat.reduceAdd, t11, t13, q1, q3, qp, wr_alloc zL]
      refine wr_storeN (B := h.nx) (c := [iv 0, iv 0, iv 0, iv 0]) (fam := h.nx) (k := h.nx) (l := cc c) (by simp (disch := first | omega | (simp only [add_nx, upd_nx] <;> omega) | decide) only [rUz, ↓reduceIte, Nat.reduceEqDiff, Nat.reduceAdd]) (by simp (disch := first | omega | (simp only [add_nx, upd_nx] <;> omega) | decide) only [rUz, ↓reduceIte, Nat.reduceEqDiff, Nat.reduceAdd]) sL (by omega) rfl (ag_eq rfl) (af_eq rfl) rfl ?_
      have hk4 : Kp h ((h.add [iv 0, iv 0, iv 0, iv 0]).upd h.nx (cc c) h.nx) := Kp.refl.add.upd (Nat.le_refl _)
      have hg4 : ((h.add [iv 0, iv 0, iv 0, iv 0]).upd h.nx (cc c) h.nx).bl.get h.nx = some (.cells (cc c) h.nx false) := upd_eq _ _ _
      simp (disch := first | omega | (simp only [add_nx, upd_nx] <;> omega) | decide) only [rUz, ↓reduceIte, Nat.reduceEqDiff, Nat.reduceAdd]
      have hblt := how.1
      generalize (h.add [iv 0, iv 0, iv 0, iv 0]).upd h.nx (cc c) h.nx = h4 at hk4 hg4 ⊢
      have how4 := how.mono hk4
      have hb14 := (hk4.get (by omega : h0.nx < h.nx)).trans hb1
      have hkp4 := hkp.trans hk4
      have hfl := fill_len (fun c : C4 => c.2.2.1) cs hk
      have hkl : k < ((fillP (fun c : C4 => c.2.2.1) cs k).map iv).length := by rw [List.length_map]; omega
      repeat refine S.seq ?_
      refine S.region ?_
      simp (disch := first | omega | (simp only [add_nx, upd_nx] <;> omega) | decide) only [rUz, ↓reduceIte, Nat.reduceEqDiff, Nat.reduceAdd, t3, t13, hg4, fieldAddr_ptr fL2 s3, p3, cc2, indexAddr_sl slI s3' hkn]
      refine wr_store s3' ?_
      simp (disch := first | omega | (simp only [add_nx, upd_nx] <;> omega) | decide) only [rUz, ↓reduceIte, Nat.reduceEqDiff, Nat.reduceAdd, how4.2.1, how4.2.2, hkl]
      repeat refine S.seq ?_
      refine S.region ?_
      simp (disch := first | omega | (simp only [add_nx, upd_nx] <;> omega) | decide) only [rUz, ↓reduceIte, Nat.reduceEqDiff, Nat.reduceAdd, t13]
      refine hn (k + 1) _ _ (by omega) ⟨by omega, hkp4.upd (by omega), hBB, by rw [upd_ne _ _ _ (by omega)]; exact hb14, ?_, ?_, ?_, ?_, ?_, by rw [← fill_step _ hps]; exact how4.upd⟩
      all_goals (first | rfl | (simp (disch := first | omega | (simp only [add_nx, upd_nx] <;> omega) | decide) only [rUz, ↓reduceIte, Nat.reduceEqDiff, Nat.reduceAdd, t1, t3, t11, t12, t13]; done) | (simp (disch := first | omega | (simp only [add_nx, upd_nx] <;> omega) | decide) only [rUz, ↓reduceIte, Nat.reduceEqDiff, Nat.reduceAdd, t1, t3, t11, t12, t13]; rfl))
    · have hkn : k = cs.length := by have := of_decide_eq_false e; omega
      subst hkn
      rw [fill_end] at how
      refine S.exit (he _ _ _ _ (fun e => by cases e) ?_)
      simp (disch := first | omega | (simp only [add_nx, upd_nx] <;> omega) | decide) only [rUz, ↓reduceIte, Nat.reduceEqDiff, Nat.reduceAdd]
      repeat refine S.seq ?_
      refine S.region ?_
      simp (disch := first | omega | (simp only [add_nx, upd_nx] <;> omega) | decide) only [rUz, ↓reduceIte, Nat.reduceEqDiff, Nat.reduceAdd, t1, t3, hb1, pB]
      refine wr_brings (fid := 43) (first := #[]) (captured := #[]) (Post := fun v h' => ∃ B, v = .slice (some ⟨B, 0, none⟩) n n ∧ h.nx ≤ B ∧ Own h' B (bal n cs (nums cs))) (by first | rfl | (simp (disch := first | omega | (simp only [add_nx, upd_nx] <;> omega) | decide) only [rUz, ↓reduceIte, Nat.reduceEqDiff, Nat.reduceAdd, t3] <;> rfl)) (hoff _ _ _ rfl) (by simp (disch := first | omega | (simp only [add_nx, upd_nx] <;> omega) | decide) only [rUz, ↓reduceIte, Nat.reduceEqDiff, Nat.reduceAdd, t3]; exact balances_y S hoff h n hn6 cv cs (hc.mono hkp) hsz hv _ (nums cs) (how.at' (by rw [List.length_map])) (by rw [nums, List.length_map]) (nums_bnd hv)) ?_
      rintro v g hkg ⟨B', rfl, hB', hO⟩
      simp (disch := first | omega | (simp only [add_nx, upd_nx] <;> omega) | decide) only [rUz, ↓reduceIte, Nat.reduceEqDiff, Nat.reduceAdd]
      refine S.ret ?_
      try simp only [seqK_ret, blockK_ret]
      subst hF
      simp only [finish, endMarks]
      rw [show Try.f40.results.toList = [.tmp 2] from rfl]
      simp (disch := first | omega | (simp only [add_nx, upd_nx] <;> omega) | decide) only [resA, ev_tmp, tget_ne, tget_eq, get_ne, get_eq, upd_eq, upd_ne, ag_eq, ag_ne, result1]
      exact hK _ _ (hkp.trans hkg) ⟨B', rfl, by omega, hO⟩
  · refine ⟨Nat.zero_le _, hk1, hB1, hb1, ?_, ?_, ?_, ?_, ?_, by rw [fill_zero]; exact hown⟩
    all_goals (first | rfl | (simp (disch := first | omega | (simp only [add_nx, upd_nx] <;> omega) | decide) only [rUz, ↓reduceIte, Nat.reduceEqDiff, Nat.reduceAdd]; done) | (simp (disch := first | omega | (simp only [add_nx, upd_nx] <;> omega) | decide) only [rUz, ↓reduceIte, Nat.reduceEqDiff, Nat.reduceAdd]; rfl))

def IP (p : Int) (cs : List C4) (h0 : AHeap) (B : Nat) (cv : Value) (k : Nat) (t : T Value) (h : AHeap) : Prop :=
  k ≤ cs.length ∧ Kp h0 h ∧ tget t 1 = iv p ∧ tget t 5 = .slice (some ⟨B, 0, none⟩) cs.length cs.length ∧ tget t 13 = cv ∧ tget t 14 = iv (cs.length : Int) ∧ tget t 15 = iv (k : Int) ∧ Own h B (fillP (payC p) cs k)
set_option maxHeartbeats 8000000 in
theorem payments_y (S : Ev.Steps Try.prog pr R) (h0 : AHeap) (n : Nat) (hs : Int) (cv : Value) (cs : List C4) (hc : CAt h0 cv cs) (hsz : cs.length ≤ 12) (hv : Hs n cs) (p : Int) (hp1 : 1 ≤ p) (hp2 : p ≤ 1000) :
    Brings Try.prog R 44 [.agg ⟨[iv hs, cv]⟩, iv p] h0 fun v h => ∃ B, v = .slice (some ⟨B, 0, none⟩) cs.length cs.length ∧ h0.nx ≤ B ∧ Own h B (pays p cs) := by
  refine brings_of (fn := Try.f44) (c := (Try.f44.body).getD .skip) (by kernel_rfl) rfl (by kernel_rfl) rfl (fun K hK => ?_)
  generalize hF : finish Try.prog Try.f44 K = KF
  simp only [Try.f44, Option.getD_some, argsT, setArgs, fV1_eq, T.setK_eq, id]
  have hlen := fun t h1 o => hc.len isB t h1 o
  repeat refine S.seq ?_
  refine S.region ?_
  simp (disch := first | omega | (simp only [add_nx, upd_nx] <;> omega) | decide) only [rUz, ↓reduceIte, Nat.reduceEqDiff, Nat.reduceAdd]
  repeat refine S.seq ?_
  refine S.region ?_
  simp (disch := first | omega | (simp only [add_nx, upd_nx] <;> omega) | decide) only [rUz, ↓reduceIte, Nat.reduceEqDiff, Nat.reduceAdd, fieldAddr_ptr fB1 sBc, pBc, hlen, w_makeSlice]
  refine wr_makeInts (k := cs.length) slI info3 z3 info3b info3s (by simp (disch := first | omega | (simp only [add_nx, upd_nx] <;> omega) | decide) only [rUz, ↓reduceIte, Nat.reduceEqDiff, Nat.reduceAdd]) (by simp (disch := first | omega | (simp only [add_nx, upd_nx] <;> omega) | decide) only [rUz, ↓reduceIte, Nat.reduceEqDiff, Nat.reduceAdd]) (by omega) (fun hown => ?_)
  have hk1 : Kp h0 ((h0.add [iv hs, cv]).add ((List.replicate cs.length 0).map iv)) := Kp.refl.add.add
  have hb1 : ((h0.add [iv hs, cv]).add ((List.replicate cs.length 0).map iv)).bl.get h0.nx = some (.cells [iv hs, cv] h0.nx false) := by rw [ag_ne (by show h0.nx ≠ h0.nx + 1; omega)]; exact ag_eq rfl
  simp (disch := first | omega | (simp only [add_nx, upd_nx] <;> omega) | decide) only [rUz, ↓reduceIte, Nat.reduceEqDiff, Nat.reduceAdd]
  have hB : h0.nx ≤ h0.nx + 1 := Nat.le_succ _
  rw [add_nx] at hown
  generalize ((h0.add [iv hs, cv]).add ((List.replicate cs.length 0).map iv)) = H1 at hown hk1 hb1 ⊢
  generalize h0.nx + 1 = B at hown hB ⊢
  repeat refine S.seq ?_
  refine S.region ?_
  simp (disch := first | omega | (simp only [add_nx, upd_nx] <;> omega) | decide) only [rUz, ↓reduceIte, Nat.reduceEqDiff, Nat.reduceAdd, fieldAddr_ptr fB1 sBc, pBc, hb1, hlen]
  repeat refine S.seq ?_
  refine S.block ?_
  refine S.loop (ι := Nat) (IP p cs h0 B cv) (fun k => cs.length - k) ?_ 0 _ _ ?_
  · intro k t h ⟨hk, hkp, t1, t5, t13, t14, t15, how⟩ K' hn he
    have hnx := hkp.1
    repeat refine S.seq ?_
    refine S.region ?_
    simp (disch := first | omega | (simp only [add_nx, upd_nx] <;> omega) | decide) only [rUz, ↓reduceIte, Nat.reduceEqDiff, Nat.reduceAdd, t14, t15]
    repeat refine S.seq ?_
    refine S.cond (v := decide ((k : Int) < (cs.length : Int))) (by first | rfl | (simp (disch := first | omega | (simp only [add_nx, upd_nx] <;> omega) | decide) only [rUz, ↓reduceIte, Nat.reduceEqDiff, Nat.reduceAdd] <;> rfl)) (fun e => ?_) (fun e => ?_)
    · have hkn : k < cs.length := by have := of_decide_eq_true e; omega
      clear e
      have hps : cs[k]? = some cs[k] := List.getElem?_eq_getElem hkn
      have hmem : cs[k] ∈ cs := List.getElem_mem hkn
      generalize cs[k] = c at hps hmem
      obtain ⟨b, fb, ro, cells, q1, q2, q3, q4, q5, _⟩ := (hc.mono hkp).idx slB sL hps
      have qp := part_cc pL q4 q5
      have hpb := payC_bnd hv hp1 hp2 hmem
      obtain ⟨_, hc1, hc2, hc3, hc4⟩ := hv c hmem
      repeat refine S.seq ?_
      refine S.skip ?_
      simp (disch := first | omega | (simp only [add_nx, upd_nx] <;> omega) | decide) only [rUz, ↓reduceIte, Nat.reduceEqDiff, Nat.reduceAdd]
      repeat refine S.seq ?_
      refine S.block ?_
      repeat refine S.seq ?_
      refine S.region ?_
      simp (disch := first | omega | (simp only [add_nx, upd_nx] <;> omega) | decide) only [rUz, ↓reduceIte, Nat.reduceEqDiff, Nat.reduceAdd, t13, t15, q1, q3, qp, wr_alloc zL]
      refine wr_storeN (B := h.nx) (c := [iv 0, iv 0, iv 0, iv 0]) (fam := h.nx) (k := h.nx) (l := cc c) (by simp (disch := first | omega | (simp only [add_nx, upd_nx] <;> omega) | decide) only [rUz, ↓reduceIte, Nat.reduceEqDiff, Nat.reduceAdd]) (by simp (disch := first | omega | (simp only [add_nx, upd_nx] <;> omega) | decide) only [rUz, ↓reduceIte, Nat.reduceEqDiff, Nat.reduceAdd]) sL (by omega) rfl (ag_eq rfl) (af_eq rfl) rfl ?_
      have hk4 : Kp h ((h.add [iv 0, iv 0, iv 0, iv 0]).upd h.nx (cc c) h.nx) := Kp.refl.add.upd (Nat.le_refl _)
      have hg4 : ((h.add [iv 0, iv 0, iv 0, iv 0]).upd h.nx (cc c) h.nx).bl.get h.nx = some (.cells (cc c) h.nx false) := upd_eq _ _ _
      simp (disch := first | omega | (simp only [add_nx, upd_nx] <;> omega) | decide) only [rUz, ↓reduceIte, Nat.reduceEqDiff, Nat.reduceAdd]
      have hblt := how.1
      generalize (h.add [iv 0, iv 0, iv 0, iv 0]).upd h.nx (cc c) h.nx = h4 at hk4 hg4 ⊢
      have how4 := how.mono hk4
      have hkp4 := hkp.trans hk4
      have hfl := fill_len (payC p) cs hk
      have hkl : k < ((fillP (payC p) cs k).map iv).length := by rw [List.length_map]; omega
      repeat refine S.seq ?_
      refine S.region ?_
      simp (disch := first | omega | (simp only [add_nx, upd_nx] <;> omega) | decide) only [rUz, ↓reduceIte, Nat.reduceEqDiff, Nat.reduceAdd, t1, t5, t15, hg4, fieldAddr_ptr fL2 s3, fieldAddr_ptr fL3 s3, p3, cc2, cc3, indexAddr_sl slI s3' hkn]
      refine wr_store s3' ?_
      simp (disch := first | omega | (simp only [add_nx, upd_nx] <;> omega) | decide) only [rUz, ↓reduceIte, Nat.reduceEqDiff, Nat.reduceAdd, how4.2.1, how4.2.2, hkl]
      repeat refine S.seq ?_
      refine S.region ?_
      simp (disch := first | omega | (simp only [add_nx, upd_nx] <;> omega) | decide) only [rUz, ↓reduceIte, Nat.reduceEqDiff, Nat.reduceAdd, t15]
      refine hn (k + 1) _ _ (by omega) ⟨by omega, hkp4.upd (by omega), ?_, ?_, ?_, ?_, ?_, by rw [← fill_step _ hps]; exact how4.upd⟩
      all_goals (first | rfl | (simp (disch := first | omega | (simp only [add_nx, upd_nx] <;> omega) | decide) only [rUz, ↓reduceIte, Nat.reduceEqDiff, Nat.reduceAdd, t1, t5, t13, t14, t15]; done) | (simp (disch := first | omega | (simp only [add_nx, upd_nx] <;> omega) | decide) only [rUz, ↓reduceIte, Nat.reduceEqDiff, Nat.reduceAdd, t1, t5, t13, t14, t15]; rfl))
    · have hkn : k = cs.length := by have := of_decide_eq_false e; omega
      subst hkn
      rw [fill_end] at how
      refine S.exit (he _ _ _ _ (fun e => by cases e) ?_)
      simp (disch := first | omega | (simp only [add_nx, upd_nx] <;> omega) | decide) only [rUz, ↓reduceIte, Nat.reduceEqDiff, Nat.reduceAdd]
      repeat refine S.seq ?_
      refine S.region ?_
      simp (disch := first | omega | (simp only [add_nx, upd_nx] <;> omega) | decide) only [rUz, ↓reduceIte, Nat.reduceEqDiff, Nat.reduceAdd, t5]
      refine S.ret ?_
      try simp only [seqK_ret, blockK_ret]
      subst hF
      simp only [finish, endMarks]
      rw [show Try.f44.results.toList = [.tmp 4] from rfl]
      simp (disch := first | omega | (simp only [add_nx, upd_nx] <;> omega) | decide) only [resA, ev_tmp, tget_ne, tget_eq, get_ne, get_eq, upd_eq, upd_ne, ag_eq, ag_ne, result1]
      exact hK _ _ hkp ⟨B, rfl, hB, how⟩
  · refine ⟨Nat.zero_le _, hk1, ?_, ?_, ?_, ?_, ?_, by rw [fill_zero]; exact hown⟩
    all_goals (first | rfl | (simp (disch := first | omega | (simp only [add_nx, upd_nx] <;> omega) | decide) only [rUz, ↓reduceIte, Nat.reduceEqDiff, Nat.reduceAdd]; done) | (simp (disch := first | omega | (simp only [add_nx, upd_nx] <;> omega) | decide) only [rUz, ↓reduceIte, Nat.reduceEqDiff, Nat.reduceAdd]; rfl))
end Go.Proofs.Rg
