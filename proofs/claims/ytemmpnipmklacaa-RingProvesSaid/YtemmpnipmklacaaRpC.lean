import Derived.Test.YtemmpnipmklacaaRpB
namespace Go.Proofs.Rg
open Go Go.Ev
set_option linter.unusedSimpArgs false

/-! ## What heights prove -/
variable {pr : Prim} {R : ExT}
def provC (hts : List Int) (c : C4) : Int := c.2.2.1 * max2 0 (1 + hts.getD c.1.toNat 0 - hts.getD c.2.1.toNat 0)
def provP (cs : List C4) (hts : List Int) : Int := (cs.map (provC hts)).sum
theorem provC_bnd {n : Nat} {cs : List C4} (hv : Hs n cs) {hts : List Int} (hb : bnd 10 hts) {c : C4} (hc : c ∈ cs) :
    (0 ≤ max2 0 (1 + hts.getD c.1.toNat 0 - hts.getD c.2.1.toNat 0) ∧ max2 0 (1 + hts.getD c.1.toNat 0 - hts.getD c.2.1.toNat 0) ≤ 21) ∧ 0 ≤ provC hts c ∧ provC hts c ≤ 2100 := by
  have h1 := bnd_getD hb (by omega) c.1.toNat
  have h2 := bnd_getD hb (by omega) c.2.1.toNat
  obtain ⟨_, k1, k2, _⟩ := hv c hc
  have hm : 0 ≤ max2 0 (1 + hts.getD c.1.toNat 0 - hts.getD c.2.1.toNat 0) ∧ max2 0 (1 + hts.getD c.1.toNat 0 - hts.getD c.2.1.toNat 0) ≤ 21 := by unfold max2; split <;> omega
  refine ⟨hm, ?_⟩
  unfold provC
  generalize max2 0 (1 + hts.getD c.1.toNat 0 - hts.getD c.2.1.toNat 0) = m at hm
  have a1 : 0 ≤ c.2.2.1 * m := Int.mul_nonneg (by omega) hm.1
  have a2 : c.2.2.1 * m ≤ c.2.2.1 * 21 := Int.mul_le_mul_of_nonneg_left hm.2 (by omega)
  omega
theorem provS_bnd {n : Nat} {cs : List C4} (hv : Hs n cs) {hts : List Int} (hb : bnd 10 hts) : ∀ (l : List C4), (∀ c, c ∈ l → c ∈ cs) → 0 ≤ (l.map (provC hts)).sum ∧ (l.map (provC hts)).sum ≤ 2100 * l.length
  | [], _ => by simp
  | c :: l, h => by
    have h1 := (provC_bnd hv hb (h c (by simp))).2
    have h2 := provS_bnd hv hb l fun x hx => h x (by simp [hx])
    simp only [List.map_cons, List.sum_cons, List.length_cons]; omega
theorem map_take_sum {α : Type} (f : α → Int) (l : List α) (k : Nat) (x : α) (h : l[k]? = some x) : ((l.take (k + 1)).map f).sum = ((l.take k).map f).sum + f x := by
  rw [List.take_add_one, h]
  show ((l.take k ++ [x]).map f).sum = _
  rw [List.map_append, List.sum_append]
  simp

def IPr (cs : List C4) (hts : List Int) (H : AHeap) (cv av : Value) (k : Nat) (t : T Value) (h : AHeap) : Prop :=
  k ≤ cs.length ∧ Kp H h ∧ tget t 1 = av ∧ tget t 5 = iv ((cs.take k).map (provC hts)).sum ∧ tget t 9 = cv ∧ tget t 10 = iv (cs.length : Int) ∧ tget t 11 = iv (k : Int)
set_option maxHeartbeats 16000000 in
theorem proved_y (S : Ev.Steps Try.prog pr R) (hoff : Off pr) (h0 : AHeap) (n : Nat) (hs : Int) (cv : Value) (cs : List C4) (hc : CAt h0 cv cs) (hsz : cs.length ≤ 12) (hv : Hs n cs) (av : Value) (hts : List Int) (ha : IAt h0 av hts) (hl : hts.length = n) (hb : bnd 10 hts) :
    Brings Try.prog R 51 [.agg ⟨[iv hs, cv]⟩, av] h0 fun u _ => u = iv (provP cs hts) := by
  refine brings_of (fn := Try.f51) (c := (Try.f51.body).getD .skip) (by kernel_rfl) rfl (by kernel_rfl) rfl (fun K hK => ?_)
  generalize hF : finish Try.prog Try.f51 K = KF
  simp only [Try.f51, Option.getD_some, argsT, setArgs, fV1_eq, T.setK_eq, id]
  have hlc := fun t h1 o => hc.len isB t h1 o
  repeat refine S.seq ?_
  refine S.region ?_
  simp (disch := first | omega | (simp only [add_nx, upd_nx] <;> omega) | decide) only [rUz, ↓reduceIte, Nat.reduceEqDiff, Nat.reduceAdd]
  have hb1 : (h0.add [iv hs, cv]).bl.get h0.nx = some (.cells [iv hs, cv] h0.nx false) := ag_eq rfl
  have hk1 : Kp h0 (h0.add [iv hs, cv]) := Kp.refl.add
  repeat refine S.seq ?_
  refine S.region ?_
  simp (disch := first | omega | (simp only [add_nx, upd_nx] <;> omega) | decide) only [rUz, ↓reduceIte, Nat.reduceEqDiff, Nat.reduceAdd]
  repeat refine S.seq ?_
  refine S.region ?_
  simp (disch := first | omega | (simp only [add_nx, upd_nx] <;> omega) | decide) only [rUz, ↓reduceIte, Nat.reduceEqDiff, Nat.reduceAdd, fieldAddr_ptr fB1 sBc, pBc, hlc]
  repeat refine S.seq ?_
  refine S.block ?_
  refine S.loop (ι := Nat) (IPr cs hts h0 cv av) (fun k => cs.length - k) ?_ 0 _ _ ?_
  · clear hb1 hk1
    intro k t h ⟨hk, hkp, t1, t5, t9, t10, t11⟩ K' hn he
    repeat refine S.seq ?_
    refine S.region ?_
    simp (disch := first | omega | (simp only [add_nx, upd_nx] <;> omega) | decide) only [rUz, ↓reduceIte, Nat.reduceEqDiff, Nat.reduceAdd, t10, t11]
    repeat refine S.seq ?_
    refine S.cond (v := decide ((k : Int) < (cs.length : Int))) (by first | rfl | (simp (disch := first | omega | (simp only [add_nx, upd_nx] <;> omega) | decide) only [rUz, ↓reduceIte, Nat.reduceEqDiff, Nat.reduceAdd] <;> rfl)) (fun e => ?_) (fun e => ?_)
    · have hkn : k < cs.length := by have := of_decide_eq_true e; omega
      clear e
      have hps : cs[k]? = some cs[k] := List.getElem?_eq_getElem hkn
      have hmem : cs[k] ∈ cs := List.getElem_mem hkn
      generalize cs[k] = c at hps hmem
      obtain ⟨⟨f, to, hf, hto, hfn, htn, hne⟩, hc1, hc2, _⟩ := hv c hmem
      have hpc := provC_bnd hv hb hmem
      have hsm := provS_bnd hv hb (cs.take k) fun x hx => List.mem_of_mem_take hx
      have htl : ((cs.take k).length : Int) ≤ 12 := by rw [List.length_take]; omega
      have hst := map_take_sum (provC hts) cs k c hps
      obtain ⟨b, fb, ro, cells, q1, q2, q3, q4, q5, _⟩ := (hc.mono hkp).idx slB sL hps
      have qp := part_cc pL q4 q5
      have cf0 : (cc c)[0]? = some (iv (f : Int)) := by rw [cc0, hf]
      have cf1 : (cc c)[1]? = some (iv (to : Int)) := by rw [cc1, hto]
      have hgf := bnd_getD hb (by omega) f
      have hgt := bnd_getD hb (by omega) to
      have hpd : provC hts c = c.2.2.1 * max2 0 (1 + hts.getD f 0 - hts.getD to 0) := by unfold provC; rw [hf, hto, Int.toNat_natCast, Int.toNat_natCast]
      rw [hf, hto, Int.toNat_natCast, Int.toNat_natCast, hpd] at hpc
      rw [hpd] at hst
      generalize hD : max2 0 (1 + hts.getD f 0 - hts.getD to 0) = D at hpc hst
      generalize ((cs.take k).map (provC hts)).sum = sm at hsm t5 hst
      repeat refine S.seq ?_
      refine S.skip ?_
      simp (disch := first | omega | (simp only [add_nx, upd_nx] <;> omega) | decide) only [rUz, ↓reduceIte, Nat.reduceEqDiff, Nat.reduceAdd]
      repeat refine S.seq ?_
      refine S.block ?_
      repeat refine S.seq ?_
      refine S.region ?_
      simp (disch := first | omega | (simp only [add_nx, upd_nx] <;> omega) | decide) only [rUz, ↓reduceIte, Nat.reduceEqDiff, Nat.reduceAdd, t9, t11, q1, q3, qp, wr_alloc zL]
      refine wr_storeN (B := h.nx) (c := [iv 0, iv 0, iv 0, iv 0]) (fam := h.nx) (k := h.nx) (l := cc c) (by simp (disch := first | omega | (simp only [add_nx, upd_nx] <;> omega) | decide) only [rUz, ↓reduceIte, Nat.reduceEqDiff, Nat.reduceAdd]) (by simp (disch := first | omega | (simp only [add_nx, upd_nx] <;> omega) | decide) only [rUz, ↓reduceIte, Nat.reduceEqDiff, Nat.reduceAdd]) sL (by omega) rfl (ag_eq rfl) (af_eq rfl) rfl ?_
      have hk4 : Kp h ((h.add [iv 0, iv 0, iv 0, iv 0]).upd h.nx (cc c) h.nx) := Kp.refl.add.upd (Nat.le_refl _)
      have hg4 : ((h.add [iv 0, iv 0, iv 0, iv 0]).upd h.nx (cc c) h.nx).bl.get h.nx = some (.cells (cc c) h.nx false) := upd_eq _ _ _
      have hlt7 : h.nx < ((h.add [iv 0, iv 0, iv 0, iv 0]).upd h.nx (cc c) h.nx).nx := Nat.lt_succ_self _
      simp (disch := first | omega | (simp only [add_nx, upd_nx] <;> omega) | decide) only [rUz, ↓reduceIte, Nat.reduceEqDiff, Nat.reduceAdd]
      generalize (h.add [iv 0, iv 0, iv 0, iv 0]).upd h.nx (cc c) h.nx = h4 at hk4 hg4 hlt7 ⊢
      have hkp4 := hkp.trans hk4
      generalize h.nx = B7 at hg4 hlt7 ⊢
      clear q1 q2 q3 q4 q5 qp hk4 hkp
      obtain ⟨ba, fa, ra, a1, a2, a3, a4⟩ := (ha.mono hkp4).idx slI s3' (by omega : f < hts.length)
      obtain ⟨bb, fb2, rb, b1, b2, b3, b4⟩ := (ha.mono hkp4).idx slI s3' (by omega : to < hts.length)
      rw [getD_of] at a4 b4
      repeat refine S.seq ?_
      refine S.drawnL [(false, 0), (false, 0), (false, 2), (false, 0), (false, 0), (false, 16), (false, 56), (false, 120), (false, 248), (false, 0), (false, 0), (false, 1024), (false, 3584), (false, 7680), (false, 16376), (true, 32760), (true, 65528), (false, 131070), (false, 262143), (false, 524287)] (by kernel_rfl) (by kernel_rfl) (by kernel_rfl) ?_
      simp (disch := first | omega | (simp only [add_nx, upd_nx] <;> omega) | decide) only [rUz, ↓reduceIte, Nat.reduceEqDiff, Nat.reduceAdd, rDz, infoL, Nat.reduceSub, t1, t5, hg4, fieldAddr_ptr fL0 s3, fieldAddr_ptr fL1 s3, fieldAddr_ptr fL2 s3, p3, cf0, cf1, cc2, a1, a3, a4, b1, b3, b4]
      refine drW_some (v := .slice (some ⟨h4.nx, 0, none⟩) 1 1) (h' := h4.add [iv (1 + hts.getD f 0 - hts.getD to 0)]) (aw_lit1 slI s3' z3 rfl (by omega) (u := iv (1 + hts.getD f 0 - hts.getD to 0)) (l := [iv (1 + hts.getD f 0 - hts.getD to 0)]) (by simp (disch := first | omega | (simp only [add_nx, upd_nx] <;> omega) | decide) only [rUz, ↓reduceIte, Nat.reduceEqDiff, Nat.reduceAdd]) rfl rfl) (Nat.le_of_ble_eq_true rfl) ?_ ?_
      · try simp (disch := first | decide | rfl) only [again_nil, again_skip, again_free]
        rw [again_same (v := iv c.2.2.1) (by simp (disch := first | omega | (simp only [add_nx, upd_nx] <;> omega) | decide) only [rUz, ↓reduceIte, Nat.reduceEqDiff, Nat.reduceAdd, rDz, infoL, Nat.reduceSub, ag_ne, hg4, p3, cc2]) veq_int]
        try simp (disch := first | decide | rfl) only [again_nil, again_skip, again_free]
      simp (disch := first | omega | (simp only [add_nx, upd_nx] <;> omega) | decide) only [rUz, ↓reduceIte, Nat.reduceEqDiff, Nat.reduceAdd, rDz, infoL, Nat.reduceSub]
      have hix : IAt (h4.add [iv (1 + hts.getD f 0 - hts.getD to 0)]) (.slice (some ⟨h4.nx, 0, none⟩) 1 1) [1 + hts.getD f 0 - hts.getD to 0] := .inr ⟨h4.nx, 1, h4.nx, false, rfl, Nat.lt_succ_self _, ag_eq rfl⟩
      refine drW_brings (fid := 68) (first := #[]) (captured := #[]) (Post := fun u h' => u = iv D ∧ h' = h4.add [iv (1 + hts.getD f 0 - hts.getD to 0)]) (by first | rfl | (simp (disch := first | omega | (simp only [add_nx, upd_nx] <;> omega) | decide) only [rUz, ↓reduceIte, Nat.reduceEqDiff, Nat.reduceAdd]; rfl) | (simp (disch := first | omega | (simp only [add_nx, upd_nx] <;> omega) | decide) only [rUz, ↓reduceIte, Nat.reduceEqDiff, Nat.reduceAdd])) (hoff _ _ _ rfl) (by simp (disch := first | omega | (simp only [add_nx, upd_nx] <;> omega) | decide) only [rUz, ↓reduceIte, Nat.reduceEqDiff, Nat.reduceAdd]; exact (by rw [← hD]; exact greatest_y S _ 0 _ _ hix (by simp))) (Nat.le_of_ble_eq_true rfl) ?_
      rintro v g - ⟨rfl, rfl⟩
      refine ⟨?_, ?_⟩
      · try simp (disch := first | decide | rfl) only [again_nil, again_skip, again_free]
        rw [again_same (v := iv c.2.2.1) (by simp (disch := first | omega | (simp only [add_nx, upd_nx] <;> omega) | decide) only [rUz, ↓reduceIte, Nat.reduceEqDiff, Nat.reduceAdd, rDz, infoL, Nat.reduceSub, ag_ne, hg4, p3, cc2]) veq_int]
        try simp (disch := first | decide | rfl) only [again_nil, again_skip, again_free]
      simp (disch := first | omega | (simp only [add_nx, upd_nx] <;> omega) | decide) only [rUz, ↓reduceIte, Nat.reduceEqDiff, Nat.reduceAdd, rDz, infoL, Nat.reduceSub]
      repeat refine S.seq ?_
      refine S.region ?_
      simp (disch := first | omega | (simp only [add_nx, upd_nx] <;> omega) | decide) only [rUz, ↓reduceIte, Nat.reduceEqDiff, Nat.reduceAdd, t11]
      refine hn (k + 1) _ _ (by omega) ⟨by omega, hkp4.add, ?_, ?_, ?_, ?_, ?_⟩
      rotate_right
      all_goals (try rw [hst])
      all_goals (first | rfl | (simp (disch := first | omega | (simp only [add_nx, upd_nx] <;> omega) | decide) only [rUz, ↓reduceIte, Nat.reduceEqDiff, Nat.reduceAdd, t1, t5, t9, t10, t11]; done) | (simp (disch := first | omega | (simp only [add_nx, upd_nx] <;> omega) | decide) only [rUz, ↓reduceIte, Nat.reduceEqDiff, Nat.reduceAdd, t1, t5, t9, t10, t11]; rfl))
    · have hkn : k = cs.length := by have := of_decide_eq_false e; omega
      subst hkn
      rw [List.take_of_length_le (Nat.le_refl _)] at t5
      refine S.exit (he _ _ _ _ (fun e => by cases e) ?_)
      simp (disch := first | omega | (simp only [add_nx, upd_nx] <;> omega) | decide) only [rUz, ↓reduceIte, Nat.reduceEqDiff, Nat.reduceAdd]
      repeat refine S.seq ?_
      refine S.region ?_
      simp (disch := first | omega | (simp only [add_nx, upd_nx] <;> omega) | decide) only [rUz, ↓reduceIte, Nat.reduceEqDiff, Nat.reduceAdd, t5]
      refine S.ret ?_
      try simp only [seqK_ret, blockK_ret]
      subst hF
      simp only [finish, endMarks]
      rw [show Try.f51.results.toList = [.tmp 4] from rfl]
      simp (disch := first | omega | (simp only [add_nx, upd_nx] <;> omega) | decide) only [resA, ev_tmp, tget_ne, tget_eq, get_ne, get_eq, upd_eq, upd_ne, ag_eq, ag_ne, result1]
      exact hK _ _ hkp rfl
  · refine ⟨Nat.zero_le _, hk1, ?_, ?_, ?_, ?_, ?_⟩
    all_goals (first | rfl | (simp (disch := first | omega | (simp only [add_nx, upd_nx] <;> omega) | decide) only [rUz, ↓reduceIte, Nat.reduceEqDiff, Nat.reduceAdd, List.take_zero, List.map_nil, List.sum_nil]; done) | (simp (disch := first | omega | (simp only [add_nx, upd_nx] <;> omega) | decide) only [rUz, ↓reduceIte, Nat.reduceEqDiff, Nat.reduceAdd, List.take_zero, List.map_nil, List.sum_nil]; rfl))

/-! ## Sums -/
theorem bnd_sum {B : Int} : ∀ {l : List Int}, bnd B l → -(B * l.length) ≤ l.sum ∧ l.sum ≤ B * l.length
  | [], _ => by simp
  | x :: l, h => by
    have h1 := h x (by simp)
    have h2 := bnd_sum (l := l) fun y hy => h y (by simp [hy])
    rw [List.sum_cons, List.length_cons, Int.natCast_add, Int.mul_add]
    omega
theorem take_sum {l : List Int} {k : Nat} (h : k < l.length) : (l.take (k + 1)).sum = (l.take k).sum + l[k] := by
  rw [List.take_add_one, List.getElem?_eq_getElem h]
  show (l.take k ++ [l[k]]).sum = _
  rw [List.sum_append, List.sum_cons, List.sum_nil, Int.add_zero]
def ISu (l : List Int) (h0 : AHeap) (v : Value) (k : Nat) (t : T Value) (h : AHeap) : Prop :=
  k ≤ l.length ∧ h = h0 ∧ tget t 3 = iv (l.take k).sum ∧ tget t 6 = v ∧ tget t 7 = iv (l.length : Int) ∧ tget t 8 = iv (k : Int)
set_option maxHeartbeats 8000000 in
theorem sum_y (S : Ev.Steps Try.prog pr R) (h0 : AHeap) (v : Value) (l : List Int) (hl : IAt h0 v l) (hsz : l.length ≤ 1000) (hb : bnd 10000000 l) :
    Brings Try.prog R 52 [v] h0 fun u h => u = iv l.sum ∧ h = h0 := by
  refine brings_of (fn := Try.f52) (c := (Try.f52.body).getD .skip) (by kernel_rfl) rfl (by kernel_rfl) rfl (fun K hK => ?_)
  generalize hF : finish Try.prog Try.f52 K = KF
  simp only [Try.f52, Option.getD_some, argsT, setArgs, fV1_eq, T.setK_eq, id]
  have hlen := fun t h1 o => hl.len isI t h1 o
  repeat refine S.seq ?_
  refine S.region ?_
  simp (disch := first | omega | (simp only [add_nx, upd_nx] <;> omega) | decide) only [rUz, ↓reduceIte, Nat.reduceEqDiff, Nat.reduceAdd]
  repeat refine S.seq ?_
  refine S.region ?_
  simp (disch := first | omega | (simp only [add_nx, upd_nx] <;> omega) | decide) only [rUz, ↓reduceIte, Nat.reduceEqDiff, Nat.reduceAdd]
  repeat refine S.seq ?_
  refine S.region ?_
  simp (disch := first | omega | (simp only [add_nx, upd_nx] <;> omega) | decide) only [rUz, ↓reduceIte, Nat.reduceEqDiff, Nat.reduceAdd, hlen]
  repeat refine S.seq ?_
  refine S.block ?_
  refine S.loop (ι := Nat) (ISu l h0 v) (fun k => l.length - k) ?_ 0 _ _ ?_
  · intro k t h ⟨hk, hh, t3, t6, t7, t8⟩ K' hn he
    subst hh
    repeat refine S.seq ?_
    refine S.region ?_
    simp (disch := first | omega | (simp only [add_nx, upd_nx] <;> omega) | decide) only [rUz, ↓reduceIte, Nat.reduceEqDiff, Nat.reduceAdd, t7, t8]
    repeat refine S.seq ?_
    refine S.cond (v := decide ((k : Int) < (l.length : Int))) (by first | rfl | (simp (disch := first | omega | (simp only [add_nx, upd_nx] <;> omega) | decide) only [rUz, ↓reduceIte, Nat.reduceEqDiff, Nat.reduceAdd] <;> rfl)) (fun e => ?_) (fun e => ?_)
    · have hkn : k < l.length := by have := of_decide_eq_true e; omega
      clear e
      obtain ⟨b, f, ro, q1, q2, q3, q4⟩ := hl.idx slI s3' hkn
      have hx := hb l[k] (List.getElem_mem hkn)
      have hbt := bnd_sum (l := l.take k) (B := 10000000) fun y hy => hb y (List.mem_of_mem_take hy)
      have hlt : ((l.take k).length : Int) ≤ 1000 := by rw [List.length_take]; omega
      have hs := take_sum hkn
      repeat refine S.seq ?_
      refine S.skip ?_
      simp (disch := first | omega | (simp only [add_nx, upd_nx] <;> omega) | decide) only [rUz, ↓reduceIte, Nat.reduceEqDiff, Nat.reduceAdd]
      repeat refine S.seq ?_
      refine S.block ?_
      repeat refine S.seq ?_
      refine S.region ?_
      simp (disch := first | omega | (simp only [add_nx, upd_nx] <;> omega) | decide) only [rUz, ↓reduceIte, Nat.reduceEqDiff, Nat.reduceAdd, t6, t8, q1, q3, q4, p3]
      repeat refine S.seq ?_
      refine S.region ?_
      simp (disch := first | omega | (simp only [add_nx, upd_nx] <;> omega) | decide) only [rUz, ↓reduceIte, Nat.reduceEqDiff, Nat.reduceAdd, t3]
      repeat refine S.seq ?_
      refine S.region ?_
      simp (disch := first | omega | (simp only [add_nx, upd_nx] <;> omega) | decide) only [rUz, ↓reduceIte, Nat.reduceEqDiff, Nat.reduceAdd, t8]
      refine hn (k + 1) _ _ (by omega) ⟨by omega, rfl, ?_, ?_, ?_, ?_⟩
      rotate_right
      all_goals (try rw [hs])
      all_goals (first | rfl | (simp (disch := first | omega | (simp only [add_nx, upd_nx] <;> omega) | decide) only [rUz, ↓reduceIte, Nat.reduceEqDiff, Nat.reduceAdd, t3, t6, t7, t8]; done) | (simp (disch := first | omega | (simp only [add_nx, upd_nx] <;> omega) | decide) only [rUz, ↓reduceIte, Nat.reduceEqDiff, Nat.reduceAdd, t3, t6, t7, t8]; rfl))
    · have hkn : k = l.length := by have := of_decide_eq_false e; omega
      subst hkn
      rw [List.take_of_length_le (Nat.le_refl _)] at t3
      refine S.exit (he _ _ _ _ (fun e => by cases e) ?_)
      simp (disch := first | omega | (simp only [add_nx, upd_nx] <;> omega) | decide) only [rUz, ↓reduceIte, Nat.reduceEqDiff, Nat.reduceAdd]
      repeat refine S.seq ?_
      refine S.region ?_
      simp (disch := first | omega | (simp only [add_nx, upd_nx] <;> omega) | decide) only [rUz, ↓reduceIte, Nat.reduceEqDiff, Nat.reduceAdd, t3]
      refine S.ret ?_
      try simp only [seqK_ret, blockK_ret]
      subst hF
      simp only [finish, endMarks]
      rw [show Try.f52.results.toList = [.tmp 2] from rfl]
      simp (disch := first | omega | (simp only [add_nx, upd_nx] <;> omega) | decide) only [resA, ev_tmp, tget_ne, tget_eq, get_ne, get_eq, upd_eq, upd_ne, ag_eq, ag_ne, result1]
      exact hK _ _ Kp.refl ⟨rfl, rfl⟩
  · refine ⟨Nat.zero_le _, rfl, ?_, ?_, ?_, ?_⟩
    all_goals (first | rfl | (simp (disch := first | omega | (simp only [add_nx, upd_nx] <;> omega) | decide) only [rUz, ↓reduceIte, Nat.reduceEqDiff, Nat.reduceAdd, List.take_zero, List.sum_nil]; done) | (simp (disch := first | omega | (simp only [add_nx, upd_nx] <;> omega) | decide) only [rUz, ↓reduceIte, Nat.reduceEqDiff, Nat.reduceAdd, List.take_zero, List.sum_nil]; rfl))

/-- What the program says of a setting off and heights. -/
def pgP (hs : Int) (cs : List C4) (am hts : List Int) : Bool :=
  decide (faultZ hs cs = 0) && ((partB cs am && (bal hs.toNat cs am).all fun x => decide (x = 0)) && ((decide ((hts.length : Int) = hs) && hts.all fun x => inB x (-10) 10) && decide (provP cs hts = am.sum)))
theorem bnd_of_all {l : List Int} (h : (l.all fun x => inB x (-10) 10) = true) : bnd 10 l := fun x hx => by
  have := List.all_eq_true.1 h x hx
  simp only [inB, Bool.and_eq_true, decide_eq_true_eq] at this
  omega
set_option maxHeartbeats 8000000 in
theorem proveGreatest_y (S : Ev.Steps Try.prog pr R) (hoff : Off pr) (h0 : AHeap) (hs : Int) (cv : Value) (cs : List C4) (hc : CAt h0 cv cs) (hsz : cs.length ≤ 12) (av : Value) (am : List Int) (ha : IAt h0 av am) (hv : Value) (hts : List Int) (hh : IAt h0 hv hts) (hhl : hts.length ≤ 8) :
    Brings Try.prog R 27 [.agg ⟨[iv hs, cv]⟩, av, hv] h0 fun u _ => u = .bool (pgP hs cs am hts) := by
  refine brings_of (fn := Try.f27) (c := (Try.f27.body).getD .skip) (by kernel_rfl) rfl (by kernel_rfl) rfl (fun K hK => ?_)
  generalize hF : finish Try.prog Try.f27 K = KF
  simp only [Try.f27, Option.getD_some, argsT, setArgs, fV1_eq, T.setK_eq, id]
  repeat refine S.seq ?_
  refine S.region ?_
  simp (disch := first | omega | (simp only [add_nx, upd_nx] <;> omega) | decide) only [rUz, ↓reduceIte, Nat.reduceEqDiff, Nat.reduceAdd]
  have hb1 : (h0.add [iv hs, cv]).bl.get h0.nx = some (.cells [iv hs, cv] h0.nx false) := ag_eq rfl
  have hk1 : Kp h0 (h0.add [iv hs, cv]) := Kp.refl.add
  have hlt : h0.nx < (h0.add [iv hs, cv]).nx := Nat.lt_succ_self _
  generalize h0.add [iv hs, cv] = H1 at hb1 hk1 hlt ⊢
  unfold pgP at hK
  repeat refine S.seq ?_
  refine S.region ?_
  simp (disch := first | omega | (simp only [add_nx, upd_nx] <;> omega) | decide) only [rUz, ↓reduceIte, Nat.reduceEqDiff, Nat.reduceAdd, hb1, pB]
  refine wr_brings (fid := 14) (first := #[]) (captured := #[]) (Post := fun v _ => v = iv (faultZ hs cs)) (by first | rfl | (simp (disch := first | omega | (simp only [add_nx, upd_nx] <;> omega) | decide) only [rUz, ↓reduceIte, Nat.reduceEqDiff, Nat.reduceAdd] <;> rfl)) (hoff _ _ _ rfl) (by simp (disch := first | omega | (simp only [add_nx, upd_nx] <;> omega) | decide) only [rUz, ↓reduceIte, Nat.reduceEqDiff, Nat.reduceAdd]; exact check_y S hoff _ hs cv cs (hc.mono hk1) (by omega)) ?_
  rintro v g hk rfl
  have hb2 := (hk.get hlt).trans hb1
  have hk2 := hk1.trans hk
  by_cases hz : faultZ hs cs = 0
  rotate_left
  · rw [decide_eq_false hz, Bool.false_and] at hK
    have hd : (!decide (faultZ hs cs = 0)) = true := by rw [decide_eq_false hz]; rfl
    simp (disch := first | omega | (simp only [add_nx, upd_nx] <;> omega) | decide) only [rUz, ↓reduceIte, Nat.reduceEqDiff, Nat.reduceAdd, hd]
    repeat refine S.seq ?_
    refine S.cond (v := true) (by first | rfl | (simp (disch := first | omega | (simp only [add_nx, upd_nx] <;> omega) | decide) only [rUz, ↓reduceIte, Nat.reduceEqDiff, Nat.reduceAdd] <;> rfl)) (fun _ => ?_) (fun e => by cases e)
    repeat refine S.seq ?_
    refine S.region ?_
    simp (disch := first | omega | (simp only [add_nx, upd_nx] <;> omega) | decide) only [rUz, ↓reduceIte, Nat.reduceEqDiff, Nat.reduceAdd]
    refine S.ret ?_
    try simp only [seqK_ret, blockK_ret]
    subst hF
    simp only [finish, endMarks]
    rw [show Try.f27.results.toList = [.tmp 6] from rfl]
    simp (disch := first | omega | (simp only [add_nx, upd_nx] <;> omega) | decide) only [resA, ev_tmp, tget_ne, tget_eq, get_ne, get_eq, upd_eq, upd_ne, ag_eq, ag_ne, result1]
    exact hK _ _ hk2 rfl
  rw [decide_eq_true hz, Bool.true_and] at hK
  obtain ⟨n, rfl, hn1, hn6, hcl, hv'⟩ := Hs.of_fault hz
  rw [Int.toNat_natCast] at hK
  have hd : (!decide (faultZ (n : Int) cs = 0)) = false := by rw [decide_eq_true hz]; rfl
  simp (disch := first | omega | (simp only [add_nx, upd_nx] <;> omega) | decide) only [rUz, ↓reduceIte, Nat.reduceEqDiff, Nat.reduceAdd, hd, hb2, pB]
  refine wr_brings (fid := 49) (first := #[]) (captured := #[]) (Post := fun u _ => u = .bool (partB cs am && (bal n cs am).all fun x => decide (x = 0))) (by first | rfl | (simp (disch := first | omega | (simp only [add_nx, upd_nx] <;> omega) | decide) only [rUz, ↓reduceIte, Nat.reduceEqDiff, Nat.reduceAdd] <;> rfl)) (hoff _ _ _ rfl) (by simp (disch := first | omega | (simp only [add_nx, upd_nx] <;> omega) | decide) only [rUz, ↓reduceIte, Nat.reduceEqDiff, Nat.reduceAdd]; exact isSettingOff_y S hoff g n hn6 cv cs (hc.mono hk2) hsz hv' av am (ha.mono hk2)) ?_
  rintro v g2 hk3 rfl
  have hb3 := (hk3.get (Nat.lt_of_lt_of_le hlt hk.1)).trans hb2
  have hk4 := hk2.trans hk3
  have hlt3 : h0.nx < g2.nx := by have := hk.1; have := hk3.1; omega
  cases hso : (partB cs am && (bal n cs am).all fun x => decide (x = 0)) with
  | false =>
    rw [hso, Bool.false_and] at hK
    simp (disch := first | omega | (simp only [add_nx, upd_nx] <;> omega) | decide) only [rUz, ↓reduceIte, Nat.reduceEqDiff, Nat.reduceAdd, hso, un_not, Bool.not_false]
    repeat refine S.seq ?_
    refine S.cond (v := true) (by first | rfl | (simp (disch := first | omega | (simp only [add_nx, upd_nx] <;> omega) | decide) only [rUz, ↓reduceIte, Nat.reduceEqDiff, Nat.reduceAdd] <;> rfl)) (fun _ => ?_) (fun e => by cases e)
    repeat refine S.seq ?_
    refine S.region ?_
    simp (disch := first | omega | (simp only [add_nx, upd_nx] <;> omega) | decide) only [rUz, ↓reduceIte, Nat.reduceEqDiff, Nat.reduceAdd]
    refine S.ret ?_
    try simp only [seqK_ret, blockK_ret]
    subst hF
    simp only [finish, endMarks]
    rw [show Try.f27.results.toList = [.tmp 6] from rfl]
    simp (disch := first | omega | (simp only [add_nx, upd_nx] <;> omega) | decide) only [resA, ev_tmp, tget_ne, tget_eq, get_ne, get_eq, upd_eq, upd_ne, ag_eq, ag_ne, result1]
    exact hK _ _ hk4 rfl
  | true =>
  rw [hso, Bool.true_and] at hK
  simp only [Bool.and_eq_true] at hso
  simp (disch := first | omega | (simp only [add_nx, upd_nx] <;> omega) | decide) only [rUz, ↓reduceIte, Nat.reduceEqDiff, Nat.reduceAdd, hso, un_not, Bool.not_true, hb3, pB]
  refine wr_brings (fid := 50) (first := #[]) (captured := #[]) (Post := fun u _ => u = .bool (decide ((hts.length : Int) = (n : Int)) && hts.all fun x => inB x (-10) 10)) (by first | rfl | (simp (disch := first | omega | (simp only [add_nx, upd_nx] <;> omega) | decide) only [rUz, ↓reduceIte, Nat.reduceEqDiff, Nat.reduceAdd] <;> rfl)) (hoff _ _ _ rfl) (by simp (disch := first | omega | (simp only [add_nx, upd_nx] <;> omega) | decide) only [rUz, ↓reduceIte, Nat.reduceEqDiff, Nat.reduceAdd]; exact areHeights_y S hoff g2 _ cv hv hts (hh.mono hk4) (by omega)) ?_
  rintro v g3 hk5 rfl
  have hb4 := (hk5.get hlt3).trans hb3
  have hk6 := hk4.trans hk5
  cases hah : (decide ((hts.length : Int) = (n : Int)) && hts.all fun x => inB x (-10) 10) with
  | false =>
    rw [hah, Bool.false_and] at hK
    simp (disch := first | omega | (simp only [add_nx, upd_nx] <;> omega) | decide) only [rUz, ↓reduceIte, Nat.reduceEqDiff, Nat.reduceAdd, hah, un_not, Bool.not_false]
    repeat refine S.seq ?_
    refine S.cond (v := true) (by first | rfl | (simp (disch := first | omega | (simp only [add_nx, upd_nx] <;> omega) | decide) only [rUz, ↓reduceIte, Nat.reduceEqDiff, Nat.reduceAdd] <;> rfl)) (fun _ => ?_) (fun e => by cases e)
    repeat refine S.seq ?_
    refine S.region ?_
    simp (disch := first | omega | (simp only [add_nx, upd_nx] <;> omega) | decide) only [rUz, ↓reduceIte, Nat.reduceEqDiff, Nat.reduceAdd]
    refine S.ret ?_
    try simp only [seqK_ret, blockK_ret]
    subst hF
    simp only [finish, endMarks]
    rw [show Try.f27.results.toList = [.tmp 6] from rfl]
    simp (disch := first | omega | (simp only [add_nx, upd_nx] <;> omega) | decide) only [resA, ev_tmp, tget_ne, tget_eq, get_ne, get_eq, upd_eq, upd_ne, ag_eq, ag_ne, result1]
    exact hK _ _ hk6 rfl
  | true =>
  rw [hah, Bool.true_and] at hK
  simp only [Bool.and_eq_true, decide_eq_true_eq] at hah
  simp (disch := first | omega | (simp only [add_nx, upd_nx] <;> omega) | decide) only [rUz, ↓reduceIte, Nat.reduceEqDiff, Nat.reduceAdd, hah, un_not, Bool.not_true]
  repeat refine S.seq ?_
  refine S.cond (v := false) (by first | rfl | (simp (disch := first | omega | (simp only [add_nx, upd_nx] <;> omega) | decide) only [rUz, ↓reduceIte, Nat.reduceEqDiff, Nat.reduceAdd] <;> rfl)) (fun e => by cases e) (fun _ => ?_)
  repeat refine S.seq ?_
  refine S.skip ?_
  simp (disch := first | omega | (simp only [add_nx, upd_nx] <;> omega) | decide) only [rUz, ↓reduceIte, Nat.reduceEqDiff, Nat.reduceAdd]
  repeat refine S.seq ?_
  refine S.region ?_
  simp (disch := first | omega | (simp only [add_nx, upd_nx] <;> omega) | decide) only [rUz, ↓reduceIte, Nat.reduceEqDiff, Nat.reduceAdd, hb4, pB]
  refine wr_brings (fid := 51) (first := #[]) (captured := #[]) (Post := fun u _ => u = iv (provP cs hts)) (by first | rfl | (simp (disch := first | omega | (simp only [add_nx, upd_nx] <;> omega) | decide) only [rUz, ↓reduceIte, Nat.reduceEqDiff, Nat.reduceAdd] <;> rfl)) (hoff _ _ _ rfl) (by simp (disch := first | omega | (simp only [add_nx, upd_nx] <;> omega) | decide) only [rUz, ↓reduceIte, Nat.reduceEqDiff, Nat.reduceAdd]; exact proved_y S hoff g3 n _ cv cs (hc.mono hk6) hsz hv' hv hts (hh.mono hk6) (by omega) (bnd_of_all hah.2)) ?_
  rintro v g4 hk7 rfl
  simp (disch := first | omega | (simp only [add_nx, upd_nx] <;> omega) | decide) only [rUz, ↓reduceIte, Nat.reduceEqDiff, Nat.reduceAdd]
  refine wr_brings (fid := 52) (first := #[]) (captured := #[]) (Post := fun u h => u = iv am.sum ∧ h = g4) (by first | rfl | (simp (disch := first | omega | (simp only [add_nx, upd_nx] <;> omega) | decide) only [rUz, ↓reduceIte, Nat.reduceEqDiff, Nat.reduceAdd] <;> rfl)) (hoff _ _ _ rfl) (by simp (disch := first | omega | (simp only [add_nx, upd_nx] <;> omega) | decide) only [rUz, ↓reduceIte, Nat.reduceEqDiff, Nat.reduceAdd]; exact sum_y S g4 av am (ha.mono (hk6.trans hk7)) (by rw [partB_len hso.1]; omega) (bnd_mono (partB_bnd hv' hso.1) (by omega))) ?_
  rintro v g5 - ⟨rfl, rfl⟩
  simp (disch := first | omega | (simp only [add_nx, upd_nx] <;> omega) | decide) only [rUz, ↓reduceIte, Nat.reduceEqDiff, Nat.reduceAdd]
  refine S.ret ?_
  try simp only [seqK_ret, blockK_ret]
  subst hF
  simp only [finish, endMarks]
  rw [show Try.f27.results.toList = [.tmp 6] from rfl]
  simp (disch := first | omega | (simp only [add_nx, upd_nx] <;> omega) | decide) only [resA, ev_tmp, tget_ne, tget_eq, get_ne, get_eq, upd_eq, upd_ne, ag_eq, ag_ne, result1]
  exact hK _ _ (hk6.trans hk7) rfl
end Go.Proofs.Rg
