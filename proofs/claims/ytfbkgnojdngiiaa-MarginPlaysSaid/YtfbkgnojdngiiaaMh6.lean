import Derived.Test.YtfbkgnojdngiiaaMh5
/- The debts and calls of a loan, by the words of the document. -/
namespace Go.Proofs.Mg
open Go Go.Ev Go.RowKit
set_option linter.unusedSimpArgs false
variable {pr : Prim} {R : ExT}
structure IRn (m g : Int) (vs rs : Nat → Int) (n : Nat) (H : AHeap) (B3 B4 B12 : Nat) (k : Nat) (t : T Value) (h : AHeap) : Prop where
  kp : Kp H h
  ex : ∃ xs xv yv zv F1 F2 F3, Tri H.nx h xs (i1 (callsZ m g vs rs k)) (i1 (aftersZ m g vs rs k)) xv yv zv F1 F2 F3 ∧ xs.length = k ∧ tget t 9 = xv ∧ tget t 10 = yv ∧ tget t 11 = zv
  t3 : tget t 3 = ptr0 B3
  t4 : tget t 4 = ptr0 B4
  t12 : tget t 12 = ptr0 B12
  t13 : tget t 13 = iv (debtZ m g vs rs k)
  t14 : tget t 14 = iv (k : Int)
  hk : k ≤ n
def RunAt (m g : Int) (vs rs : Nat → Int) (n : Nat) (u : Value) (h : AHeap) : Prop := ∃ u1 u2 u3, u = .tuple ⟨[u1, u2, u3]⟩ ∧ IAt h u2 (callsZ m g vs rs n) ∧ IAt h u3 (aftersZ m g vs rs n)
set_option maxHeartbeats 16000000 in
theorem run_y (S : Ev.Steps Try.prog pr R) (hoff : Off pr) (h0 : AHeap) (st : Int) (dv lv pv rv : Value) (D : List PD) (L : List PL) (T' : List PT) (rt : List Int) (hb : BkAt h0 dv lv D L) (ht : TuAt h0 pv rv T' rt) (hv : Val st D L) (htr : Tru st D.length T' rt) (i : Nat) (x : PL) (hx : L[i]? = some x) :
    Brings Try.prog R 30 [.agg ⟨bkV st dv lv⟩, .agg ⟨tuV pv rv⟩, iv (i : Int)] h0 fun u h => RunAt x.2.1 x.2.2.1 (vsF x.2.2.2 T') (rsF rt) D.length u h := by
  refine brings_of (fn := Try.f30) (c := (Try.f30.body).getD .skip) (by kernel_rfl) rfl (by kernel_rfl) rfl (fun K hK => ?_)
  generalize hF : finish Try.prog Try.f30 K = KF
  simp only [Try.f30, Option.getD_some, argsT, setArgs, fV1_eq, T.setK_eq, id]
  have lD := fun t h1 o => row_len hb.dy isrD t h1 o
  have hxm : x ∈ L := List.mem_of_getElem? hx
  have hok := okL_iff.1 (hv.ln x hxm)
  have hs4 := hv.s4
  have hd4 := hv.d4
  have hl := hok.len
  have hrate := rates_of htr hok.sh (by omega)
  have hm0 := hok.m0
  have hm1 := hok.m1
  have hg0 := hok.g0
  have hg1 := hok.g1
  repeat refine S.seq ?_
  refine S.region ?_
  simp (disch := first | omega | (simp only [add_nx, upd_nx] <;> omega) | decide) only [rUz, ↓reduceIte, Nat.reduceEqDiff, Nat.reduceAdd]
  obtain ⟨B3, hB3⟩ : ∃ x, x = h0.nx := ⟨_, rfl⟩
  obtain ⟨B4, hB4⟩ : ∃ x, x = h0.nx + 1 := ⟨_, rfl⟩
  have hb3 : ((h0.add (bkV st dv lv)).add (tuV pv rv)).bl.get B3 = some (.cells (bkV st dv lv) B3 false) := by rw [ag_ne (by show B3 ≠ h0.nx + 1; omega)]; subst hB3; exact ag_eq rfl
  have hb4 : ((h0.add (bkV st dv lv)).add (tuV pv rv)).bl.get B4 = some (.cells (tuV pv rv) B4 false) := by subst hB4; exact ag_eq rfl
  have hk1 : Kp h0 ((h0.add (bkV st dv lv)).add (tuV pv rv)) := Kp.refl.add.add
  have hn3 : B3 < ((h0.add (bkV st dv lv)).add (tuV pv rv)).nx := by show B3 < h0.nx + 2; omega
  have hn4 : B4 < ((h0.add (bkV st dv lv)).add (tuV pv rv)).nx := by show B4 < h0.nx + 2; omega
  rw [← hB4, ← hB3]
  clear hB3 hB4
  generalize (h0.add (bkV st dv lv)).add (tuV pv rv) = H0 at hb3 hb4 hk1 hn3 hn4 ⊢
  obtain ⟨b, f, ro, cells, q1, q2, q3, q4, q5, _⟩ := row_idx (hb.mono hk1).ln slrL srL hx
  have qp := part_at prL q4 q5
  repeat refine S.seq ?_
  refine S.region ?_
  simp (disch := first | omega | (simp only [add_nx, upd_nx] <;> omega) | decide) only [rUz, ↓reduceIte, Nat.reduceEqDiff, Nat.reduceAdd]
  repeat refine S.seq ?_
  refine S.region ?_
  simp (disch := first | omega | (simp only [add_nx, upd_nx] <;> omega) | decide) only [rUz, ↓reduceIte, Nat.reduceEqDiff, Nat.reduceAdd, fieldAddr_ptr fA2 lrL, qrL, hb3, bk2, q1, q3, qp, wr_alloc zrL]
  refine wr_storeN (B := H0.nx) (c := [iv 0, iv 0, nl]) (fam := H0.nx) (k := H0.nx) (l := cL x) (by simp (disch := first | omega | (simp only [add_nx, upd_nx] <;> omega) | decide) only [rUz, ↓reduceIte, Nat.reduceEqDiff, Nat.reduceAdd]) (by simp (disch := first | omega | (simp only [add_nx, upd_nx] <;> omega) | decide) only [rUz, ↓reduceIte, Nat.reduceEqDiff, Nat.reduceAdd]) srL (by omega) rfl (ag_eq rfl) (af_eq rfl) rfl ?_
  have hk4 : Kp H0 ((H0.add [iv 0, iv 0, nl]).upd H0.nx (cL x) H0.nx) := Kp.refl.add.upd (Nat.le_refl _)
  have hg4 : ((H0.add [iv 0, iv 0, nl]).upd H0.nx (cL x) H0.nx).bl.get H0.nx = some (.cells (cL x) H0.nx false) := upd_eq _ _ _
  have hn12 : H0.nx < ((H0.add [iv 0, iv 0, nl]).upd H0.nx (cL x) H0.nx).nx := Nat.lt_succ_self _
  simp (disch := first | omega | (simp only [add_nx, upd_nx] <;> omega) | decide) only [rUz, ↓reduceIte, Nat.reduceEqDiff, Nat.reduceAdd]
  generalize (H0.add [iv 0, iv 0, nl]).upd H0.nx (cL x) H0.nx = H at hk4 hg4 hn12 ⊢
  generalize H0.nx = B12 at hg4 hn12 ⊢
  replace hb3 := (hk4.get hn3).trans hb3
  replace hb4 := (hk4.get hn4).trans hb4
  replace hn3 : B3 < H.nx := Nat.lt_of_lt_of_le hn3 hk4.1
  replace hn4 : B4 < H.nx := Nat.lt_of_lt_of_le hn4 hk4.1
  replace hk1 := hk1.trans hk4
  have hbH := hb.mono hk1
  have htH := ht.mono hk1
  clear hb ht q1 q2 q3 q4 q5 qp hk4
  clear H0
  repeat refine S.seq ?_
  refine S.region ?_
  simp (disch := first | omega | (simp only [add_nx, upd_nx] <;> omega) | decide) only [rUz, ↓reduceIte, Nat.reduceEqDiff, Nat.reduceAdd, hg4, fieldAddr_ptr frL0 s3, p3, cL0]
  repeat refine S.seq ?_
  refine S.region ?_
  simp (disch := first | omega | (simp only [add_nx, upd_nx] <;> omega) | decide) only [rUz, ↓reduceIte, Nat.reduceEqDiff, Nat.reduceAdd]
  repeat refine S.seq ?_
  refine S.block ?_
  refine S.loop (ι := Nat) (IRn x.2.1 x.2.2.1 (vsF x.2.2.2 T') (rsF rt) D.length H B3 B4 B12) (fun k => D.length - k) ?_ 0 _ _ ?_
  rotate_left
  · refine ⟨Kp.refl, ⟨[], nl, nl, nl, 0, 0, 0, Tri.start, rfl, ?_, ?_, ?_⟩, ?_, ?_, ?_, ?_, ?_, Nat.zero_le _⟩
    all_goals (first | rfl | (simp (disch := first | omega | (simp only [add_nx, upd_nx] <;> omega) | decide) only [rUz, ↓reduceIte, Nat.reduceEqDiff, Nat.reduceAdd, debtZ]; done) | (simp (disch := first | omega | (simp only [add_nx, upd_nx] <;> omega) | decide) only [rUz, ↓reduceIte, Nat.reduceEqDiff, Nat.reduceAdd, debtZ]; rfl))
  intro k t h ⟨hkp, ⟨xs, xv, yv, zv, F1, F2, F3, tri, hxl, t9, t10, t11⟩, t3, t4, t12, t13, t14, hk⟩ K' hn he
  have hb3h := (hkp.get hn3).trans hb3
  have hb4h := (hkp.get hn4).trans hb4
  have hg4h := (hkp.get hn12).trans hg4
  have hnx := hkp.1
  repeat refine S.seq ?_
  refine S.region ?_
  simp (disch := first | omega | (simp only [add_nx, upd_nx] <;> omega) | decide) only [rUz, ↓reduceIte, Nat.reduceEqDiff, Nat.reduceAdd, t3, t14, fieldAddr_ptr fA1 lrD, qrD, hb3h, bk1, lD]
  repeat refine S.seq ?_
  refine S.cond (v := decide ((k : Int) < (D.length : Int))) (by first | rfl | (simp (disch := first | omega | (simp only [add_nx, upd_nx] <;> omega) | decide) only [rUz, ↓reduceIte, Nat.reduceEqDiff, Nat.reduceAdd] <;> rfl)) (fun e => ?_) (fun e => ?_)
  · have hkD : k < D.length := by have := of_decide_eq_true e; omega
    clear e
    have hkT : k < T'.length := by rw [htr.lt]; exact hkD
    have hkR : k < rt.length := by rw [htr.lr]; exact hkD
    have hpT : T'[k]? = some T'[k] := List.getElem?_eq_getElem hkT
    have hxT : T'[k] ∈ T' := List.getElem_mem hkT
    have hvs : vsF x.2.2.2 T' k = valS x.2.2.2 T'[k].2 := by unfold vsF; rw [List.getD_eq_getElem?_getD, hpT]; rfl
    have hrs : rsF rt k = rt[k] := getD_lt hkR
    obtain ⟨b3, f3, o3, u1, u2, u3, u4⟩ := (htH.mono hkp).rt.idx slI s3' hkR
    obtain ⟨d1, d2⟩ := debt_bnd hrate hm0 hm1 hg0 hg1 hd4 k hk
    have hrb := hrate.r k hkD
    have hvb := hrate.v k hkD
    obtain ⟨⟨e1, e2⟩, e3, e4⟩ := grown_bnd d1 (by omega) hrb.1 hrb.2
    have hpl := htr.pl T'[k] hxT
    have hpb := htr.pb T'[k] hxT
    have hdz : debtZ x.2.1 x.2.2.1 (vsF x.2.2.2 T') (rsF rt) (k + 1) = min2 (owedZ x.2.1 x.2.2.1 (vsF x.2.2.2 T') (rsF rt) k) (capZ (vsF x.2.2.2 T' k) x.2.2.1) := rfl
    have hoz : owedZ x.2.1 x.2.2.1 (vsF x.2.2.2 T') (rsF rt) k = debtZ x.2.1 x.2.2.1 (vsF x.2.2.2 T') (rsF rt) k + (debtZ x.2.1 x.2.2.1 (vsF x.2.2.2 T') (rsF rt) k * rsF rt k).tdiv 10000 := rfl
    have hcz : callZ x.2.1 x.2.2.1 (vsF x.2.2.2 T') (rsF rt) k = owedZ x.2.1 x.2.2.1 (vsF x.2.2.2 T') (rsF rt) k - debtZ x.2.1 x.2.2.1 (vsF x.2.2.2 T') (rsF rt) (k + 1) := rfl
    have hcs := calls_succ x.2.1 x.2.2.1 (vsF x.2.2.2 T') (rsF rt) k
    have has := afters_succ x.2.1 x.2.2.1 (vsF x.2.2.2 T') (rsF rt) k
    have hob := owed_bnd hrate hm0 hm1 hg0 hg1 hd4 hkD
    have hcb := cap_bnd hvb.1 hvb.2 hg0 hg1
    rw [hrs] at e1 e2 e3 e4 hoz
    have hsx := (hbH.sh x hxm).mono hkp
    obtain ⟨b2, f2, o2, ce2, v1, v2, v3, v4, v5, v6⟩ := row_idx (htH.mono hkp).pr slII lI' hpT
    have v6 := v6 0 _ (cT0 T'[k])
    rw [Nat.mul_one] at v1
    rw [Nat.mul_one, Nat.add_zero] at v6
    have hps := (htH.ps T'[k] hxT).mono hkp
    generalize T'[k] = p at hvs hpl hpb v6 hps
    generalize rt[k] = r at u4 e1 e2 e3 e4 hoz
    rw [hvs] at hdz hcb hvb
    generalize debtZ x.2.1 x.2.2.1 (vsF x.2.2.2 T') (rsF rt) k = d at t13 d1 d2 e1 e2 e3 e4 hoz
    generalize hDr : d * r = X at e1 e2 e3 e4 hoz
    obtain ⟨Q, hQ⟩ : ∃ Q, Q = X.tdiv 10000 := ⟨_, rfl⟩
    rw [← hQ] at e3 e4 hoz
    generalize owedZ x.2.1 x.2.2.1 (vsF x.2.2.2 T') (rsF rt) k = o at hdz hoz hcz hob
    obtain ⟨d', hd1⟩ : ∃ d', debtZ x.2.1 x.2.2.1 (vsF x.2.2.2 T') (rsF rt) (k + 1) = d' := ⟨_, rfl⟩
    rw [hd1] at hdz hcz has
    generalize callZ x.2.1 x.2.2.1 (vsF x.2.2.2 T') (rsF rt) k = c at hcz hcs
    obtain ⟨V, hV⟩ : ∃ V, V = valS x.2.2.2 p.2 := ⟨_, rfl⟩
    rw [← hV] at hvb hdz hcb
    obtain ⟨C, hC⟩ : ∃ C, C = capZ V x.2.2.1 := ⟨_, rfl⟩
    rw [← hC] at hdz hcb
    unfold capZ at hC
    clear hrs hvs
    repeat refine S.seq ?_
    refine S.skip ?_
    simp (disch := first | omega | (simp only [add_nx, upd_nx] <;> omega) | decide) only [rUz, ↓reduceIte, Nat.reduceEqDiff, Nat.reduceAdd]
    repeat refine S.seq ?_
    refine S.block ?_
    repeat refine S.seq ?_
    refine S.region ?_
    simp (disch := first | omega | (simp only [add_nx, upd_nx] <;> omega) | decide) only [rUz, ↓reduceIte, Nat.reduceEqDiff, Nat.reduceAdd, t4, t13, t14, fieldAddr_ptr frU1 lI, qI, hb4h, tu1, u1, u3, p3, u4, hDr]
    refine optR_of' (bin_quo (i := X) (j := 10000) (by simp (disch := first | omega | (simp only [add_nx, upd_nx] <;> omega) | decide) only [rUz, ↓reduceIte, Nat.reduceEqDiff, Nat.reduceAdd]) (by simp (disch := first | omega | (simp only [add_nx, upd_nx] <;> omega) | decide) only [rUz, ↓reduceIte, Nat.reduceEqDiff, Nat.reduceAdd]) (by omega) (by omega) (by omega)) ?_
    rw [← hQ]
    simp (disch := first | omega | (simp only [add_nx, upd_nx] <;> omega) | decide) only [rUz, ↓reduceIte, Nat.reduceEqDiff, Nat.reduceAdd]
    rw [← hoz]
    clear hDr hQ hoz
    repeat refine S.seq ?_
    refine S.drawnL [(false, 0), (false, 1), (false, 0), (false, 4), (false, 0), (false, 28), (false, 60), (true, 127), (false, 255), (false, 0), (false, 512), (false, 1536), (false, 4095), (false, 8191)] (by kernel_rfl) (by kernel_rfl) (by kernel_rfl) ?_
    simp (disch := first | omega | (simp only [add_nx, upd_nx] <;> omega) | decide) only [rUz, ↓reduceIte, Nat.reduceEqDiff, Nat.reduceAdd, rDz, infoL, Nat.reduceSub, t4, t12, t14, fieldAddr_ptr frL2 lI, fieldAddr_ptr frU0 lII, qI, qII, hg4h, hb4h, cL2, tu0, v1, v3, v6]
    refine draw_pick' rfl ?_
    simp (disch := first | omega | (simp only [add_nx, upd_nx] <;> omega) | decide) only [rUz, ↓reduceIte, Nat.reduceEqDiff, Nat.reduceAdd, rDz, infoL, Nat.reduceSub, t12, fieldAddr_ptr frL1 s3, p3, hg4h, cL1]
    refine draw_pick' rfl ?_
    simp (disch := first | omega | (simp only [add_nx, upd_nx] <;> omega) | decide) only [rUz, ↓reduceIte, Nat.reduceEqDiff, Nat.reduceAdd, rDz, infoL, Nat.reduceSub, t12, fieldAddr_ptr frL1 s3, p3, hg4h, cL1]
    refine draw_pick' rfl ?_
    simp (disch := first | omega | (simp only [add_nx, upd_nx] <;> omega) | decide) only [rUz, ↓reduceIte, Nat.reduceEqDiff, Nat.reduceAdd, rDz, infoL, Nat.reduceSub, t12, fieldAddr_ptr frL1 s3, p3, hg4h, cL1]
    refine drW_brings (fid := 62) (first := #[]) (captured := #[]) (Post := fun u h' => u = iv V ∧ h' = h) rfl (hoff _ _ _ rfl) (by simp (disch := first | omega | (simp only [add_nx, upd_nx] <;> omega) | decide) only [rUz, ↓reduceIte, Nat.reduceEqDiff, Nat.reduceAdd]; exact (by rw [hV]; exact value_y S h x.1 p.1 x.2.2.2 p.2 hsx hps (by omega) (by omega) hok.sh hpb)) (Nat.le_of_ble_eq_true rfl) ?_
    rintro u g - ⟨rfl, rfl⟩
    refine ⟨?_, ?_⟩
    · try simp (disch := first | decide | rfl) only [again_nil, again_skip, again_free]
      rw [again_same (v := iv x.2.2.1) (by simp (disch := first | omega | (simp only [add_nx, upd_nx] <;> omega) | decide) only [rUz, ↓reduceIte, Nat.reduceEqDiff, Nat.reduceAdd, rDz, infoL, Nat.reduceSub, t12, fieldAddr_ptr frL1 s3, p3, hg4h, cL1]) (by first | assumption | exact veq_int | rfl)]
      try simp (disch := first | decide | rfl) only [again_nil, again_skip, again_free]
    simp (disch := first | omega | (simp only [add_nx, upd_nx] <;> omega) | decide) only [rUz, ↓reduceIte, Nat.reduceEqDiff, Nat.reduceAdd, rDz, infoL, Nat.reduceSub]
    refine drR_of' (bin_quo (i := 100 * V) (j := 100 + x.2.2.1) (by simp (disch := first | omega | (simp only [add_nx, upd_nx] <;> omega) | decide) only [rUz, ↓reduceIte, Nat.reduceEqDiff, Nat.reduceAdd, rDz, infoL, Nat.reduceSub]) (by simp (disch := first | omega | (simp only [add_nx, upd_nx] <;> omega) | decide) only [rUz, ↓reduceIte, Nat.reduceEqDiff, Nat.reduceAdd, rDz, infoL, Nat.reduceSub]) (by omega) (by omega) (by omega)) ?_
    rw [← hC]
    simp (disch := first | omega | (simp only [add_nx, upd_nx] <;> omega) | decide) only [rUz, ↓reduceIte, Nat.reduceEqDiff, Nat.reduceAdd, rDz, infoL, Nat.reduceSub]
    have hn3g := hkp.1
    -- what was owed before
    repeat refine S.seq ?_
    refine S.region ?_
    simp (disch := first | omega | (simp only [add_nx, upd_nx] <;> omega) | decide) only [rUz, ↓reduceIte, Nat.reduceEqDiff, Nat.reduceAdd, t9, w_buildSlice, w_append]
    refine wr_lit1 slI s3' z3 rfl (by omega) (u := iv o) (l := [iv o]) (by simp (disch := first | omega | (simp only [add_nx, upd_nx] <;> omega) | decide) only [rUz, ↓reduceIte, Nat.reduceEqDiff, Nat.reduceAdd]) rfl rfl ?_
    simp (disch := first | omega | (simp only [add_nx, upd_nx] <;> omega) | decide) only [rUz, ↓reduceIte, Nat.reduceEqDiff, Nat.reduceAdd, w_append]
    refine wr_grown slI uI (v := xv) (bx := g.nx) (cx := 1) (by simp (disch := first | omega | (simp only [add_nx, upd_nx] <;> omega) | decide) only [rUz, ↓reduceIte, Nat.reduceEqDiff, Nat.reduceAdd]) (by simp (disch := first | omega | (simp only [add_nx, upd_nx] <;> omega) | decide) only [rUz, ↓reduceIte, Nat.reduceEqDiff, Nat.reduceAdd]) (tri.xy.x.mono Kp.refl.add) (by show H.nx ≤ g.nx + 1; omega) s3' rfl (by omega) (ag_eq rfl) nI (by show _ < 1000000; omega) ?_
    intro xv3 h3 F13 gr
    have tri3 := (tri.mono Kp.refl.add).grow gr
    have hkp3 : Kp H h3 := gr.sm.kp (Nat.le_refl _) hkp.add
    have hxl3 : (xs ++ [[iv o]]).length = k + 1 := by rw [List.length_append, hxl]; rfl
    have hnx3 := hkp3.1
    clear gr tri
    simp (disch := first | omega | (simp only [add_nx, upd_nx] <;> omega) | decide) only [rUz, ↓reduceIte, Nat.reduceEqDiff, Nat.reduceAdd]
    repeat refine S.seq ?_
    refine S.region ?_
    simp (disch := first | omega | (simp only [add_nx, upd_nx] <;> omega) | decide) only [rUz, ↓reduceIte, Nat.reduceEqDiff, Nat.reduceAdd]
    -- the call
    have hcall : (decide (C < o) = true ∧ c = o - C ∧ d' = C ∧ C < o) ∨ (decide (C < o) = false ∧ c = 0 ∧ d' = o ∧ o ≤ C) := by
      unfold min2 at hdz
      by_cases hlt : C < o
      · rw [if_pos hlt] at hdz
        exact .inl ⟨decide_eq_true hlt, by omega, hdz, hlt⟩
      · rw [if_neg hlt] at hdz
        exact .inr ⟨decide_eq_false hlt, by omega, hdz, by omega⟩
    repeat refine S.seq ?_
    refine S.region ?_
    simp (disch := first | omega | (simp only [add_nx, upd_nx] <;> omega) | decide) only [rUz, ↓reduceIte, Nat.reduceEqDiff, Nat.reduceAdd]
    repeat refine S.seq ?_
    generalize hJJ : seqK _ _ _ _ _ = KJ
    suffices hJ : ∀ t, tget t 3 = ptr0 B3 → tget t 4 = ptr0 B4 → tget t 9 = xv3 → tget t 10 = yv → tget t 11 = zv → tget t 12 = ptr0 B12 → tget t 13 = iv o → tget t 14 = iv (k : Int) → tget t 16 = iv c → KJ .normal t h3 [] = true by
      clear hJJ hn he
      rcases hcall with ⟨c1, c2, c3, _⟩ | ⟨c1, c2, c3, _⟩
      · repeat refine S.seq ?_
        refine S.cond (v := true) (by first | rfl | (simp (disch := first | omega | (simp only [add_nx, upd_nx] <;> omega) | decide) only [rUz, ↓reduceIte, Nat.reduceEqDiff, Nat.reduceAdd, c1] <;> rfl)) (fun _ => ?_) (fun e => by cases e)
        repeat refine S.seq ?_
        refine S.region ?_
        simp (disch := first | omega | (simp only [add_nx, upd_nx] <;> omega) | decide) only [rUz, ↓reduceIte, Nat.reduceEqDiff, Nat.reduceAdd]
        refine hJ _ ?_ ?_ ?_ ?_ ?_ ?_ ?_ ?_ ?_
        all_goals (first | rfl | (simp (disch := first | omega | (simp only [add_nx, upd_nx] <;> omega) | decide) only [rUz, ↓reduceIte, Nat.reduceEqDiff, Nat.reduceAdd, t3, t4, t10, t11, t12, t14, c2]; done) | (simp (disch := first | omega | (simp only [add_nx, upd_nx] <;> omega) | decide) only [rUz, ↓reduceIte, Nat.reduceEqDiff, Nat.reduceAdd, t3, t4, t10, t11, t12, t14, c2]; rfl))
      · repeat refine S.seq ?_
        refine S.cond (v := false) (by first | rfl | (simp (disch := first | omega | (simp only [add_nx, upd_nx] <;> omega) | decide) only [rUz, ↓reduceIte, Nat.reduceEqDiff, Nat.reduceAdd, c1] <;> rfl)) (fun e => by cases e) (fun _ => ?_)
        refine S.skip ?_
        refine hJ _ ?_ ?_ ?_ ?_ ?_ ?_ ?_ ?_ ?_
        all_goals (first | rfl | (simp (disch := first | omega | (simp only [add_nx, upd_nx] <;> omega) | decide) only [rUz, ↓reduceIte, Nat.reduceEqDiff, Nat.reduceAdd, t3, t4, t10, t11, t12, t14, c2]; done) | (simp (disch := first | omega | (simp only [add_nx, upd_nx] <;> omega) | decide) only [rUz, ↓reduceIte, Nat.reduceEqDiff, Nat.reduceAdd, t3, t4, t10, t11, t12, t14, c2]; rfl))
    clear t3 t4 t9 t10 t11 t12 t13 t14 v1 v3 v6 u1 u3 u4
    clear t
    intro t t3 t4 t9 t10 t11 t12 t13 t14 t16
    subst hJJ
    simp only [seqK_normal]
    have hd' : o - c = d' := by omega
    have hcb2 : 0 ≤ c ∧ c ≤ 120000 := by omega
    repeat refine S.seq ?_
    refine S.region ?_
    simp (disch := first | omega | (simp only [add_nx, upd_nx] <;> omega) | decide) only [rUz, ↓reduceIte, Nat.reduceEqDiff, Nat.reduceAdd, t13, t16]
    rw [hd']
    -- the lists
    have hyl : (i1 (callsZ x.2.1 x.2.2.1 (vsF x.2.2.2 T') (rsF rt) k)).length = k := by simp [i1, callsZ]
    have hzl : (i1 (aftersZ x.2.1 x.2.2.1 (vsF x.2.2.2 T') (rsF rt) k)).length = k := by simp [i1, aftersZ]
    repeat refine S.seq ?_
    refine S.region ?_
    simp (disch := first | omega | (simp only [add_nx, upd_nx] <;> omega) | decide) only [rUz, ↓reduceIte, Nat.reduceEqDiff, Nat.reduceAdd, t10, t16, w_buildSlice, w_append]
    refine wr_lit1 slI s3' z3 rfl (by omega) (u := iv c) (l := [iv c]) (by simp (disch := first | omega | (simp only [add_nx, upd_nx] <;> omega) | decide) only [rUz, ↓reduceIte, Nat.reduceEqDiff, Nat.reduceAdd]) rfl rfl ?_
    simp (disch := first | omega | (simp only [add_nx, upd_nx] <;> omega) | decide) only [rUz, ↓reduceIte, Nat.reduceEqDiff, Nat.reduceAdd, w_append]
    refine wr_grown slI uI (v := yv) (bx := h3.nx) (cx := 1) (by simp (disch := first | omega | (simp only [add_nx, upd_nx] <;> omega) | decide) only [rUz, ↓reduceIte, Nat.reduceEqDiff, Nat.reduceAdd]) (by simp (disch := first | omega | (simp only [add_nx, upd_nx] <;> omega) | decide) only [rUz, ↓reduceIte, Nat.reduceEqDiff, Nat.reduceAdd]) (tri3.xy.y.mono Kp.refl.add) (by show H.nx ≤ h3.nx + 1; omega) s3' rfl (by omega) (ag_eq rfl) nI (by show _ < 1000000; omega) ?_
    intro yv4 h4 F24 gr
    have tri4 := ((tri3.mono Kp.refl.add).rot.grow gr).rot
    have hkp4 : Kp H h4 := gr.sm.kp (Nat.le_refl _) hkp3.add
    have hnx4 := hkp4.1
    clear gr tri3
    simp (disch := first | omega | (simp only [add_nx, upd_nx] <;> omega) | decide) only [rUz, ↓reduceIte, Nat.reduceEqDiff, Nat.reduceAdd, t11, w_buildSlice, w_append]
    refine wr_lit1 slI s3' z3 rfl (by omega) (u := iv d') (l := [iv d']) (by simp (disch := first | omega | (simp only [add_nx, upd_nx] <;> omega) | decide) only [rUz, ↓reduceIte, Nat.reduceEqDiff, Nat.reduceAdd]) rfl rfl ?_
    simp (disch := first | omega | (simp only [add_nx, upd_nx] <;> omega) | decide) only [rUz, ↓reduceIte, Nat.reduceEqDiff, Nat.reduceAdd, w_append]
    refine wr_grown slI uI (v := zv) (bx := h4.nx) (cx := 1) (by simp (disch := first | omega | (simp only [add_nx, upd_nx] <;> omega) | decide) only [rUz, ↓reduceIte, Nat.reduceEqDiff, Nat.reduceAdd]) (by simp (disch := first | omega | (simp only [add_nx, upd_nx] <;> omega) | decide) only [rUz, ↓reduceIte, Nat.reduceEqDiff, Nat.reduceAdd]) (tri4.xy.x.mono Kp.refl.add) (by show H.nx ≤ h4.nx + 1; omega) s3' rfl (by omega) (ag_eq rfl) nI (by show _ < 1000000; omega) ?_
    intro zv5 h5 F35 gr
    have tri5 := ((tri4.mono Kp.refl.add).grow gr).rot
    have hkp5 : Kp H h5 := gr.sm.kp (Nat.le_refl _) hkp4.add
    clear gr tri4
    rw [← hcs, ← has] at tri5
    simp (disch := first | omega | (simp only [add_nx, upd_nx] <;> omega) | decide) only [rUz, ↓reduceIte, Nat.reduceEqDiff, Nat.reduceAdd]
    repeat refine S.seq ?_
    refine S.region ?_
    simp (disch := first | omega | (simp only [add_nx, upd_nx] <;> omega) | decide) only [rUz, ↓reduceIte, Nat.reduceEqDiff, Nat.reduceAdd, t14]
    refine hn (k + 1) _ _ (by omega) ⟨hkp5, ⟨_, _, _, _, _, _, _, tri5, hxl3, ?_, ?_, ?_⟩, ?_, ?_, ?_, ?_, ?_, by omega⟩
    all_goals (first | rfl | (simp (disch := first | omega | (simp only [add_nx, upd_nx] <;> omega) | decide) only [rUz, ↓reduceIte, Nat.reduceEqDiff, Nat.reduceAdd, t3, t4, t9, t12, hd1]; done) | (simp (disch := first | omega | (simp only [add_nx, upd_nx] <;> omega) | decide) only [rUz, ↓reduceIte, Nat.reduceEqDiff, Nat.reduceAdd, t3, t4, t9, t12, hd1]; rfl))
  have hkn : k = D.length := by have := of_decide_eq_false e; omega
  subst hkn
  refine S.exit (he _ _ _ _ (fun e => by cases e) ?_)
  simp (disch := first | omega | (simp only [add_nx, upd_nx] <;> omega) | decide) only [rUz, ↓reduceIte, Nat.reduceEqDiff, Nat.reduceAdd]
  repeat refine S.seq ?_
  refine S.region ?_
  simp (disch := first | omega | (simp only [add_nx, upd_nx] <;> omega) | decide) only [rUz, ↓reduceIte, Nat.reduceEqDiff, Nat.reduceAdd, t9, t10, t11]
  refine S.ret ?_
  try simp only [seqK_ret, blockK_ret]
  subst hF
  simp only [finish, endMarks]
  rw [show Try.f30.results.toList = [.tmp 6, .tmp 7, .tmp 8] from rfl]
  simp (disch := first | omega | (simp only [add_nx, upd_nx] <;> omega) | decide) only [resA, ev_tmp, tget_ne, tget_eq, get_ne, get_eq, upd_eq, upd_ne, ag_eq, ag_ne, result1]
  exact hK _ _ (hk1.trans hkp) ⟨xv, yv, zv, rfl, SlAt.ints tri.xy.y.at, SlAt.ints tri.xz.y.at⟩
end Go.Proofs.Mg
