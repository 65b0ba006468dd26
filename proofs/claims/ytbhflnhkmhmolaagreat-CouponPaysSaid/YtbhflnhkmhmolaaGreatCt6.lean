import Derived.Test.YtbhflnhkmhmolaaGreatCt5
/- The reference: the claims. -/
namespace Go.Proofs.Cp
open Go Go.Ev Go.RowKit
set_option linter.unusedSimpArgs false

def clmR (c : Co) (d : T3) (x : Tr) (s e : Int) : Int :=
  bif decide (s < d.1) then (bif inB (regP c.cl e) 0 d.2.1 then 0 else d.2.2 * unitsR c.sp x.sh s d.2.1) else bif inB (regP c.cl e) 0 d.2.1 then -d.2.2 * unitsR c.sp x.sh s d.2.1 else 0
def clmL (c : Co) (a b : List Int) (d : T3) : List Int := List.zipWith (fun x p => clmR c d x p.1 p.2) c.tr (List.zipWith Prod.mk a b)
theorem clmL_get {c : Co} {a b : List Int} {d : T3} {i : Nat} {x : Tr} {s e : Int} (hx : c.tr[i]? = some x) (ha : a[i]? = some s) (hb : b[i]? = some e) : (clmL c a b d)[i]? = some (clmR c d x s e) := by
  unfold clmL
  rw [List.getElem?_zipWith, hx, List.getElem?_zipWith, ha, hb]
theorem clmL_len {c : Co} {a b : List Int} (ha : a.length = c.tr.length) (hb : b.length = c.tr.length) (d : T3) : (clmL c a b d).length = c.tr.length := by
  unfold clmL; rw [List.length_zipWith, List.length_zipWith]; omega

structure ICr (c : Co) (L : List Int) (B3 B4 B5 : Nat) (H : AHeap) (k : Nat) (t : T Value) (h : AHeap) (v : Value) (F : Nat) : Prop where
  kp : Kp H h
  t3 : tget t 3 = ptr0 B3
  t4 : tget t 4 = ptr0 B4
  t5 : tget t 5 = ptr0 B5
  t7 : tget t 7 = v
  t8 : tget t 8 = iv (k : Int)
  hk : k ≤ c.tr.length
  app : App H.nx h 1 v ((L.take k).map fun n => [iv n]) F
def ICx2 (c : Co) (L : List Int) (B3 B4 B5 : Nat) (H : AHeap) (k : Nat) (t : T Value) (h : AHeap) : Prop := ∃ v F, ICr c L B3 B4 B5 H k t h v F

variable {pr : Prim} {R : ExT}
set_option maxHeartbeats 32000000 in
theorem rclaims_y (S : Ev.Steps Tryz.prog pr R) (hoff : Off pr) (h0 : AHeap) (v : Vs) (c : Co) (hc : CoAt h0 v c) (hv : Val c) (ua ub : Value) (a b : List Int) (hua : IAt h0 ua a) (hub : IAt h0 ub b) (hda : datedB c a b = true) (d : T3) (hd1 : d.2.1 ≤ 11) (hp0 : 0 ≤ d.2.2) (hp1 : d.2.2 ≤ 50) :
    Brings Tryz.prog R 26 [.agg ⟨coV c.hs v⟩, .agg ⟨[ua, ub]⟩, .agg ⟨c3 d⟩] h0 fun u h => IAt h u (clmL c a b d) := by
  refine brings_of (fn := Tryz.f26) (c := (Tryz.f26.body).getD .skip) (by kernel_rfl) rfl (by kernel_rfl) rfl (fun K hK => ?_)
  generalize hF : finish Tryz.prog Tryz.f26 K = KF
  simp only [Tryz.f26, Option.getD_some, argsT, setArgs, fV1_eq, T.setK_eq, id]
  obtain ⟨hlen, hdat⟩ : lensB c a b = true ∧ datG c.tr a b = true := by rw [datedB, Bool.and_eq_true] at hda; exact hda
  obtain ⟨la, lb⟩ := lens_iff.1 hlen
  have hcl : (c.cl.length : Int) ≤ 1000000 := by have := hv.cll; omega
  have ht4 := hv.tl
  have hL := clmL_len la lb d
  repeat refine S.seq ?_
  refine S.region ?_
  simp (disch := first | omega | decide) only [rUz]
  obtain ⟨B3, hB3⟩ : ∃ x, x = h0.nx := ⟨_, rfl⟩
  obtain ⟨B4, hB4⟩ : ∃ x, x = h0.nx + 1 := ⟨_, rfl⟩
  obtain ⟨B5, hB5⟩ : ∃ x, x = h0.nx + 1 + 1 := ⟨_, rfl⟩
  have hb3 : (((h0.add (coV c.hs v)).add [ua, ub]).add (c3 d)).bl.get B3 = some (.cells (coV c.hs v) B3 false) := by simp (disch := first | omega | (simp only [nZ] <;> omega) | decide) only [ag_ne]; subst hB3; exact ag_eq rfl
  have hb4 : (((h0.add (coV c.hs v)).add [ua, ub]).add (c3 d)).bl.get B4 = some (.cells [ua, ub] B4 false) := by simp (disch := first | omega | (simp only [nZ] <;> omega) | decide) only [ag_ne]; subst hB4; exact ag_eq rfl
  have hb5 : (((h0.add (coV c.hs v)).add [ua, ub]).add (c3 d)).bl.get B5 = some (.cells (c3 d) B5 false) := by subst hB5; exact ag_eq rfl
  have hk1 : Kp h0 (((h0.add (coV c.hs v)).add [ua, ub]).add (c3 d)) := Kp.refl.add.add.add
  have hn5 : B5 < (((h0.add (coV c.hs v)).add [ua, ub]).add (c3 d)).nx := by show B5 < h0.nx + 3; omega
  have h35 : B3 < B5 := by omega
  have h45 : B4 < B5 := by omega
  rw [← hB5, ← hB4, ← hB3]
  generalize ((h0.add (coV c.hs v)).add [ua, ub]).add (c3 d) = H at hb3 hb4 hb5 hk1 hn5 ⊢
  clear hB3 hB4 hB5
  have hc1 := hc.mono hk1
  have ha1 := hua.mono hk1
  have hb1 := hub.mono hk1
  repeat refine S.seq ?_
  refine S.region ?_
  simp (disch := first | omega | decide) only [rUz]
  repeat refine S.seq ?_
  refine S.region ?_
  simp (disch := first | omega | decide) only [rUz]
  repeat refine S.seq ?_
  refine S.block ?_
  refine S.loop (ι := Nat) (ICx2 c (clmL c a b d) B3 B4 B5 H) (fun k => c.tr.length - k) ?_ 0 _ _ ?_
  rotate_left
  · refine ⟨.slice none 0 0, 0, Kp.refl, ?_, ?_, ?_, ?_, ?_, Nat.zero_le _, .inl ⟨rfl, rfl⟩⟩
    all_goals (first | rfl | (simp (disch := first | omega | decide) only [rUz]; done) | (simp (disch := first | omega | decide) only [rUz]; rfl))
  intro k t h ⟨t7v, F7, hkp, t3, t4, t5, t7, t8, hk, happ⟩ K' hn he
  have hb3h := (hkp.get (by omega : B3 < H.nx)).trans hb3
  have l2 := fun t h1 o => row_len (hc1.mono hkp).tr isrT t h1 o
  repeat refine S.seq ?_
  refine S.region ?_
  simp (disch := first | omega | decide) only [rUz, t3, t8, hb3h, fieldAddr_ptr fA2 lrT, qrT, co2, l2]
  repeat refine S.seq ?_
  refine S.cond (v := decide ((k : Int) < (c.tr.length : Int))) (by first | rfl | (simp (disch := first | omega | decide) only [rUz, ↓reduceIte, Nat.reduceEqDiff, Nat.reduceAdd] <;> rfl)) (fun e => ?_) (fun e => ?_)
  rotate_left
  · have hkn : k = c.tr.length := by have := of_decide_eq_false e; omega
    refine S.exit (he _ _ _ _ (fun e => by cases e) ?_)
    simp (disch := first | omega | decide) only [rUz]
    repeat refine S.seq ?_
    refine S.region ?_
    simp (disch := first | omega | decide) only [rUz, t7]
    refine S.ret ?_
    try simp only [seqK_ret, blockK_ret]
    subst hF
    simp only [finish, endMarks]
    rw [show Tryz.f26.results.toList = [.tmp 6] from rfl]
    simp (disch := first | omega | decide) only [resA, ev_tmp, tget_ne, tget_eq, get_ne, get_eq, upd_eq, upd_ne, ag_eq, ag_ne, result1]
    rw [List.take_of_length_le (by omega)] at happ
    exact hK _ _ (hk1.trans hkp) (SlAt.ints happ.at)
  have hkn : k < c.tr.length := by have := of_decide_eq_true e; omega
  clear e l2
  have hka : k < a.length := by omega
  have hkb : k < b.length := by omega
  have hps : c.tr[k]? = some c.tr[k] := List.getElem?_eq_getElem hkn
  have hdb := datG_get hdat hps (List.getElem?_eq_getElem hka) (List.getElem?_eq_getElem hkb)
  have htk := Tok.of (hv.tok c.tr[k] (List.getElem_mem hkn))
  have hdf := dat_facts htk hdb
  have hgv := clmL_get (d := d) hps (List.getElem?_eq_getElem hka) (List.getElem?_eq_getElem hkb)
  clear hdb
  generalize c.tr[k] = x at hps htk hgv
  obtain ⟨s, hsa⟩ : ∃ s, s = a[k] := ⟨_, rfl⟩
  rw [← hsa] at hgv hdf
  have hsa := hsa.symm
  obtain ⟨bb, fb, rb, d1, d2, d3, d4⟩ := (hb1.mono hkp).idx slI s3' hkb
  generalize b[k] = e at d4 hdf hgv
  have hb4h := (hkp.get (by omega : B4 < H.nx)).trans hb4
  have hb5h := (hkp.get hn5).trans hb5
  repeat refine S.seq ?_
  refine S.skip ?_
  simp (disch := first | omega | decide) only [rUz]
  repeat refine S.seq ?_
  refine S.block ?_
  repeat refine S.seq ?_
  refine S.drawnL [(false, 0), (false, 0), (false, 2), (false, 0), (false, 14), (false, 30), (true, 63), (false, 0), (false, 128), (true, 511), (false, 1023)] (by kernel_rfl) (by kernel_rfl) (by kernel_rfl) ?_
  simp (disch := first | omega | decide) only [rUz, rDz, infoL, Nat.reduceSub, t3, t4, t8, hb3h, hb4h, part_0 pA (coV_len c.hs v), fieldAddr_ptr frU1 lI, qI, p3, d1, d3, d4]
  refine draw_pick' rfl ?_
  simp (disch := first | omega | decide) only [rUz, rDz, infoL, Nat.reduceSub, t5, hb5h, fieldAddr_ptr frD1 s3, p3, c31]
  refine draw_pick' rfl ?_
  simp (disch := first | omega | decide) only [rUz, rDz, infoL, Nat.reduceSub, t5, hb5h, fieldAddr_ptr frD1 s3, p3, c31]
  refine drW_brings (fid := 18) (first := #[]) (captured := #[]) (Post := fun u _ => u = iv (regP c.cl e)) rfl (hoff _ _ _ rfl) (by simp (disch := first | omega | decide) only [rUz]; exact rreg_y S hoff _ v c (hc1.mono hkp) hcl e (by omega) (by omega)) (Nat.le_of_ble_eq_true rfl) ?_
  rintro u g hkg rfl
  have hkH := hkp.trans hkg
  have hb5g := (hkH.get hn5).trans hb5
  refine ⟨?_, ?_⟩
  · try simp (disch := first | decide | rfl) only [again_nil, again_skip, again_free]
    rw [again_same (v := iv d.2.1) (by simp (disch := first | omega | decide) only [rUz, rDz, infoL, Nat.reduceSub, t5, hb5g, fieldAddr_ptr frD1 s3, p3, c31]) veq_int]
    try simp (disch := first | decide | rfl) only [again_nil, again_skip, again_free]
  simp (disch := first | omega | decide) only [rUz, rDz, infoL, Nat.reduceSub]
  refine drW_brings (fid := 17) (first := #[]) (captured := #[]) (Post := fun u h' => u = .bool (inB (regP c.cl e) 0 d.2.1) ∧ h' = g) rfl (hoff _ _ _ rfl) (by simp (disch := first | omega | decide) only [rUz]; exact in_y S _ _ _ _) (Nat.le_of_ble_eq_true rfl) ?_
  rintro u g2 - ⟨rfl, rfl⟩
  refine ⟨?_, ?_⟩
  · try simp (disch := first | decide | rfl) only [again_nil, again_skip, again_free]
  simp (disch := first | omega | decide) only [rUz, rDz, infoL, Nat.reduceSub]
  clear d1 d2 d3 d4 hb3h hb4h hb5h
  have happg := happ.mono hkg
  clear happ hkp hkg
  clear h
  have hb3g := (hkH.get (by omega : B3 < H.nx)).trans hb3
  have hb4g := (hkH.get (by omega : B4 < H.nx)).trans hb4
  obtain ⟨ba, fa, ra, a1, a2, a3, a4⟩ := (ha1.mono hkH).idx slI s3' hka
  rw [hsa] at a4
  obtain ⟨b', f', ro', cells', q1, q2, q3, q4, q5, q6⟩ := row_idx (hc1.mono hkH).tr slrT srT hps
  have gsh := q6 2 (iv x.sh) rfl
  obtain ⟨U, hU⟩ : ∃ U, U = unitsR c.sp x.sh s d.2.1 := ⟨_, rfl⟩
  have hub1 := units_bnd hv.sok hv.sl (sh := x.sh) (a := s) (b := d.2.1) (by have := htk.n0; omega) htk.n1
  unfold clmR at hgv
  rw [← hU] at hgv hub1
  have hm := mul_bnd (M := 2592000) hp0 hp1 (by omega) (by omega) hub1.2
  have hm2 : -d.2.2 * U = -(d.2.2 * U) := Int.neg_mul ..
  have yU := runits_y S g2 v c (hc1.mono hkH) hv.sl hv.sok x.sh s d.2.1 (by have := htk.n0; omega) htk.n1 (by omega) (by omega) hd1
  rw [← hU] at yU
  repeat refine S.seq ?_
  refine S.region ?_
  simp (disch := first | omega | decide) only [rUz]
  have ex : decide (d.1 ≤ s) = !decide (s < d.1) := bool_ext (by rw [decide_eq_true_eq, Bool.not_eq_true', decide_eq_false_iff_not]; omega)
  cases hbel : decide (s < d.1) with
  | true =>
    rw [hbel, cond_true] at hgv
    rw [hbel, Bool.not_true] at ex
    cases hhad : inB (regP c.cl e) 0 d.2.1 with
    | true =>
      rw [hhad, cond_true] at hgv
      repeat refine S.seq ?_
      refine S.drawnL [(false, 0), (false, 1), (false, 0), (false, 7), (false, 15), (false, 0), (false, 32), (false, 127), (false, 255), (false, 511), (false, 1023), (false, 2047)] (by kernel_rfl) (by kernel_rfl) (by kernel_rfl) ?_
      simp (disch := first | omega | decide) only [rUz, rDz, infoL, Nat.reduceSub, t3, t4, t5, t8, hb3g, hb4g, hb5g, part_0 pA (coV_len c.hs v), fieldAddr_ptr frD0 s3, fieldAddr_ptr frD1 s3, fieldAddr_ptr frD2 s3, c30, c31, c32, fieldAddr_ptr frU0 lI, qI, p3, a1, a3, a4, hbel, hhad, Bool.not_true]
      repeat refine S.seq ?_
      refine S.cond (v := false) (by first | rfl | (simp (disch := first | omega | decide) only [rUz, ↓reduceIte, Nat.reduceEqDiff, Nat.reduceAdd] <;> rfl)) (fun e => by cases e) (fun _ => ?_)
      repeat refine S.seq ?_
      refine S.skip ?_
      simp (disch := first | omega | decide) only [rUz]
      repeat refine S.seq ?_
      refine S.drawnL [(false, 0), (false, 1), (false, 0), (false, 7), (false, 15), (false, 0), (false, 32), (false, 127), (false, 255), (false, 511), (false, 1023)] (by kernel_rfl) (by kernel_rfl) (by kernel_rfl) ?_
      simp (disch := first | omega | decide) only [rUz, rDz, infoL, Nat.reduceSub, t3, t4, t5, t8, hb3g, hb4g, hb5g, part_0 pA (coV_len c.hs v), fieldAddr_ptr frD0 s3, fieldAddr_ptr frD1 s3, fieldAddr_ptr frD2 s3, c30, c31, c32, fieldAddr_ptr frU0 lI, qI, p3, a1, a3, a4, ex, hhad]
      repeat refine S.seq ?_
      refine S.cond (v := false) (by first | rfl | (simp (disch := first | omega | decide) only [rUz, ↓reduceIte, Nat.reduceEqDiff, Nat.reduceAdd] <;> rfl)) (fun e => by cases e) (fun _ => ?_)
      repeat refine S.seq ?_
      refine S.skip ?_
      simp (disch := first | omega | decide) only [rUz]
      repeat refine S.seq ?_
      refine S.region ?_
      simp (disch := first | omega | decide) only [rUz, t7, w_buildSlice, w_append]
      refine wr_lit1 slI s3' z3 rfl (by omega) (u := iv (0)) (l := [iv (0)]) (by simp (disch := first | omega | decide) only [rUz]) rfl rfl ?_
      simp (disch := first | omega | decide) only [rUz, w_append]
      refine wr_append slI uI (v := t7v) (bx := g2.nx) (cx := 1) (by simp (disch := first | omega | decide) only [rUz]) (by simp (disch := first | omega | decide) only [rUz]) (happg.mono Kp.refl.add) (by have := hkH.1; show H.nx ≤ g2.nx + 1; omega) s3' rfl (by omega) (ag_eq rfl) nI (by rw [List.length_map, List.length_take]; show _ < 1000000; omega) ?_
      intro v3 h3 F3 w1 w2 w3 w4 w5
      simp (disch := first | omega | decide) only [rUz]
      repeat refine S.seq ?_
      refine S.region ?_
      simp (disch := first | omega | decide) only [rUz, t8]
      refine hn (k + 1) _ _ (by omega) ⟨v3, F3, w2.kp (Nat.le_refl _) hkH.add, ?_, ?_, ?_, ?_, ?_, by omega, ?_⟩
      · simp (disch := first | omega | decide) only [rUz, t3]
      · simp (disch := first | omega | decide) only [rUz, t4]
      · simp (disch := first | omega | decide) only [rUz, t5]
      · simp (disch := first | omega | decide) only [rUz]
      · simp (disch := first | omega | decide) only [rUz]
      · rw [List.take_add_one, hgv, List.map_append]
        exact w1
    | false =>
      rw [hhad, cond_false] at hgv
      repeat refine S.seq ?_
      refine S.drawnL [(false, 0), (false, 1), (false, 0), (false, 7), (false, 15), (false, 0), (false, 32), (false, 127), (false, 255), (false, 511), (false, 1023), (false, 2047)] (by kernel_rfl) (by kernel_rfl) (by kernel_rfl) ?_
      simp (disch := first | omega | decide) only [rUz, rDz, infoL, Nat.reduceSub, t3, t4, t5, t8, hb3g, hb4g, hb5g, part_0 pA (coV_len c.hs v), fieldAddr_ptr frD0 s3, fieldAddr_ptr frD1 s3, fieldAddr_ptr frD2 s3, c30, c31, c32, fieldAddr_ptr frU0 lI, qI, p3, a1, a3, a4, hbel, hhad, Bool.not_false]
      repeat refine S.seq ?_
      refine S.cond (v := true) (by first | rfl | (simp (disch := first | omega | decide) only [rUz, ↓reduceIte, Nat.reduceEqDiff, Nat.reduceAdd] <;> rfl)) (fun _ => ?_) (fun e => by cases e)
      repeat refine S.seq ?_
      refine S.drawnL [(false, 0), (false, 1), (false, 0), (false, 0), (false, 8), (false, 0), (false, 56), (false, 120), (false, 248), (false, 0), (false, 512), (false, 0), (false, 3584), (false, 7680), (false, 0), (false, 16384), (true, 65532), (false, 131071), (false, 262143)] (by kernel_rfl) (by kernel_rfl) (by kernel_rfl) ?_
      simp (disch := first | omega | decide) only [rUz, rDz, infoL, Nat.reduceSub, t3, t4, t5, t8, hb3g, hb4g, hb5g, part_0 pA (coV_len c.hs v), fieldAddr_ptr frD0 s3, fieldAddr_ptr frD1 s3, fieldAddr_ptr frD2 s3, c30, c31, c32, fieldAddr_ptr frU0 lI, qI, p3, a1, a3, a4, fieldAddr_ptr fA2 lrT, qrT, co2, q1, fieldAddr_ptr frT2 s3, q3, gsh]
      refine drW_brings (fid := 46) (first := #[]) (captured := #[]) (Post := fun u _ => u = iv U) rfl (hoff _ _ _ rfl) (by simp (disch := first | omega | decide) only [rUz]; exact yU) (Nat.le_of_ble_eq_true rfl) ?_
      rintro u g3 hkg3 rfl
      have hb53 := (hkg3.get (Nat.lt_of_lt_of_le hn5 hkH.1)).trans hb5g
      refine ⟨?_, ?_⟩
      · try simp (disch := first | decide | rfl) only [again_nil, again_skip, again_free]
        rw [again_same (v := iv d.2.2) (by simp (disch := first | omega | decide) only [rUz, rDz, infoL, Nat.reduceSub, t5, hb53, fieldAddr_ptr frD2 s3, p3, c32]) veq_int]
        try simp (disch := first | decide | rfl) only [again_nil, again_skip, again_free]
      simp (disch := first | omega | decide) only [rUz, rDz, infoL, Nat.reduceSub]
      have hkH2 := hkH.trans hkg3
      have happg2 := happg.mono hkg3
      have hb4g3 := (hkg3.get (Nat.lt_of_lt_of_le (by omega : B4 < H.nx) hkH.1)).trans hb4g
      have a33 := (hkg3.get a2).trans a3
      repeat refine S.seq ?_
      refine S.drawnL [(false, 0), (false, 1), (false, 0), (false, 7), (false, 15), (false, 0), (false, 32), (false, 127), (false, 255), (false, 511), (false, 1023)] (by kernel_rfl) (by kernel_rfl) (by kernel_rfl) ?_
      simp (disch := first | omega | decide) only [rUz, rDz, infoL, Nat.reduceSub, t4, t5, t8, hb4g3, hb53, fieldAddr_ptr frD0 s3, c30, fieldAddr_ptr frU0 lI, qI, p3, a1, a33, a4, ex, hhad]
      repeat refine S.seq ?_
      refine S.cond (v := false) (by first | rfl | (simp (disch := first | omega | decide) only [rUz, ↓reduceIte, Nat.reduceEqDiff, Nat.reduceAdd] <;> rfl)) (fun e => by cases e) (fun _ => ?_)
      repeat refine S.seq ?_
      refine S.skip ?_
      simp (disch := first | omega | decide) only [rUz]
      repeat refine S.seq ?_
      refine S.region ?_
      simp (disch := first | omega | decide) only [rUz, t7, w_buildSlice, w_append]
      refine wr_lit1 slI s3' z3 rfl (by omega) (u := iv (d.2.2 * U)) (l := [iv (d.2.2 * U)]) (by simp (disch := first | omega | decide) only [rUz]) rfl rfl ?_
      simp (disch := first | omega | decide) only [rUz, w_append]
      refine wr_append slI uI (v := t7v) (bx := g3.nx) (cx := 1) (by simp (disch := first | omega | decide) only [rUz]) (by simp (disch := first | omega | decide) only [rUz]) (happg2.mono Kp.refl.add) (by have := hkH2.1; show H.nx ≤ g3.nx + 1; omega) s3' rfl (by omega) (ag_eq rfl) nI (by rw [List.length_map, List.length_take]; show _ < 1000000; omega) ?_
      intro v3 h3 F3 w1 w2 w3 w4 w5
      simp (disch := first | omega | decide) only [rUz]
      repeat refine S.seq ?_
      refine S.region ?_
      simp (disch := first | omega | decide) only [rUz, t8]
      refine hn (k + 1) _ _ (by omega) ⟨v3, F3, w2.kp (Nat.le_refl _) hkH2.add, ?_, ?_, ?_, ?_, ?_, by omega, ?_⟩
      · simp (disch := first | omega | decide) only [rUz, t3]
      · simp (disch := first | omega | decide) only [rUz, t4]
      · simp (disch := first | omega | decide) only [rUz, t5]
      · simp (disch := first | omega | decide) only [rUz]
      · simp (disch := first | omega | decide) only [rUz]
      · rw [List.take_add_one, hgv, List.map_append]
        exact w1
  | false =>
    rw [hbel, cond_false] at hgv
    rw [hbel, Bool.not_false] at ex
    cases hhad : inB (regP c.cl e) 0 d.2.1 with
    | true =>
      rw [hhad, cond_true] at hgv
      repeat refine S.seq ?_
      refine S.drawnL [(false, 0), (false, 1), (false, 0), (false, 7), (false, 15), (false, 0), (false, 32), (false, 127), (false, 255), (false, 511), (false, 1023), (false, 2047)] (by kernel_rfl) (by kernel_rfl) (by kernel_rfl) ?_
      simp (disch := first | omega | decide) only [rUz, rDz, infoL, Nat.reduceSub, t3, t4, t5, t8, hb3g, hb4g, hb5g, part_0 pA (coV_len c.hs v), fieldAddr_ptr frD0 s3, fieldAddr_ptr frD1 s3, fieldAddr_ptr frD2 s3, c30, c31, c32, fieldAddr_ptr frU0 lI, qI, p3, a1, a3, a4, hbel, hhad, Bool.not_true]
      repeat refine S.seq ?_
      refine S.cond (v := false) (by first | rfl | (simp (disch := first | omega | decide) only [rUz, ↓reduceIte, Nat.reduceEqDiff, Nat.reduceAdd] <;> rfl)) (fun e => by cases e) (fun _ => ?_)
      repeat refine S.seq ?_
      refine S.skip ?_
      simp (disch := first | omega | decide) only [rUz]
      repeat refine S.seq ?_
      refine S.drawnL [(false, 0), (false, 1), (false, 0), (false, 7), (false, 15), (false, 0), (false, 32), (false, 127), (false, 255), (false, 511), (false, 1023)] (by kernel_rfl) (by kernel_rfl) (by kernel_rfl) ?_
      simp (disch := first | omega | decide) only [rUz, rDz, infoL, Nat.reduceSub, t3, t4, t5, t8, hb3g, hb4g, hb5g, part_0 pA (coV_len c.hs v), fieldAddr_ptr frD0 s3, fieldAddr_ptr frD1 s3, fieldAddr_ptr frD2 s3, c30, c31, c32, fieldAddr_ptr frU0 lI, qI, p3, a1, a3, a4, ex, hhad]
      repeat refine S.seq ?_
      refine S.cond (v := true) (by first | rfl | (simp (disch := first | omega | decide) only [rUz, ↓reduceIte, Nat.reduceEqDiff, Nat.reduceAdd] <;> rfl)) (fun _ => ?_) (fun e => by cases e)
      repeat refine S.seq ?_
      refine S.drawnL [(false, 0), (false, 1), (false, 3), (false, 0), (false, 0), (false, 16), (false, 0), (false, 112), (false, 240), (false, 496), (false, 0), (false, 1024), (false, 0), (false, 7168), (false, 15360), (false, 0), (false, 32768), (true, 131064), (false, 262143), (false, 524287)] (by kernel_rfl) (by kernel_rfl) (by kernel_rfl) ?_
      simp (disch := first | omega | decide) only [rUz, rDz, infoL, Nat.reduceSub, t3, t4, t5, t8, hb3g, hb4g, hb5g, part_0 pA (coV_len c.hs v), fieldAddr_ptr frD0 s3, fieldAddr_ptr frD1 s3, fieldAddr_ptr frD2 s3, c30, c31, c32, fieldAddr_ptr frU0 lI, qI, p3, a1, a3, a4, fieldAddr_ptr fA2 lrT, qrT, co2, q1, fieldAddr_ptr frT2 s3, q3, gsh]
      rw [aread_neg (i := d.2.2) (by simp (disch := first | omega | decide) only [rUz, rDz, infoL, Nat.reduceSub]) (by omega) (by omega)]
      simp (disch := first | omega | decide) only [rUz, rDz, infoL, Nat.reduceSub, t3, t4, t5, t8, hb3g, hb4g, hb5g, part_0 pA (coV_len c.hs v), fieldAddr_ptr frD0 s3, fieldAddr_ptr frD1 s3, fieldAddr_ptr frD2 s3, c30, c31, c32, fieldAddr_ptr frU0 lI, qI, p3, a1, a3, a4, fieldAddr_ptr fA2 lrT, qrT, co2, q1, fieldAddr_ptr frT2 s3, q3, gsh]
      refine drW_brings (fid := 46) (first := #[]) (captured := #[]) (Post := fun u _ => u = iv U) rfl (hoff _ _ _ rfl) (by simp (disch := first | omega | decide) only [rUz]; exact yU) (Nat.le_of_ble_eq_true rfl) ?_
      rintro u g3 hkg3 rfl
      have hb53 := (hkg3.get (Nat.lt_of_lt_of_le hn5 hkH.1)).trans hb5g
      refine ⟨?_, ?_⟩
      · try simp (disch := first | decide | rfl) only [again_nil, again_skip, again_free]
        rw [again_same (v := iv d.2.2) (by simp (disch := first | omega | decide) only [rUz, rDz, infoL, Nat.reduceSub, t5, hb53, fieldAddr_ptr frD2 s3, p3, c32]) veq_int]
        try simp (disch := first | decide | rfl) only [again_nil, again_skip, again_free]
      simp (disch := first | omega | decide) only [rUz, rDz, infoL, Nat.reduceSub]
      have hkH2 := hkH.trans hkg3
      have happg2 := happg.mono hkg3
      repeat refine S.seq ?_
      refine S.region ?_
      simp (disch := first | omega | decide) only [rUz, t7, w_buildSlice, w_append]
      refine wr_lit1 slI s3' z3 rfl (by omega) (u := iv (-d.2.2 * U)) (l := [iv (-d.2.2 * U)]) (by simp (disch := first | omega | decide) only [rUz]) rfl rfl ?_
      simp (disch := first | omega | decide) only [rUz, w_append]
      refine wr_append slI uI (v := t7v) (bx := g3.nx) (cx := 1) (by simp (disch := first | omega | decide) only [rUz]) (by simp (disch := first | omega | decide) only [rUz]) (happg2.mono Kp.refl.add) (by have := hkH2.1; show H.nx ≤ g3.nx + 1; omega) s3' rfl (by omega) (ag_eq rfl) nI (by rw [List.length_map, List.length_take]; show _ < 1000000; omega) ?_
      intro v3 h3 F3 w1 w2 w3 w4 w5
      simp (disch := first | omega | decide) only [rUz]
      repeat refine S.seq ?_
      refine S.region ?_
      simp (disch := first | omega | decide) only [rUz, t8]
      refine hn (k + 1) _ _ (by omega) ⟨v3, F3, w2.kp (Nat.le_refl _) hkH2.add, ?_, ?_, ?_, ?_, ?_, by omega, ?_⟩
      · simp (disch := first | omega | decide) only [rUz, t3]
      · simp (disch := first | omega | decide) only [rUz, t4]
      · simp (disch := first | omega | decide) only [rUz, t5]
      · simp (disch := first | omega | decide) only [rUz]
      · simp (disch := first | omega | decide) only [rUz]
      · rw [List.take_add_one, hgv, List.map_append]
        exact w1
    | false =>
      rw [hhad, cond_false] at hgv
      repeat refine S.seq ?_
      refine S.drawnL [(false, 0), (false, 1), (false, 0), (false, 7), (false, 15), (false, 0), (false, 32), (false, 127), (false, 255), (false, 511), (false, 1023), (false, 2047)] (by kernel_rfl) (by kernel_rfl) (by kernel_rfl) ?_
      simp (disch := first | omega | decide) only [rUz, rDz, infoL, Nat.reduceSub, t3, t4, t5, t8, hb3g, hb4g, hb5g, part_0 pA (coV_len c.hs v), fieldAddr_ptr frD0 s3, fieldAddr_ptr frD1 s3, fieldAddr_ptr frD2 s3, c30, c31, c32, fieldAddr_ptr frU0 lI, qI, p3, a1, a3, a4, hbel, hhad, Bool.not_false]
      repeat refine S.seq ?_
      refine S.cond (v := false) (by first | rfl | (simp (disch := first | omega | decide) only [rUz, ↓reduceIte, Nat.reduceEqDiff, Nat.reduceAdd] <;> rfl)) (fun e => by cases e) (fun _ => ?_)
      repeat refine S.seq ?_
      refine S.skip ?_
      simp (disch := first | omega | decide) only [rUz]
      repeat refine S.seq ?_
      refine S.drawnL [(false, 0), (false, 1), (false, 0), (false, 7), (false, 15), (false, 0), (false, 32), (false, 127), (false, 255), (false, 511), (false, 1023)] (by kernel_rfl) (by kernel_rfl) (by kernel_rfl) ?_
      simp (disch := first | omega | decide) only [rUz, rDz, infoL, Nat.reduceSub, t3, t4, t5, t8, hb3g, hb4g, hb5g, part_0 pA (coV_len c.hs v), fieldAddr_ptr frD0 s3, fieldAddr_ptr frD1 s3, fieldAddr_ptr frD2 s3, c30, c31, c32, fieldAddr_ptr frU0 lI, qI, p3, a1, a3, a4, ex, hhad]
      repeat refine S.seq ?_
      refine S.cond (v := false) (by first | rfl | (simp (disch := first | omega | decide) only [rUz, ↓reduceIte, Nat.reduceEqDiff, Nat.reduceAdd] <;> rfl)) (fun e => by cases e) (fun _ => ?_)
      repeat refine S.seq ?_
      refine S.skip ?_
      simp (disch := first | omega | decide) only [rUz]
      repeat refine S.seq ?_
      refine S.region ?_
      simp (disch := first | omega | decide) only [rUz, t7, w_buildSlice, w_append]
      refine wr_lit1 slI s3' z3 rfl (by omega) (u := iv (0)) (l := [iv (0)]) (by simp (disch := first | omega | decide) only [rUz]) rfl rfl ?_
      simp (disch := first | omega | decide) only [rUz, w_append]
      refine wr_append slI uI (v := t7v) (bx := g2.nx) (cx := 1) (by simp (disch := first | omega | decide) only [rUz]) (by simp (disch := first | omega | decide) only [rUz]) (happg.mono Kp.refl.add) (by have := hkH.1; show H.nx ≤ g2.nx + 1; omega) s3' rfl (by omega) (ag_eq rfl) nI (by rw [List.length_map, List.length_take]; show _ < 1000000; omega) ?_
      intro v3 h3 F3 w1 w2 w3 w4 w5
      simp (disch := first | omega | decide) only [rUz]
      repeat refine S.seq ?_
      refine S.region ?_
      simp (disch := first | omega | decide) only [rUz, t8]
      refine hn (k + 1) _ _ (by omega) ⟨v3, F3, w2.kp (Nat.le_refl _) hkH.add, ?_, ?_, ?_, ?_, ?_, by omega, ?_⟩
      · simp (disch := first | omega | decide) only [rUz, t3]
      · simp (disch := first | omega | decide) only [rUz, t4]
      · simp (disch := first | omega | decide) only [rUz, t5]
      · simp (disch := first | omega | decide) only [rUz]
      · simp (disch := first | omega | decide) only [rUz]
      · rw [List.take_add_one, hgv, List.map_append]
        exact w1
end Go.Proofs.Cp
