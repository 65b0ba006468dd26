import Derived.Test.YtfbkgnojdngiiaaMh7
/- A bank of the reference as one of the program. -/
namespace Go.Proofs.Mg
open Go Go.Ev Go.RowKit
set_option linter.unusedSimpArgs false
variable {pr : Prim} {R : ExT}
theorem slF_fr {lo F sz B : Nat} {h h' : AHeap} {v : Value} {cs : List (List Value)} (k : SlF lo h sz v cs F) (a : Fr h B h') (hB : B < lo) : SlF lo h' sz v cs F := by
  rcases k with k | ⟨b, cap, f, ro, k1, k2, k3, k4, k5, k6, k7, k8⟩
  · exact .inl k
  · exact .inr ⟨b, cap, f, ro, k1, k2, k3, Nat.lt_of_lt_of_le k4 a.le, (a.bl b k4 (by omega)).trans k5, k6, k7, Nat.lt_of_lt_of_le k8 a.le⟩
theorem slF_grown {lo lo2 sz sz2 F F' : Nat} {h h' : AHeap} {v v' : Value} {cs cs2 : List (List Value)} {c : List Value} (k : SlF lo h sz v cs F) (g : Grown lo2 h h' sz2 v' cs2 c F F') : SlF lo h' sz v cs F' :=
  k.left g.left g.same g.fresh
structure IBa (st : Int) (D : List PD) (H : AHeap) (B1 B2 B3 : Nat) (k : Nat) (t : T Value) (h : AHeap) : Prop where
  fr : Fr H B3 h
  ex : ∃ (D2 : List PD) (v : Value) (F : Nat), App H.nx h 3 v (D2.map cD) F ∧ (D2.map fun x => x.2) = (D.take k).map (fun x => x.2) ∧ (∀ x, x ∈ D2 → SlF H.nx h 2 x.1 (x.2.1.map c2) F) ∧ h.bl.get B3 = some (.cells (bkV st v nl) B3 false) ∧ F < h.nx
  t1 : tget t 1 = ptr0 B1
  t2 : tget t 2 = ptr0 B2
  t3 : tget t 3 = ptr0 B3
  t4 : tget t 4 = iv (k : Int)
  hk : k ≤ D.length
/-- The loop over the prices of a day: G is the heap at its start, in which block B5 is the day. -/
structure IBb (x : PD) (G : AHeap) (B1 B2 B3 B5 : Nat) (k : Nat) (j : Nat) (t : T Value) (h : AHeap) : Prop where
  fr : Fr G B5 h
  ex : ∃ (v : Value) (F : Nat), App G.nx h 2 v ((x.2.1.take j).map c2) F ∧ h.bl.get B5 = some (.cells [v, iv x.2.2.1, iv x.2.2.2] B5 false)
  t1 : tget t 1 = ptr0 B1
  t2 : tget t 2 = ptr0 B2
  t3 : tget t 3 = ptr0 B3
  t4 : tget t 4 = iv (k : Int)
  t5 : tget t 5 = ptr0 B5
  t6 : tget t 6 = iv (j : Int)
  hj : j ≤ x.2.1.length
structure IBc (st : Int) (L : List PL) (dv : Value) (H : AHeap) (B1 B2 B3 : Nat) (k : Nat) (t : T Value) (h : AHeap) : Prop where
  fr : Fr H B3 h
  ex : ∃ (L2 : List PL) (v : Value) (F : Nat), App H.nx h 3 v (L2.map cL) F ∧ (L2.map fun x => x.2) = (L.take k).map (fun x => x.2) ∧ (∀ x, x ∈ L2 → IsF H.nx h x.1 x.2.2.2 F) ∧ h.bl.get B3 = some (.cells (bkV st dv v) B3 false) ∧ F < h.nx
  t1 : tget t 1 = ptr0 B1
  t2 : tget t 2 = ptr0 B2
  t3 : tget t 3 = ptr0 B3
  t7 : tget t 7 = iv (k : Int)
  hk : k ≤ L.length
/-- The same bank, in new slices. -/
def BkAs (st : Int) (D : List PD) (L : List PL) (u : Value) (h : AHeap) : Prop := ∃ (dv lv : Value) (D' : List PD) (L' : List PL), u = .agg ⟨bkV st dv lv⟩ ∧ BkAt h dv lv D' L' ∧ (D'.map fun x => x.2) = (D.map fun x => x.2) ∧ (L'.map fun x => x.2) = L.map fun x => x.2
set_option maxHeartbeats 32000000 in
theorem bankC_y (S : Ev.Steps Try.prog pr R) (hoff : Off pr) (h0 : AHeap) (st : Int) (dv lv : Value) (D : List PD) (L : List PL) (hb : BkAt h0 dv lv D L) (hs : ∀ x, x ∈ L → IS h0 x.1 x.2.2.2) (h7 : (D.length : Int) ≤ 7) (hl7 : (L.length : Int) ≤ 7) (hp7 : ∀ x, x ∈ D → (x.2.1.length : Int) ≤ 7) (hx7 : ∀ x, x ∈ L → (x.2.2.2.length : Int) ≤ 7) :
    Brings Try.prog R 26 [.agg ⟨bkV st dv lv⟩] h0 fun u h => BkAs st D L u h := by
  refine brings_of (fn := Try.f26) (c := (Try.f26.body).getD .skip) (by kernel_rfl) rfl (by kernel_rfl) rfl (fun K hK => ?_)
  generalize hF : finish Try.prog Try.f26 K = KF
  simp only [Try.f26, Option.getD_some, argsT, setArgs, fV1_eq, T.setK_eq, id]
  have lD := fun t h1 o => row_len hb.dy isrD t h1 o
  have lL := fun t h1 o => row_len hb.ln isrL t h1 o
  repeat refine S.seq ?_
  refine S.region ?_
  simp (disch := first | omega | (simp only [add_nx, upd_nx] <;> omega) | decide) only [rUz, ↓reduceIte, Nat.reduceEqDiff, Nat.reduceAdd, wr_alloc zB]
  obtain ⟨B1, hB1⟩ : ∃ x, x = h0.nx := ⟨_, rfl⟩
  obtain ⟨B2, hB2⟩ : ∃ x, x = h0.nx + 1 := ⟨_, rfl⟩
  have hb1 : ((h0.add (bkV st dv lv)).add [iv 0, nl, nl]).bl.get B1 = some (.cells (bkV st dv lv) B1 false) := by rw [ag_ne (by show B1 ≠ h0.nx + 1; omega)]; subst hB1; exact ag_eq rfl
  have hb2 : ((h0.add (bkV st dv lv)).add [iv 0, nl, nl]).bl.get B2 = some (.cells [iv 0, nl, nl] B2 false) := by subst hB2; exact ag_eq rfl
  have hf2 : ((h0.add (bkV st dv lv)).add [iv 0, nl, nl]).fams.get B2 = some [B2] := by subst hB2; exact af_eq rfl
  have hk1 : Kp h0 ((h0.add (bkV st dv lv)).add [iv 0, nl, nl]) := Kp.refl.add.add
  have hn1 : B1 < ((h0.add (bkV st dv lv)).add [iv 0, nl, nl]).nx := by show B1 < h0.nx + 2; omega
  have hn2 : B2 < ((h0.add (bkV st dv lv)).add [iv 0, nl, nl]).nx := by show B2 < h0.nx + 2; omega
  have ho2 : h0.nx ≤ B2 := by omega
  rw [← hB2, ← hB1]
  clear hB1 hB2
  generalize (h0.add (bkV st dv lv)).add [iv 0, nl, nl] = H0 at hb1 hb2 hf2 hk1 hn1 hn2 ⊢
  repeat refine S.seq ?_
  refine S.region ?_
  simp (disch := first | omega | (simp only [add_nx, upd_nx] <;> omega) | decide) only [rUz, ↓reduceIte, Nat.reduceEqDiff, Nat.reduceAdd, fieldAddr_ptr fA0 s3, p3, hb1, bk0, rd_build, List.map_cons, List.map_nil, bB0, wr_alloc zB]
  refine wr_storeN (B := H0.nx) (c := [iv 0, nl, nl]) (fam := H0.nx) (k := H0.nx) (l := bkV st nl nl) (by simp (disch := first | omega | (simp only [add_nx, upd_nx] <;> omega) | decide) only [rUz, ↓reduceIte, Nat.reduceEqDiff, Nat.reduceAdd]) (by simp (disch := first | omega | (simp only [add_nx, upd_nx] <;> omega) | decide) only [rUz, ↓reduceIte, Nat.reduceEqDiff, Nat.reduceAdd]; rfl) sB (by omega) rfl (ag_eq rfl) (af_eq rfl) rfl ?_
  obtain ⟨B3, hB3⟩ : ∃ x, x = H0.nx := ⟨_, rfl⟩
  have hk0 : Kp H0 ((H0.add [iv 0, nl, nl]).upd H0.nx (bkV st nl nl) H0.nx) := Kp.refl.add.upd (Nat.le_refl _)
  have hb3 : ((H0.add [iv 0, nl, nl]).upd H0.nx (bkV st nl nl) H0.nx).bl.get B3 = some (.cells (bkV st nl nl) B3 false) := by subst hB3; exact upd_eq _ _ _
  have hf3 : ((H0.add [iv 0, nl, nl]).upd H0.nx (bkV st nl nl) H0.nx).fams.get B3 = some [B3] := by subst hB3; rw [upd_fams]; exact af_eq rfl
  have hn3 : B3 < ((H0.add [iv 0, nl, nl]).upd H0.nx (bkV st nl nl) H0.nx).nx := by subst hB3; exact Nat.lt_succ_self _
  simp (disch := first | omega | (simp only [add_nx, upd_nx] <;> omega) | decide) only [rUz, ↓reduceIte, Nat.reduceEqDiff, Nat.reduceAdd]
  rw [← hB3]
  rw [← hB3] at hb3 hf3 hn3 hk0
  have hgB : H0.nx ≤ B3 := by omega
  clear hB3
  generalize (H0.add [iv 0, nl, nl]).upd B3 (bkV st nl nl) B3 = H at hk0 hb3 hf3 hn3 ⊢
  replace hb1 := (hk0.get hn1).trans hb1
  replace hb2 := (hk0.get hn2).trans hb2
  replace hf2 := (hk0.fget hn2).trans hf2
  have ho3 : h0.nx ≤ B3 := by have := hk1.1; omega
  have hn13 : B1 < B3 := by omega
  have hn23 : B2 < B3 := by omega
  replace hk1 := hk1.trans hk0
  clear hk0 hn1 hn2 hgB
  clear H0
  repeat refine S.seq ?_
  refine S.region ?_
  simp (disch := first | omega | (simp only [add_nx, upd_nx] <;> omega) | decide) only [rUz, ↓reduceIte, Nat.reduceEqDiff, Nat.reduceAdd]
  repeat refine S.seq ?_
  refine S.block ?_
  refine S.loop (ι := Nat) (IBa st D H B1 B2 B3) (fun k => D.length - k) ?_ 0 _ _ ?_
  rotate_left
  · refine ⟨Fr.refl, ⟨[], nl, 0, .inl ⟨rfl, rfl⟩, rfl, (fun x hx => by cases hx), hb3, by omega⟩, ?_, ?_, ?_, ?_, Nat.zero_le _⟩
    all_goals (first | rfl | (simp (disch := first | omega | (simp only [add_nx, upd_nx] <;> omega) | decide) only [rUz, ↓reduceIte, Nat.reduceEqDiff, Nat.reduceAdd]; done) | (simp (disch := first | omega | (simp only [add_nx, upd_nx] <;> omega) | decide) only [rUz, ↓reduceIte, Nat.reduceEqDiff, Nat.reduceAdd]; rfl))
  clear hb3
  intro k t h ⟨fr, ⟨D2, v, F, app, hD2, hI, hb3, hFl⟩, t1, t2, t3, t4, hk⟩ K' hn he
  have hnx := fr.le
  have kph : Kp h0 h := Fr.toKp hk1 fr ho3
  have hb1h : h.bl.get B1 = some (.cells (bkV st dv lv) B1 false) := (fr.get (by omega) (by omega)).trans hb1
  have hf3h : h.fams.get B3 = some [B3] := (fr.fam B3 hn3).trans hf3
  repeat refine S.seq ?_
  refine S.region ?_
  simp (disch := first | omega | (simp only [add_nx, upd_nx] <;> omega) | decide) only [rUz, ↓reduceIte, Nat.reduceEqDiff, Nat.reduceAdd, t1, t4, fieldAddr_ptr fA1 lrD, qrD, hb1h, bk1, lD]
  repeat refine S.seq ?_
  refine S.cond (v := decide ((k : Int) < (D.length : Int))) (by first | rfl | (simp (disch := first | omega | (simp only [add_nx, upd_nx] <;> omega) | decide) only [rUz, ↓reduceIte, Nat.reduceEqDiff, Nat.reduceAdd] <;> rfl)) (fun e => ?_) (fun e => ?_)
  · have hkn : k < D.length := by have := of_decide_eq_true e; omega
    clear e
    have hps : D[k]? = some D[k] := List.getElem?_eq_getElem hkn
    have hxm : D[k] ∈ D := List.getElem_mem hkn
    have htk : (D.take (k + 1)).map (fun x => x.2) = (D.take k).map (fun x => x.2) ++ [D[k].2] := by rw [List.take_add_one, hps, Option.toList_some, List.map_append]; rfl
    have hx7k := hp7 _ hxm
    generalize D[k] = x at hps hxm htk hx7k
    have hD2l : D2.length = k := by
      have := congrArg List.length hD2
      rw [List.length_map, List.length_map, List.length_take] at this
      omega
    obtain ⟨b2, f2, o2, ce2, v1, v2, v3, v4, v5, v6⟩ := row_idx (hb.mono kph).dy slrD srD hps
    have w0 := v6 0 _ (cD0 x)
    have w1 := v6 1 _ (cD1 x)
    have w2 := v6 2 _ (cD2 x)
    rw [Nat.add_zero] at w0
    have hxr := hb.pr x hxm
    repeat refine S.seq ?_
    refine S.skip ?_
    simp (disch := first | omega | (simp only [add_nx, upd_nx] <;> omega) | decide) only [rUz, ↓reduceIte, Nat.reduceEqDiff, Nat.reduceAdd]
    repeat refine S.seq ?_
    refine S.block ?_
    repeat refine S.seq ?_
    refine S.drawnL [(false, 0), (false, 1), (false, 0), (false, 7), (false, 15), (false, 31), (false, 63), (false, 0), (false, 128), (false, 0), (false, 896), (false, 1920), (false, 3968), (false, 8064), (false, 16383), (false, 32767), (true, 0), (true, 131071)] (by kernel_rfl) (by kernel_rfl) (by kernel_rfl) ?_
    simp (disch := first | omega | (simp only [add_nx, upd_nx] <;> omega) | decide) only [rUz, ↓reduceIte, Nat.reduceEqDiff, Nat.reduceAdd, rDz, infoL, Nat.reduceSub, t1, t4, fieldAddr_ptr fA1 lrD, fieldAddr_ptr frD1 SrR, fieldAddr_ptr frR0 s3, fieldAddr_ptr frR1 s3, p3, qrD, hb1h, bk1, v1, v3, w1, w2, rd_build, List.map_cons, List.map_nil, bcR, bcD]
    refine drW_give (aw_alloc zcD) (Nat.le_of_ble_eq_true rfl) ?_ ?_
    · try simp (disch := first | decide | rfl) only [again_nil, again_skip, again_free]
      rw [again_same (v := iv x.2.2.2) (by simp (disch := first | omega | (simp only [add_nx, upd_nx] <;> omega) | decide) only [rUz, ↓reduceIte, Nat.reduceEqDiff, Nat.reduceAdd, rDz, infoL, Nat.reduceSub, ag_ne, v3, fieldAddr_ptr frR1 s3, fieldAddr_ptr frD1 SrR, p3, w2]) (by first | assumption | exact veq_int | rfl)]
      try simp (disch := first | decide | rfl) only [again_nil, again_skip, again_free]
      rw [again_same (v := dv) (by simp (disch := first | omega | (simp only [add_nx, upd_nx] <;> omega) | decide) only [rUz, ↓reduceIte, Nat.reduceEqDiff, Nat.reduceAdd, rDz, infoL, Nat.reduceSub, t1, ag_ne, hb1h, fieldAddr_ptr fA1 lrD, qrD, bk1]) (row_veq hb.dy)]
      try simp (disch := first | decide | rfl) only [again_nil, again_skip, again_free]
      rw [again_same (v := iv x.2.2.1) (by simp (disch := first | omega | (simp only [add_nx, upd_nx] <;> omega) | decide) only [rUz, ↓reduceIte, Nat.reduceEqDiff, Nat.reduceAdd, rDz, infoL, Nat.reduceSub, ag_ne, v3, fieldAddr_ptr frR0 s3, fieldAddr_ptr frD1 SrR, p3, w1]) (by first | assumption | exact veq_int | rfl)]
      try simp (disch := first | decide | rfl) only [again_nil, again_skip, again_free]
      rw [again_same (v := dv) (by simp (disch := first | omega | (simp only [add_nx, upd_nx] <;> omega) | decide) only [rUz, ↓reduceIte, Nat.reduceEqDiff, Nat.reduceAdd, rDz, infoL, Nat.reduceSub, t1, ag_ne, hb1h, fieldAddr_ptr fA1 lrD, qrD, bk1]) (row_veq hb.dy)]
      try simp (disch := first | decide | rfl) only [again_nil, again_skip, again_free]
    simp (disch := first | omega | (simp only [add_nx, upd_nx] <;> omega) | decide) only [rUz, ↓reduceIte, Nat.reduceEqDiff, Nat.reduceAdd, rDz, infoL, Nat.reduceSub]
    refine drW_giveN (aw_storeN (B := h.nx) (ls := [nl, iv x.2.2.1, iv x.2.2.2]) (by simp (disch := first | omega | (simp only [add_nx, upd_nx] <;> omega) | decide) only [rUz, ↓reduceIte, Nat.reduceEqDiff, Nat.reduceAdd, rDz, infoL, Nat.reduceSub]) (by simp (disch := first | omega | (simp only [add_nx, upd_nx] <;> omega) | decide) only [rUz, ↓reduceIte, Nat.reduceEqDiff, Nat.reduceAdd, rDz, infoL, Nat.reduceSub]) scD (by omega) rfl (ag_eq rfl) (af_eq rfl) rfl) ?_ ?_
    · try simp (disch := first | decide | rfl) only [again_nil, again_skip, again_free]
    obtain ⟨B5, hB5⟩ : ∃ z, z = h.nx := ⟨_, rfl⟩
    have hkG : Kp h ((h.add [nl, iv 0, iv 0]).upd h.nx [nl, iv x.2.2.1, iv x.2.2.2] h.nx) := Kp.refl.add.upd (Nat.le_refl _)
    have hb5 : ((h.add [nl, iv 0, iv 0]).upd h.nx [nl, iv x.2.2.1, iv x.2.2.2] h.nx).bl.get B5 = some (.cells [nl, iv x.2.2.1, iv x.2.2.2] B5 false) := by subst hB5; exact upd_eq _ _ _
    have hf5 : ((h.add [nl, iv 0, iv 0]).upd h.nx [nl, iv x.2.2.1, iv x.2.2.2] h.nx).fams.get B5 = some [B5] := by subst hB5; rw [upd_fams]; exact af_eq rfl
    have hn5 : B5 < ((h.add [nl, iv 0, iv 0]).upd h.nx [nl, iv x.2.2.1, iv x.2.2.2] h.nx).nx := by subst hB5; exact Nat.lt_succ_self _
    simp (disch := first | omega | (simp only [add_nx, upd_nx] <;> omega) | decide) only [rUz, ↓reduceIte, Nat.reduceEqDiff, Nat.reduceAdd, rDz, infoL, Nat.reduceSub]
    rw [← hB5]
    rw [← hB5] at hkG hb5 hf5 hn5
    generalize (h.add [nl, iv 0, iv 0]).upd B5 [nl, iv x.2.2.1, iv x.2.2.2] B5 = G at hkG hb5 hf5 hn5 ⊢
    clear v1 v2 v3 v4 v5 v6 w0 w1 w2
    repeat refine S.seq ?_
    refine S.region ?_
    simp (disch := first | omega | (simp only [add_nx, upd_nx] <;> omega) | decide) only [rUz, ↓reduceIte, Nat.reduceEqDiff, Nat.reduceAdd]
    repeat refine S.seq ?_
    refine S.block ?_
    refine S.loop (ι := Nat) (IBb x G B1 B2 B3 B5 k) (fun j => x.2.1.length - j) ?_ 0 _ _ ?_
    rotate_left
    · refine ⟨Fr.refl, ⟨nl, 0, .inl ⟨rfl, rfl⟩, hb5⟩, ?_, ?_, ?_, ?_, ?_, ?_, Nat.zero_le _⟩
      all_goals (first | rfl | (simp (disch := first | omega | (simp only [add_nx, upd_nx] <;> omega) | decide) only [rUz, ↓reduceIte, Nat.reduceEqDiff, Nat.reduceAdd, t1, t2, t3, t4]; done) | (simp (disch := first | omega | (simp only [add_nx, upd_nx] <;> omega) | decide) only [rUz, ↓reduceIte, Nat.reduceEqDiff, Nat.reduceAdd, t1, t2, t3, t4]; rfl))
    clear t1 t2 t3 t4 hb5
    clear t
    intro j t h' ⟨frj, ⟨vp, Fp, appj, hb5⟩, t1, t2, t3, t4, t5, t6, hj⟩ K2 hn2 he2
    have hGn := hkG.1
    have khj : Kp h h' := Fr.toKp hkG frj (by omega)
    have hgj := frj.le
    have hb1j := (khj.get (by omega : B1 < h.nx)).trans hb1h
    have hf5j : h'.fams.get B5 = some [B5] := (frj.fam B5 hn5).trans hf5
    obtain ⟨b2, f2, o2, ce2, v1, v2, v3, v4, v5, v6⟩ := row_idx (hb.mono (kph.trans khj)).dy slrD srD hps
    have w0 := v6 0 _ (cD0 x)
    rw [Nat.add_zero] at w0
    have lx := fun t h1 o => row_len (SlAt.mono hxr (kph.trans khj)) isrR t h1 o
    repeat refine S.seq ?_
    refine S.region ?_
    simp (disch := first | omega | (simp only [add_nx, upd_nx] <;> omega) | decide) only [rUz, ↓reduceIte, Nat.reduceEqDiff, Nat.reduceAdd, t1, t4, t6, fieldAddr_ptr fA1 lrD, fieldAddr_ptr frD0 lrR, qrD, qrR, hb1j, bk1, v1, v3, w0, lx]
    repeat refine S.seq ?_
    refine S.cond (v := decide ((j : Int) < (x.2.1.length : Int))) (by first | rfl | (simp (disch := first | omega | (simp only [add_nx, upd_nx] <;> omega) | decide) only [rUz, ↓reduceIte, Nat.reduceEqDiff, Nat.reduceAdd] <;> rfl)) (fun e => ?_) (fun e => ?_)
    · have hjn : j < x.2.1.length := by have := of_decide_eq_true e; omega
      clear e
      have hpr : x.2.1[j]? = some x.2.1[j] := List.getElem?_eq_getElem hjn
      have htj : (x.2.1.take (j + 1)).map c2 = (x.2.1.take j).map c2 ++ [c2 x.2.1[j]] := by rw [List.take_add_one, hpr, Option.toList_some, List.map_append]; rfl
      have hpl : ((x.2.1.take j).map c2).length = j := by rw [List.length_map, List.length_take]; omega
      generalize x.2.1[j] = r at hpr htj
      generalize (x.2.1.take j).map c2 = PL0 at appj htj hpl
      obtain ⟨b3, f3, o3, ce3, u1, u2, u3, u4, u5, u6⟩ := row_idx (SlAt.mono hxr (kph.trans khj)) slrR srR hpr
      have c0 := u6 0 _ (c20 r)
      have c1 := u6 1 _ (c21 r)
      rw [Nat.add_zero] at c0
      repeat refine S.seq ?_
      refine S.skip ?_
      simp (disch := first | omega | (simp only [add_nx, upd_nx] <;> omega) | decide) only [rUz, ↓reduceIte, Nat.reduceEqDiff, Nat.reduceAdd]
      repeat refine S.seq ?_
      refine S.block ?_
      repeat refine S.seq ?_
      refine S.drawnL [(false, 0), (false, 1), (false, 0), (false, 4), (false, 0), (false, 28), (false, 60), (false, 124), (false, 0), (false, 508), (false, 1020), (false, 2044), (false, 0), (false, 4096), (false, 0), (false, 28672), (false, 61440), (false, 126976), (false, 0), (false, 520192), (false, 1044480), (false, 2093056), (false, 4194300), (true, 8388604), (true, 16777215), (false, 33554431), (true, 67108863)] (by kernel_rfl) (by kernel_rfl) (by kernel_rfl) ?_
      simp (disch := first | omega | (simp only [add_nx, upd_nx] <;> omega) | decide) only [rUz, ↓reduceIte, Nat.reduceEqDiff, Nat.reduceAdd, rDz, infoL, Nat.reduceSub, t1, t4, t5, t6, fieldAddr_ptr fcD0 lcR, fieldAddr_ptr fA1 lrD, fieldAddr_ptr frD0 lrR, fieldAddr_ptr frR0 s3, fieldAddr_ptr frR1 s3, p3, qrD, qrR, qcR, hb1j, hb5, bk1, v1, v3, w0, u1, u3, c0, c1, rd_build, List.map_cons, List.map_nil, bcR, List.getElem?_cons_zero]
      refine drW_give (aw_lit1 slcR scR zcR rfl (by omega) (u := .agg ⟨c2 r⟩) (l := c2 r) (by simp (disch := first | omega | (simp only [add_nx, upd_nx] <;> omega) | decide) only [rUz, ↓reduceIte, Nat.reduceEqDiff, Nat.reduceAdd, rDz, infoL, Nat.reduceSub]; rfl) rfl rfl) (Nat.le_of_ble_eq_true rfl) ?_ ?_
      · try simp (disch := first | decide | rfl) only [again_nil, again_skip, again_free]
        rw [again_same (v := vp) (by simp (disch := first | omega | (simp only [add_nx, upd_nx] <;> omega) | decide) only [rUz, ↓reduceIte, Nat.reduceEqDiff, Nat.reduceAdd, rDz, infoL, Nat.reduceSub, t5, ag_ne, hb5, fieldAddr_ptr fcD0 lcR, qcR, List.getElem?_cons_zero]) appj.veq]
        try simp (disch := first | decide | rfl) only [again_nil, again_skip, again_free]
      simp (disch := first | omega | (simp only [add_nx, upd_nx] <;> omega) | decide) only [rUz, ↓reduceIte, Nat.reduceEqDiff, Nat.reduceAdd, rDz, infoL, Nat.reduceSub]
      refine drW_app slcR ucR (v := vp) (bx := h'.nx) (cx := 1) (by simp (disch := first | omega | (simp only [add_nx, upd_nx] <;> omega) | decide) only [rUz, ↓reduceIte, Nat.reduceEqDiff, Nat.reduceAdd, rDz, infoL, Nat.reduceSub]) (by simp (disch := first | omega | (simp only [add_nx, upd_nx] <;> omega) | decide) only [rUz, ↓reduceIte, Nat.reduceEqDiff, Nat.reduceAdd, rDz, infoL, Nat.reduceSub]) (appj.mono Kp.refl.add) (by show G.nx ≤ h'.nx + 1; omega) scR (c2_len r) (by omega) (ag_eq rfl) ncR (by show _ < 1000000; omega) (Nat.le_of_ble_eq_true rfl) ?_
      intro v7 h3 F3 gr
      obtain ⟨bv, n7, c7, rfl, hbv⟩ := gr.blk
      have hsm := gr.sm
      have hb53 : h3.bl.get B5 = some (.cells [vp, iv x.2.2.1, iv x.2.2.2] B5 false) := by rw [(hsm.2 B5 hn5).1, ag_ne (by omega)]; exact hb5
      have hf53 : h3.fams.get B5 = some [B5] := by rw [(hsm.2 B5 hn5).2, af_ne (by omega)]; exact hf5j
      have fr3 : Fr G B5 h3 := (frj.kp Kp.refl.add).sm hsm (Nat.le_refl _)
      have happ := gr.app
      rw [← htj] at happ
      refine ⟨?_, ?_⟩
      · try simp (disch := first | decide | rfl) only [again_nil, again_skip, again_free]
      simp (disch := first | omega | (simp only [add_nx, upd_nx] <;> omega) | decide) only [rUz, ↓reduceIte, Nat.reduceEqDiff, Nat.reduceAdd, rDz, infoL, Nat.reduceSub, t5, fieldAddr_ptr fcD0 lcR]
      refine drW_giveN (aw_store1 (B := B5) (off := 0) (v := .slice (some ⟨bv, 0, none⟩) n7 c7) (by simp (disch := first | omega | (simp only [add_nx, upd_nx] <;> omega) | decide) only [rUz, ↓reduceIte, Nat.reduceEqDiff, Nat.reduceAdd, rDz, infoL, Nat.reduceSub]) (by simp (disch := first | omega | (simp only [add_nx, upd_nx] <;> omega) | decide) only [rUz, ↓reduceIte, Nat.reduceEqDiff, Nat.reduceAdd, rDz, infoL, Nat.reduceSub]) lcR' rfl rfl hb53 hf53 (by show 0 < 3; omega)) ?_ ?_
      · try simp (disch := first | decide | rfl) only [again_nil, again_skip, again_free]
      simp (disch := first | omega | (simp only [add_nx, upd_nx] <;> omega) | decide) only [rUz, ↓reduceIte, Nat.reduceEqDiff, Nat.reduceAdd, rDz, infoL, Nat.reduceSub]
      repeat refine S.seq ?_
      refine S.region ?_
      simp (disch := first | omega | (simp only [add_nx, upd_nx] <;> omega) | decide) only [rUz, ↓reduceIte, Nat.reduceEqDiff, Nat.reduceAdd, t6]
      refine hn2 (j + 1) _ _ (by omega) ⟨fr3.upd, ⟨_, F3, happ.upd hn5, upd_eq _ _ _⟩, ?_, ?_, ?_, ?_, ?_, ?_, by omega⟩
      all_goals (first | rfl | (simp (disch := first | omega | (simp only [add_nx, upd_nx] <;> omega) | decide) only [rUz, ↓reduceIte, Nat.reduceEqDiff, Nat.reduceAdd, t1, t2, t3, t4, t5]; done) | (simp (disch := first | omega | (simp only [add_nx, upd_nx] <;> omega) | decide) only [rUz, ↓reduceIte, Nat.reduceEqDiff, Nat.reduceAdd, t1, t2, t3, t4, t5]; rfl))
    have hjn : j = x.2.1.length := by have := of_decide_eq_false e; omega
    subst hjn
    rw [List.take_of_length_le (Nat.le_refl _)] at appj
    have hb3j : h'.bl.get B3 = some (.cells (bkV st v nl) B3 false) := (khj.get (by omega)).trans hb3
    have hf3j : h'.fams.get B3 = some [B3] := (khj.fget (by omega)).trans hf3h
    have frh : Fr H B3 h' := fr.kp khj
    have hslF : SlF H.nx h' 2 vp (x.2.1.map c2) F := appj.slF (by omega) (by omega)
    obtain ⟨vd, hvd⟩ : ∃ z : PD, z = (vp, x.2.1, x.2.2) := ⟨_, rfl⟩
    have hcd : cD vd = [vp, iv x.2.2.1, iv x.2.2.2] := by rw [hvd]; rfl
    rw [← hcd] at hb5
    refine S.exit (he2 _ _ _ _ (fun e => by cases e) ?_)
    simp (disch := first | omega | (simp only [add_nx, upd_nx] <;> omega) | decide) only [rUz, ↓reduceIte, Nat.reduceEqDiff, Nat.reduceAdd]
    clear hn2 he2 K2 e v1 v2 v3 v4 v5 v6 w0 hj t6
    repeat refine S.seq ?_
    refine S.region ?_
    simp (disch := first | omega | (simp only [add_nx, upd_nx] <;> omega) | decide) only [rUz, ↓reduceIte, Nat.reduceEqDiff, Nat.reduceAdd, t3, t5, fieldAddr_ptr fB1 lcD, qcD, hb3j, hb5, bk1, part_0 pcD (cD_len vd), w_buildSlice, w_append]
    refine wr_lit1 slcD scD zcD rfl (by omega) (u := .agg ⟨cD vd⟩) (l := cD vd) (by simp (disch := first | omega | (simp only [add_nx, upd_nx] <;> omega) | decide) only [rUz, ↓reduceIte, Nat.reduceEqDiff, Nat.reduceAdd]) rfl rfl ?_
    simp (disch := first | omega | (simp only [add_nx, upd_nx] <;> omega) | decide) only [rUz, ↓reduceIte, Nat.reduceEqDiff, Nat.reduceAdd, w_append]
    refine wr_grown slcD ucD (v := v) (bx := h'.nx) (cx := 1) (by simp (disch := first | omega | (simp only [add_nx, upd_nx] <;> omega) | decide) only [rUz, ↓reduceIte, Nat.reduceEqDiff, Nat.reduceAdd]) (by simp (disch := first | omega | (simp only [add_nx, upd_nx] <;> omega) | decide) only [rUz, ↓reduceIte, Nat.reduceEqDiff, Nat.reduceAdd]) ((app.mono khj).mono Kp.refl.add) (by show H.nx ≤ h'.nx + 1; omega) scD (cD_len vd) (by omega) (ag_eq rfl) ncD (by rw [List.length_map]; show _ < 1000000; omega) ?_
    intro v7 h3 F3 gr
    obtain ⟨bv, n7, c7, rfl, hbv⟩ := gr.blk
    have hsm := gr.sm
    have hb33 : h3.bl.get B3 = some (.cells (bkV st v nl) B3 false) := by rw [(hsm.2 B3 hn3).1, ag_ne (by omega)]; exact hb3j
    have hf33 : h3.fams.get B3 = some [B3] := by rw [(hsm.2 B3 hn3).2, af_ne (by omega)]; exact hf3j
    have fr3 : Fr H B3 h3 := (frh.kp Kp.refl.add).sm hsm (Nat.le_refl _)
    have happ := gr.app
    have hI3 : ∀ y, y ∈ D2 ++ [vd] → SlF H.nx h3 2 y.1 (y.2.1.map c2) F3 := fun y hy => by
      rcases List.mem_append.1 hy with hy | hy
      · exact slF_grown (((hI y hy).mono khj).mono Kp.refl.add) gr
      · obtain rfl := List.mem_singleton.1 hy
        rw [hvd]
        exact slF_grown (hslF.mono Kp.refl.add) gr
    have hF3 : F3 < h3.nx := happ.fam_lt (by simp)
    have hvd2 : vd.2 = x.2 := by rw [hvd]
    simp (disch := first | omega | (simp only [add_nx, upd_nx] <;> omega) | decide) only [rUz, ↓reduceIte, Nat.reduceEqDiff, Nat.reduceAdd, t3, fieldAddr_ptr fB1 lcD]
    refine wr_store lcD' ?_
    simp (disch := first | omega | (simp only [add_nx, upd_nx] <;> omega) | decide) only [rUz, ↓reduceIte, Nat.reduceEqDiff, Nat.reduceAdd, stR_sl, hb33, hf33, bkV_len]
    repeat refine S.seq ?_
    refine S.region ?_
    simp (disch := first | omega | (simp only [add_nx, upd_nx] <;> omega) | decide) only [rUz, ↓reduceIte, Nat.reduceEqDiff, Nat.reduceAdd, t4]
    refine hn (k + 1) _ _ (by omega) ⟨fr3.upd, ⟨D2 ++ [vd], _, F3, ?_, ?_, fun y hy => (hI3 y hy).upd hn3, upd_eq _ _ _, hF3⟩, ?_, ?_, ?_, ?_, by omega⟩
    · rw [List.map_append]
      exact happ.upd hn3
    · rw [List.map_append, hD2, htk, ← hvd2]; rfl
    all_goals (first | rfl | (simp (disch := first | omega | (simp only [add_nx, upd_nx] <;> omega) | decide) only [rUz, ↓reduceIte, Nat.reduceEqDiff, Nat.reduceAdd, t1, t2, t3]; done) | (simp (disch := first | omega | (simp only [add_nx, upd_nx] <;> omega) | decide) only [rUz, ↓reduceIte, Nat.reduceEqDiff, Nat.reduceAdd, t1, t2, t3]; rfl))
  have hkn : k = D.length := by have := of_decide_eq_false e; omega
  subst hkn
  rw [List.take_of_length_le (Nat.le_refl _)] at hD2
  refine S.exit (he _ _ _ _ (fun e => by cases e) ?_)
  simp (disch := first | omega | (simp only [add_nx, upd_nx] <;> omega) | decide) only [rUz, ↓reduceIte, Nat.reduceEqDiff, Nat.reduceAdd]
  clear hn he K' e t4 hk hf3
  -- the loans
  have hb2h : h.bl.get B2 = some (.cells [iv 0, nl, nl] B2 false) := (fr.get (by omega) (by omega)).trans hb2
  have hf2h : h.fams.get B2 = some [B2] := (fr.fam B2 (by omega)).trans hf2
  clear hb1 hb2 hf2
  repeat refine S.seq ?_
  refine S.region ?_
  simp (disch := first | omega | (simp only [add_nx, upd_nx] <;> omega) | decide) only [rUz, ↓reduceIte, Nat.reduceEqDiff, Nat.reduceAdd]
  repeat refine S.seq ?_
  refine S.block ?_
  refine S.loop (ι := Nat) (IBc st L v h B1 B2 B3) (fun k => L.length - k) ?_ 0 _ _ ?_
  rotate_left
  · refine ⟨Fr.refl, ⟨[], nl, 0, .inl ⟨rfl, rfl⟩, rfl, (fun x hx => by cases hx), hb3, by omega⟩, ?_, ?_, ?_, ?_, Nat.zero_le _⟩
    all_goals (first | rfl | (simp (disch := first | omega | (simp only [add_nx, upd_nx] <;> omega) | decide) only [rUz, ↓reduceIte, Nat.reduceEqDiff, Nat.reduceAdd, t1, t2, t3]; done) | (simp (disch := first | omega | (simp only [add_nx, upd_nx] <;> omega) | decide) only [rUz, ↓reduceIte, Nat.reduceEqDiff, Nat.reduceAdd, t1, t2, t3]; rfl))
  clear hb3 t1 t2 t3
  clear t
  intro k t h2 ⟨fr2, ⟨L2, vl, F2, appl, hL2, hIl, hb3, hFl2⟩, t1, t2, t3, t7, hk⟩ K' hn he
  have hnx2 := fr2.le
  have kph2 : Kp h0 h2 := Fr.toKp kph fr2 ho3
  have hb1h2 : h2.bl.get B1 = some (.cells (bkV st dv lv) B1 false) := (fr2.get (by omega) (by omega)).trans hb1h
  have hf3h2 : h2.fams.get B3 = some [B3] := (fr2.fam B3 (by omega)).trans hf3h
  repeat refine S.seq ?_
  refine S.region ?_
  simp (disch := first | omega | (simp only [add_nx, upd_nx] <;> omega) | decide) only [rUz, ↓reduceIte, Nat.reduceEqDiff, Nat.reduceAdd, t1, t7, fieldAddr_ptr fA2 lrL, qrL, hb1h2, bk2, lL]
  repeat refine S.seq ?_
  refine S.cond (v := decide ((k : Int) < (L.length : Int))) (by first | rfl | (simp (disch := first | omega | (simp only [add_nx, upd_nx] <;> omega) | decide) only [rUz, ↓reduceIte, Nat.reduceEqDiff, Nat.reduceAdd] <;> rfl)) (fun e => ?_) (fun e => ?_)
  · have hkn : k < L.length := by have := of_decide_eq_true e; omega
    clear e
    have hps : L[k]? = some L[k] := List.getElem?_eq_getElem hkn
    have hxm : L[k] ∈ L := List.getElem_mem hkn
    have htk : (L.take (k + 1)).map (fun x => x.2) = (L.take k).map (fun x => x.2) ++ [L[k].2] := by rw [List.take_add_one, hps, Option.toList_some, List.map_append]; rfl
    have hx7k := hx7 _ hxm
    generalize L[k] = x at hps hxm htk hx7k
    have hL2l : L2.length = k := by
      have := congrArg List.length hL2
      rw [List.length_map, List.length_map, List.length_take] at this
      omega
    obtain ⟨b2, f2, o2, ce2, v1, v2, v3, v4, v5, v6⟩ := row_idx (hb.mono kph2).ln slrL srL hps
    have qp := part_at prL v4 v5
    repeat refine S.seq ?_
    refine S.skip ?_
    simp (disch := first | omega | (simp only [add_nx, upd_nx] <;> omega) | decide) only [rUz, ↓reduceIte, Nat.reduceEqDiff, Nat.reduceAdd]
    repeat refine S.seq ?_
    refine S.block ?_
    repeat refine S.seq ?_
    refine S.region ?_
    simp (disch := first | omega | (simp only [add_nx, upd_nx] <;> omega) | decide) only [rUz, ↓reduceIte, Nat.reduceEqDiff, Nat.reduceAdd, t1, t7, fieldAddr_ptr fA2 lrL, qrL, hb1h2, bk2, v1, v3, qp, wr_alloc zrL]
    refine wr_storeN (B := h2.nx) (c := [iv 0, iv 0, nl]) (fam := h2.nx) (k := h2.nx) (l := cL x) (by simp (disch := first | omega | (simp only [add_nx, upd_nx] <;> omega) | decide) only [rUz, ↓reduceIte, Nat.reduceEqDiff, Nat.reduceAdd]) (by simp (disch := first | omega | (simp only [add_nx, upd_nx] <;> omega) | decide) only [rUz, ↓reduceIte, Nat.reduceEqDiff, Nat.reduceAdd]) srL (by omega) rfl (ag_eq rfl) (af_eq rfl) rfl ?_
    have hk4 : Kp h2 ((h2.add [iv 0, iv 0, nl]).upd h2.nx (cL x) h2.nx) := Kp.refl.add.upd (Nat.le_refl _)
    have hg4 : ((h2.add [iv 0, iv 0, nl]).upd h2.nx (cL x) h2.nx).bl.get h2.nx = some (.cells (cL x) h2.nx false) := upd_eq _ _ _
    have hn8 : h2.nx < ((h2.add [iv 0, iv 0, nl]).upd h2.nx (cL x) h2.nx).nx := Nat.lt_succ_self _
    simp (disch := first | omega | (simp only [add_nx, upd_nx] <;> omega) | decide) only [rUz, ↓reduceIte, Nat.reduceEqDiff, Nat.reduceAdd]
    generalize (h2.add [iv 0, iv 0, nl]).upd h2.nx (cL x) h2.nx = h4 at hk4 hg4 hn8 ⊢
    obtain ⟨B8, hB8⟩ : ∃ z, z = h2.nx := ⟨_, rfl⟩
    rw [← hB8] at hg4 hn8 ⊢
    have hb34 : h4.bl.get B3 = some (.cells (bkV st v vl) B3 false) := (hk4.get (by omega)).trans hb3
    have hf34 : h4.fams.get B3 = some [B3] := (hk4.fget (by omega)).trans hf3h2
    have hxs := (hs x hxm).mono (kph2.trans hk4)
    have h4n := hk4.1
    clear v1 v2 v3 v4 v5 v6 qp hb3
    repeat refine S.seq ?_
    refine S.drawnL [(false, 0), (false, 1), (false, 0), (false, 4), (false, 0), (false, 16), (false, 0), (false, 64), (true, 192), (false, 508), (true, 1020), (true, 2047), (false, 4095), (true, 8191)] (by kernel_rfl) (by kernel_rfl) (by kernel_rfl) ?_
    simp (disch := first | omega | (simp only [add_nx, upd_nx] <;> omega) | decide) only [rUz, ↓reduceIte, Nat.reduceEqDiff, Nat.reduceAdd, rDz, infoL, Nat.reduceSub, t3, fieldAddr_ptr fB2 lcL, fieldAddr_ptr frL0 s3, fieldAddr_ptr frL1 s3, fieldAddr_ptr frL2 lI, p3, qI, qcL, hb34, hg4, bk2, cL0, cL1, cL2]
    refine drW_brings (fid := 11) (first := #[]) (captured := #[]) (Post := fun u h' => LNew h4.nx h' u x.2.2.2) rfl (hoff _ _ _ rfl) (by simp (disch := first | omega | (simp only [add_nx, upd_nx] <;> omega) | decide) only [rUz, ↓reduceIte, Nat.reduceEqDiff, Nat.reduceAdd]; exact listF_y S h4 x.1 x.2.2.2 hxs (by omega)) (Nat.le_of_ble_eq_true rfl) ?_
    rintro u g hkg hu
    obtain ⟨bu, rfl, hbr⟩ := id hu
    clear hbr
    have hgn := hkg.1
    have hb3g := (hkg.get (by omega : B3 < h4.nx)).trans hb34
    have hf3g := (hkg.fget (by omega : B3 < h4.nx)).trans hf34
    have hg4g := (hkg.get (by omega : B8 < h4.nx)).trans hg4
    refine ⟨?_, ?_⟩
    · try simp (disch := first | decide | rfl) only [again_nil, again_skip, again_free]
      rw [again_same (v := iv x.2.2.1) (by simp (disch := first | omega | (simp only [add_nx, upd_nx] <;> omega) | decide) only [rUz, ↓reduceIte, Nat.reduceEqDiff, Nat.reduceAdd, rDz, infoL, Nat.reduceSub, hg4g, fieldAddr_ptr frL1 s3, p3, cL1]) (by first | assumption | exact veq_int | rfl)]
      try simp (disch := first | decide | rfl) only [again_nil, again_skip, again_free]
      rw [again_same (v := iv x.2.1) (by simp (disch := first | omega | (simp only [add_nx, upd_nx] <;> omega) | decide) only [rUz, ↓reduceIte, Nat.reduceEqDiff, Nat.reduceAdd, rDz, infoL, Nat.reduceSub, hg4g, fieldAddr_ptr frL0 s3, p3, cL0]) (by first | assumption | exact veq_int | rfl)]
      try simp (disch := first | decide | rfl) only [again_nil, again_skip, again_free]
      rw [again_same (v := vl) (by simp (disch := first | omega | (simp only [add_nx, upd_nx] <;> omega) | decide) only [rUz, ↓reduceIte, Nat.reduceEqDiff, Nat.reduceAdd, rDz, infoL, Nat.reduceSub, t3, hb3g, fieldAddr_ptr fB2 lcL, qcL, bk2]) appl.veq]
      try simp (disch := first | decide | rfl) only [again_nil, again_skip, again_free]
    obtain ⟨vd, hvd⟩ : ∃ z : PL, z = ((.slice (some ⟨bu, 0, none⟩) x.2.2.2.length x.2.2.2.length : Value), x.2) := ⟨_, rfl⟩
    have hcd : cL vd = [iv x.2.1, iv x.2.2.1, .slice (some ⟨bu, 0, none⟩) x.2.2.2.length x.2.2.2.length] := by rw [hvd]; rfl
    have hvd2 : vd.2 = x.2 := by rw [hvd]
    have huF : IsF h.nx g vd.1 vd.2.2.2 F2 := by rw [hvd]; exact hu.isF (by omega) (by omega)
    simp (disch := first | omega | (simp only [add_nx, upd_nx] <;> omega) | decide) only [rUz, ↓reduceIte, Nat.reduceEqDiff, Nat.reduceAdd, rDz, infoL, Nat.reduceSub, rd_build, List.map_cons, List.map_nil, bcL]
    rw [← hcd]
    refine drW_give (aw_lit1 slcL scL zcL rfl (by omega) (u := .agg ⟨cL vd⟩) (l := cL vd) (by simp (disch := first | omega | (simp only [add_nx, upd_nx] <;> omega) | decide) only [rUz, ↓reduceIte, Nat.reduceEqDiff, Nat.reduceAdd, rDz, infoL, Nat.reduceSub]) (by rw [hcd]; rfl) (by rw [hcd]; rfl)) (Nat.le_of_ble_eq_true rfl) ?_ ?_
    · try simp (disch := first | decide | rfl) only [again_nil, again_skip, again_free]
      rw [again_same (v := vl) (by simp (disch := first | omega | (simp only [add_nx, upd_nx] <;> omega) | decide) only [rUz, ↓reduceIte, Nat.reduceEqDiff, Nat.reduceAdd, rDz, infoL, Nat.reduceSub, t3, ag_ne, hb3g, fieldAddr_ptr fB2 lcL, qcL, bk2]) appl.veq]
      try simp (disch := first | decide | rfl) only [again_nil, again_skip, again_free]
    simp (disch := first | omega | (simp only [add_nx, upd_nx] <;> omega) | decide) only [rUz, ↓reduceIte, Nat.reduceEqDiff, Nat.reduceAdd, rDz, infoL, Nat.reduceSub]
    refine drW_app slcL ucL (v := vl) (bx := g.nx) (cx := 1) (by simp (disch := first | omega | (simp only [add_nx, upd_nx] <;> omega) | decide) only [rUz, ↓reduceIte, Nat.reduceEqDiff, Nat.reduceAdd, rDz, infoL, Nat.reduceSub]) (by simp (disch := first | omega | (simp only [add_nx, upd_nx] <;> omega) | decide) only [rUz, ↓reduceIte, Nat.reduceEqDiff, Nat.reduceAdd, rDz, infoL, Nat.reduceSub]) (((appl.mono hk4).mono hkg).mono Kp.refl.add) (by show h.nx ≤ g.nx + 1; omega) scL (cL_len vd) (by omega) (ag_eq rfl) ncL (by rw [List.length_map]; show _ < 1000000; omega) (Nat.le_of_ble_eq_true rfl) ?_
    intro v7 h3 F3 gr
    obtain ⟨bv, n7, c7, rfl, hbv⟩ := gr.blk
    have hsm := gr.sm
    have hn3h : B3 < h.nx := by omega
    have hb33 : h3.bl.get B3 = some (.cells (bkV st v vl) B3 false) := by rw [(hsm.2 B3 hn3h).1, ag_ne (by omega)]; exact hb3g
    have hf33 : h3.fams.get B3 = some [B3] := by rw [(hsm.2 B3 hn3h).2, af_ne (by omega)]; exact hf3g
    have fr3 : Fr h B3 h3 := ((fr2.kp (hk4.trans hkg)).kp Kp.refl.add).sm hsm (Nat.le_refl _)
    have happ := gr.app
    have hI3 : ∀ y, y ∈ L2 ++ [vd] → IsF h.nx h3 y.1 y.2.2.2 F3 := fun y hy => by
      rcases List.mem_append.1 hy with hy | hy
      · exact (((hIl y hy).mono (hk4.trans hkg)).mono Kp.refl.add).grown gr
      · obtain rfl := List.mem_singleton.1 hy
        exact (huF.mono Kp.refl.add).grown gr
    have hF3 : F3 < h3.nx := happ.fam_lt (by simp)
    refine ⟨?_, ?_⟩
    · try simp (disch := first | decide | rfl) only [again_nil, again_skip, again_free]
    simp (disch := first | omega | (simp only [add_nx, upd_nx] <;> omega) | decide) only [rUz, ↓reduceIte, Nat.reduceEqDiff, Nat.reduceAdd, rDz, infoL, Nat.reduceSub, t3, fieldAddr_ptr fB2 lcL]
    refine drW_giveN (aw_store1 (B := B3) (off := 2) (v := .slice (some ⟨bv, 0, none⟩) n7 c7) (by simp (disch := first | omega | (simp only [add_nx, upd_nx] <;> omega) | decide) only [rUz, ↓reduceIte, Nat.reduceEqDiff, Nat.reduceAdd, rDz, infoL, Nat.reduceSub]) (by simp (disch := first | omega | (simp only [add_nx, upd_nx] <;> omega) | decide) only [rUz, ↓reduceIte, Nat.reduceEqDiff, Nat.reduceAdd, rDz, infoL, Nat.reduceSub]) lcL' rfl rfl hb33 hf33 (by show 2 < 3; omega)) ?_ ?_
    · try simp (disch := first | decide | rfl) only [again_nil, again_skip, again_free]
    simp (disch := first | omega | (simp only [add_nx, upd_nx] <;> omega) | decide) only [rUz, ↓reduceIte, Nat.reduceEqDiff, Nat.reduceAdd, rDz, infoL, Nat.reduceSub]
    repeat refine S.seq ?_
    refine S.region ?_
    simp (disch := first | omega | (simp only [add_nx, upd_nx] <;> omega) | decide) only [rUz, ↓reduceIte, Nat.reduceEqDiff, Nat.reduceAdd, t7]
    refine hn (k + 1) _ _ (by omega) ⟨fr3.upd, ⟨L2 ++ [vd], _, F3, ?_, ?_, fun y hy => (hI3 y hy).upd hn3h, upd_eq _ _ _, hF3⟩, ?_, ?_, ?_, ?_, by omega⟩
    · rw [List.map_append]
      exact happ.upd hn3h
    · rw [List.map_append, hL2, htk, ← hvd2]; rfl
    all_goals (first | rfl | (simp (disch := first | omega | (simp only [add_nx, upd_nx] <;> omega) | decide) only [rUz, ↓reduceIte, Nat.reduceEqDiff, Nat.reduceAdd, t1, t2, t3]; done) | (simp (disch := first | omega | (simp only [add_nx, upd_nx] <;> omega) | decide) only [rUz, ↓reduceIte, Nat.reduceEqDiff, Nat.reduceAdd, t1, t2, t3]; rfl))
  have hkn : k = L.length := by have := of_decide_eq_false e; omega
  subst hkn
  rw [List.take_of_length_le (Nat.le_refl _)] at hL2
  have hb2h2 : h2.bl.get B2 = some (.cells [iv 0, nl, nl] B2 false) := (fr2.get (by omega) (by omega)).trans hb2h
  have hf2h2 : h2.fams.get B2 = some [B2] := (fr2.fam B2 (by omega)).trans hf2h
  refine S.exit (he _ _ _ _ (fun e => by cases e) ?_)
  simp (disch := first | omega | (simp only [add_nx, upd_nx] <;> omega) | decide) only [rUz, ↓reduceIte, Nat.reduceEqDiff, Nat.reduceAdd]
  repeat refine S.seq ?_
  refine S.region ?_
  simp (disch := first | omega | (simp only [add_nx, upd_nx] <;> omega) | decide) only [rUz, ↓reduceIte, Nat.reduceEqDiff, Nat.reduceAdd, t2, t3, hb3, part_0 pB (bkV_len st v vl)]
  refine wr_storeN (B := B2) (c := [iv 0, nl, nl]) (fam := B2) (k := B2) (l := bkV st v vl) (by simp (disch := first | omega | (simp only [add_nx, upd_nx] <;> omega) | decide) only [rUz, ↓reduceIte, Nat.reduceEqDiff, Nat.reduceAdd, t2]) (by simp (disch := first | omega | (simp only [add_nx, upd_nx] <;> omega) | decide) only [rUz, ↓reduceIte, Nat.reduceEqDiff, Nat.reduceAdd]) sB (by omega) rfl hb2h2 hf2h2 rfl ?_
  simp (disch := first | omega | (simp only [add_nx, upd_nx] <;> omega) | decide) only [rUz, ↓reduceIte, Nat.reduceEqDiff, Nat.reduceAdd]
  refine S.ret ?_
  try simp only [seqK_ret, blockK_ret]
  subst hF
  simp only [finish, endMarks]
  rw [show Try.f26.results.toList = [.cell 2 42] from rfl]
  simp (disch := first | omega | (simp only [add_nx, upd_nx] <;> omega) | decide) only [resA, ev_tmp, tget_ne, tget_eq, get_ne, get_eq, upd_eq, upd_ne, ag_eq, ag_ne, result1, t2, part_0 pB (bkV_len st v vl)]
  refine hK _ _ (kph2.upd ho2) ⟨v, vl, D2, L2, rfl, ⟨?_, fun x hx => ?_, (appl.upd (by omega)).at, fun x hx => ((hIl x hx).upd (by omega)).at⟩, hD2, hL2⟩
  · exact ((app.fr fr2 hn3).upd (by omega)).at
  · exact ((slF_fr (hI x hx) fr2 hn3).upd (by omega)).at
end Go.Proofs.Mg
