import Derived.Test.YtfbkgnojdngiiaaMhJ
/- A truth of a valid bank, by words. -/
namespace Go.Proofs.Mg
open Go Go.Ev Go.RowKit
set_option linter.unusedSimpArgs false
variable {pr : Prim} {R : ExT}
/-- A list of numbers from lo on, of another family than both. -/
def SlF2 (lo : Nat) (h : AHeap) (y : PT) (F1 F2 : Nat) : Prop := SlF lo h 1 y.1 (i1 y.2) F1 ∧ SlF lo h 1 y.1 (i1 y.2) F2
section
variable {lo F1 F2 F1' : Nat} {h h' : AHeap} {y : PT}
theorem SlF2.mono (k : SlF2 lo h y F1 F2) (a : Kp h h') : SlF2 lo h' y F1 F2 := ⟨k.1.mono a, k.2.mono a⟩
theorem SlF2.upd {B f : Nat} {d : List Value} (k : SlF2 lo h y F1 F2) (hB : B < lo) : SlF2 lo (h.upd B d f) y F1 F2 := ⟨k.1.upd hB, k.2.upd hB⟩
theorem SlF2.symm (k : SlF2 lo h y F1 F2) : SlF2 lo h y F2 F1 := ⟨k.2, k.1⟩
theorem SlF2.grown {lo2 sz : Nat} {v' : Value} {cs : List (List Value)} {c : List Value} (k : SlF2 lo h y F1 F2) (g : Grown lo2 h h' sz v' cs c F1 F1') : SlF2 lo h' y F1' F2 := by
  refine ⟨slF_grown k.1 g, ?_⟩
  have hle := g.left.le
  obtain ⟨k1, k2⟩ := k
  rcases k2 with k2 | ⟨b, cap, f, ro, a1, a2, a3, a4, a5, a6, a7, a8⟩
  · exact .inl k2
  rcases k1 with k1 | ⟨b', cap', f', ro', b1, b2, b3, b4, b5, b6, b7, b8⟩
  · exact absurd k1.1 a1
  rw [a2] at b2
  obtain rfl : b = b' := by cases b2; rfl
  rw [a5] at b5
  obtain rfl : f = f' := by cases b5; rfl
  exact .inr ⟨b, cap, f, ro, a1, a2, a3, by omega, g.left.bl b _ f ro a4 a5 (fun _ => b7), a6, a7, by omega⟩
theorem two_upd {xs ys : List (List Value)} {xv yv : Value} {B f : Nat} {d : List Value} (k : Two1 lo h xs ys xv yv F1 F2) (hB : B < lo) : Two1 lo (h.upd B d f) xs ys xv yv F1 F2 :=
  ⟨k.x.upd hB, k.y.upd hB, k.fx, k.fy, k.ne⟩
end
theorem rate_part {cells : List Value} {a : Nat} {x : PD} (h4 : (cells.drop a).take 3 = cD x) (h5 : Nat.ble (Nat.add a 3) cells.length = true) : partL Try.prog 81 cells (a + 1) = some (.agg ⟨c2 x.2.2⟩) := by
  refine part_at prR ?_ ?_
  · have e : (cells.drop (a + 1)).take 2 = ((cells.drop a).take 3).drop 1 := by rw [List.drop_take, List.drop_drop]
    rw [e, h4]; rfl
  · have := Nat.le_of_ble_eq_true h5
    exact Nat.ble_eq_true_of_le (by show a + 1 + 2 ≤ _; have h : a + 3 ≤ cells.length := this; omega)
/-- What Picked returns. -/
def PickedP (st : Int) (D : List PD) (u : Value) (h : AHeap) : Prop := ∃ (pv rv : Value) (Ts : List PT) (rt : List Int), u = .agg ⟨tuV pv rv⟩ ∧ TuAt h pv rv Ts rt ∧ IS h rv rt ∧ (∀ x, x ∈ Ts → IS h x.1 x.2) ∧ truthB st D Ts rt = true
structure TPk (wv : Value) (B2 B4 B5 : Nat) (k : Nat) (t : T Value) : Prop where
  t1 : tget t 1 = wv
  t2 : tget t 2 = ptr0 B2
  t4 : tget t 4 = ptr0 B4
  t5 : tget t 5 = ptr0 B5
  t6 : tget t 6 = iv (k : Int)
structure IPk (st : Int) (D : List PD) (wv : Value) (H : AHeap) (B2 B4 B5 : Nat) (k : Nat) (t : T Value) (h : AHeap) : Prop where
  fr : Fr H B5 h
  ex : ∃ (T2 : List PT) (rt2 : List Int) (pv rv : Value) (F1 F2 : Nat), Two1 H.nx h (T2.map cT) (i1 rt2) pv rv F1 F2 ∧ (∀ y, y ∈ T2 → SlF2 H.nx h y F1 F2) ∧ h.bl.get B5 = some (.cells (tuV pv rv) B5 false) ∧ F1 < h.nx ∧ F2 < h.nx ∧ T2.length = k ∧ rt2.length = k ∧ (List.zip (D.take k) (List.zip T2 rt2)).all (okT st) = true
  tp : TPk wv B2 B4 B5 k t
  hk : k ≤ D.length
structure IPi (x : PD) (wv : Value) (G : AHeap) (B2 B4 B5 : Nat) (k j : Nat) (t : T Value) (h : AHeap) : Prop where
  kp : Kp G h
  ex : ∃ (ps : List Int) (vp : Value) (Fp : Nat), App G.nx h 1 vp (i1 ps) Fp ∧ tget t 7 = vp ∧ ps.length = j ∧ pricesB (x.2.1.take j) ps = true
  tp : TPk wv B2 B4 B5 k t
  t8 : tget t 8 = iv (j : Int)
  hj : j ≤ x.2.1.length
set_option maxRecDepth 100000 in
set_option maxHeartbeats 32000000 in
theorem picked_y (S : Ev.Steps Try.prog pr R) (hoff : Off pr) (h0 : AHeap) (st : Int) (dv lv : Value) (D : List PD) (L : List PL) (hb : BkAt h0 dv lv D L) (hv : Val st D L) (wv : Value) (ws : List Int) (hw : WdAt h0 wv ws) (hwl : (ws.length : Int) < 9223372036854775808) :
    Brings Try.prog R 32 [.agg ⟨bkV st dv lv⟩, wv] h0 fun u h => PickedP st D u h := by
  refine brings_of (fn := Try.f32) (c := (Try.f32.body).getD .skip) (by kernel_rfl) rfl (by kernel_rfl) rfl (fun K hK => ?_)
  generalize hF : finish Try.prog Try.f32 K = KF
  simp only [Try.f32, Option.getD_some, argsT, setArgs, fV1_eq, T.setK_eq, id]
  have lD := fun t h1 o => row_len hb.dy isrD t h1 o
  have hd4 := hv.d4
  repeat refine S.seq ?_
  refine S.region ?_
  simp (disch := first | omega | (simp only [add_nx, upd_nx] <;> omega) | decide) only [rUz, ↓reduceIte, Nat.reduceEqDiff, Nat.reduceAdd, wr_alloc zrU]
  repeat refine S.seq ?_
  refine S.region ?_
  simp (disch := first | omega | (simp only [add_nx, upd_nx] <;> omega) | decide) only [rUz, ↓reduceIte, Nat.reduceEqDiff, Nat.reduceAdd, wr_alloc zrU]
  obtain ⟨B2, hB2⟩ : ∃ x, x = h0.nx := ⟨_, rfl⟩
  obtain ⟨B4, hB4⟩ : ∃ x, x = h0.nx + 1 := ⟨_, rfl⟩
  obtain ⟨B5, hB5⟩ : ∃ x, x = h0.nx + 1 + 1 := ⟨_, rfl⟩
  have hb2 : (((h0.add (bkV st dv lv)).add [nl, nl]).add [nl, nl]).bl.get B2 = some (.cells (bkV st dv lv) B2 false) := by
    rw [ag_ne (by show B2 ≠ h0.nx + 1 + 1; omega), ag_ne (by show B2 ≠ h0.nx + 1; omega)]; subst hB2; exact ag_eq rfl
  have hb4 : (((h0.add (bkV st dv lv)).add [nl, nl]).add [nl, nl]).bl.get B4 = some (.cells [nl, nl] B4 false) := by rw [ag_ne (by show B4 ≠ h0.nx + 1 + 1; omega)]; subst hB4; exact ag_eq rfl
  have hf4 : (((h0.add (bkV st dv lv)).add [nl, nl]).add [nl, nl]).fams.get B4 = some [B4] := by rw [af_ne (by show B4 ≠ h0.nx + 1 + 1; omega)]; subst hB4; exact af_eq rfl
  have hb5 : (((h0.add (bkV st dv lv)).add [nl, nl]).add [nl, nl]).bl.get B5 = some (.cells [nl, nl] B5 false) := by subst hB5; exact ag_eq rfl
  have hf5 : (((h0.add (bkV st dv lv)).add [nl, nl]).add [nl, nl]).fams.get B5 = some [B5] := by subst hB5; exact af_eq rfl
  have hk1 : Kp h0 (((h0.add (bkV st dv lv)).add [nl, nl]).add [nl, nl]) := Kp.refl.add.add.add
  have hn5 : B5 < (((h0.add (bkV st dv lv)).add [nl, nl]).add [nl, nl]).nx := by show B5 < h0.nx + 3; omega
  have ho4 : h0.nx ≤ B4 := by omega
  have ho5 : h0.nx ≤ B5 := by omega
  have h45 : B4 < B5 := by omega
  have h25 : B2 < B5 := by omega
  rw [← hB5, ← hB4, ← hB2]
  clear hB2 hB4 hB5
  generalize (((h0.add (bkV st dv lv)).add [nl, nl]).add [nl, nl]) = H at hb2 hb4 hf4 hb5 hf5 hk1 hn5 ⊢
  repeat refine S.seq ?_
  refine S.region ?_
  simp (disch := first | omega | (simp only [add_nx, upd_nx] <;> omega) | decide) only [rUz, ↓reduceIte, Nat.reduceEqDiff, Nat.reduceAdd]
  repeat refine S.seq ?_
  refine S.block ?_
  refine S.loop (ι := Nat) (IPk st D wv H B2 B4 B5) (fun k => D.length - k) ?_ 0 _ _ ?_
  rotate_left
  · refine ⟨Fr.refl, ⟨[], [], nl, nl, 0, 0, (Tri.start (lo := H.nx) (h := H)).xy, (fun y hy => by cases hy), hb5, by omega, by omega, rfl, rfl, rfl⟩, ⟨?_, ?_, ?_, ?_, ?_⟩, Nat.zero_le _⟩
    all_goals (first | rfl | (simp (disch := first | omega | (simp only [add_nx, upd_nx] <;> omega) | decide) only [rUz, ↓reduceIte, Nat.reduceEqDiff, Nat.reduceAdd]; done) | (simp (disch := first | omega | (simp only [add_nx, upd_nx] <;> omega) | decide) only [rUz, ↓reduceIte, Nat.reduceEqDiff, Nat.reduceAdd]; rfl))
  clear hb5
  intro k t h ⟨fr, ⟨T2, rt2, pv, rv, F1, F2, two, hI, hb5, hF1, hF2, hTl, hRl, hok⟩, ⟨t1, t2, t4, t5, t6⟩, hk⟩ K' hn he
  have hnx := fr.le
  have kph : Kp h0 h := Fr.toKp hk1 fr ho5
  have hb2h : h.bl.get B2 = some (.cells (bkV st dv lv) B2 false) := (fr.get (by omega) (by omega)).trans hb2
  have hf5h : h.fams.get B5 = some [B5] := (fr.fam B5 hn5).trans hf5
  repeat refine S.seq ?_
  refine S.region ?_
  simp (disch := first | omega | (simp only [add_nx, upd_nx] <;> omega) | decide) only [rUz, ↓reduceIte, Nat.reduceEqDiff, Nat.reduceAdd, t2, t6, fieldAddr_ptr fA1 lrD, qrD, hb2h, bk1, lD]
  repeat refine S.seq ?_
  refine S.cond (v := decide ((k : Int) < (D.length : Int))) (by first | rfl | (simp (disch := first | omega | (simp only [add_nx, upd_nx] <;> omega) | decide) only [rUz, ↓reduceIte, Nat.reduceEqDiff, Nat.reduceAdd] <;> rfl)) (fun e => ?_) (fun e => ?_)
  · have hkn : k < D.length := by have := of_decide_eq_true e; omega
    clear e
    have hps : D[k]? = some D[k] := List.getElem?_eq_getElem hkn
    have hxm : D[k] ∈ D := List.getElem_mem hkn
    have htk : D.take (k + 1) = D.take k ++ [D[k]] := by rw [List.take_add_one, hps]; rfl
    generalize D[k] = x at hps hxm htk
    have hox := okD_iff.1 (hv.dy x hxm)
    have hxr := hb.pr x hxm
    have hst4 := hv.s4
    have hxl := hox.len
    obtain ⟨b2, f2, o2, ce2, v1, v2, v3, v4, v5, v6⟩ := row_idx (hb.mono kph).dy slrD srD hps
    have w0 := v6 0 _ (cD0 x)
    rw [Nat.add_zero] at w0
    have hpt := rate_part v4 v5
    have hwh := hw.mono kph
    repeat refine S.seq ?_
    refine S.skip ?_
    simp (disch := first | omega | (simp only [add_nx, upd_nx] <;> omega) | decide) only [rUz, ↓reduceIte, Nat.reduceEqDiff, Nat.reduceAdd]
    repeat refine S.seq ?_
    refine S.block ?_
    repeat refine S.seq ?_
    refine S.drawnL [(false, 0), (false, 1), (false, 0), (false, 4), (false, 0), (false, 28), (false, 60), (false, 124), (false, 0), (false, 0), (false, 512), (true, 1792), (true, 4092), (true, 8188), (true, 16383), (false, 32767), (true, 65535)] (by kernel_rfl) (by kernel_rfl) (by kernel_rfl) ?_
    simp (disch := first | omega | (simp only [add_nx, upd_nx] <;> omega) | decide) only [rUz, ↓reduceIte, Nat.reduceEqDiff, Nat.reduceAdd, rDz, infoL, Nat.reduceSub, t1, t2, t5, t6, fieldAddr_ptr frU1 lI, fieldAddr_ptr fA1 lrD, fieldAddr_ptr frD1 SrR, qI, qrD, hb2h, hb5, bk1, tu1, v1, v3, hpt]
    refine drW_brings (fid := 64) (first := #[]) (captured := #[]) (Post := fun u h' => (∃ n, u = iv n ∧ 0 ≤ n ∧ n ≤ 65535) ∧ h = h') rfl (hoff _ _ _ rfl) (by simp (disch := first | omega | (simp only [add_nx, upd_nx] <;> omega) | decide) only [rUz, ↓reduceIte, Nat.reduceEqDiff, Nat.reduceAdd]; exact word_y S h wv ws hwh hwl (5 * (k : Int)) (by omega)) (Nat.le_of_ble_eq_true rfl) ?_
    rintro u g - ⟨⟨n, rfl, hn0, hn1⟩, rfl⟩
    refine ⟨?_, ?_⟩
    · try simp (disch := first | decide | rfl) only [again_nil, again_skip, again_free]
      rw [again_same (v := .agg ⟨c2 x.2.2⟩) (by simp (disch := first | omega | (simp only [add_nx, upd_nx] <;> omega) | decide) only [rUz, ↓reduceIte, Nat.reduceEqDiff, Nat.reduceAdd, rDz, infoL, Nat.reduceSub, t2, v3, fieldAddr_ptr frD1 SrR, hpt]) (veq_c2 _)]
      try simp (disch := first | decide | rfl) only [again_nil, again_skip, again_free]
      rw [again_same (v := dv) (by simp (disch := first | omega | (simp only [add_nx, upd_nx] <;> omega) | decide) only [rUz, ↓reduceIte, Nat.reduceEqDiff, Nat.reduceAdd, rDz, infoL, Nat.reduceSub, t2, hb2h, fieldAddr_ptr fA1 lrD, qrD, bk1]) (row_veq hb.dy)]
      try simp (disch := first | decide | rfl) only [again_nil, again_skip, again_free]
      rw [again_same (v := rv) (by simp (disch := first | omega | (simp only [add_nx, upd_nx] <;> omega) | decide) only [rUz, ↓reduceIte, Nat.reduceEqDiff, Nat.reduceAdd, rDz, infoL, Nat.reduceSub, t5, hb5, fieldAddr_ptr frU1 lI, qI, tu1]) two.y.veq]
      try simp (disch := first | decide | rfl) only [again_nil, again_skip, again_free]
    simp (disch := first | omega | (simp only [add_nx, upd_nx] <;> omega) | decide) only [rUz, ↓reduceIte, Nat.reduceEqDiff, Nat.reduceAdd, rDz, infoL, Nat.reduceSub]
    refine drW_brings (fid := 63) (first := #[]) (captured := #[]) (Post := fun u _ => ∃ n, u = iv n ∧ x.2.2.1 ≤ n ∧ n ≤ x.2.2.2) rfl (hoff _ _ _ rfl) (by simp (disch := first | omega | (simp only [add_nx, upd_nx] <;> omega) | decide) only [rUz, ↓reduceIte, Nat.reduceEqDiff, Nat.reduceAdd]; exact pick_y S h x.2.2 n ⟨hox.r0, hox.r1, by have := hox.r2; omega⟩ ⟨hn0, hn1⟩) (Nat.le_of_ble_eq_true rfl) ?_
    rintro u g hkg ⟨m, rfl, hm0, hm1⟩
    have hb5g := (hkg.get (by omega : B5 < h.nx)).trans hb5
    have hf5g := (hkg.fget (by omega : B5 < h.nx)).trans hf5h
    have hgn := hkg.1
    refine ⟨?_, ?_⟩
    · try simp (disch := first | decide | rfl) only [again_nil, again_skip, again_free]
      rw [again_same (v := rv) (by simp (disch := first | omega | (simp only [add_nx, upd_nx] <;> omega) | decide) only [rUz, ↓reduceIte, Nat.reduceEqDiff, Nat.reduceAdd, rDz, infoL, Nat.reduceSub, t5, hb5g, fieldAddr_ptr frU1 lI, qI, tu1]) two.y.veq]
      try simp (disch := first | decide | rfl) only [again_nil, again_skip, again_free]
    simp (disch := first | omega | (simp only [add_nx, upd_nx] <;> omega) | decide) only [rUz, ↓reduceIte, Nat.reduceEqDiff, Nat.reduceAdd, rDz, infoL, Nat.reduceSub]
    refine drW_give (aw_lit1 slI s3' z3 rfl (by omega) (u := iv m) (l := [iv m]) (by simp (disch := first | omega | (simp only [add_nx, upd_nx] <;> omega) | decide) only [rUz, ↓reduceIte, Nat.reduceEqDiff, Nat.reduceAdd, rDz, infoL, Nat.reduceSub]) rfl rfl) (Nat.le_of_ble_eq_true rfl) ?_ ?_
    · try simp (disch := first | decide | rfl) only [again_nil, again_skip, again_free]
      rw [again_same (v := rv) (by simp (disch := first | omega | (simp only [add_nx, upd_nx] <;> omega) | decide) only [rUz, ↓reduceIte, Nat.reduceEqDiff, Nat.reduceAdd, rDz, infoL, Nat.reduceSub, t5, ag_ne, hb5g, fieldAddr_ptr frU1 lI, qI, tu1]) two.y.veq]
      try simp (disch := first | decide | rfl) only [again_nil, again_skip, again_free]
    simp (disch := first | omega | (simp only [add_nx, upd_nx] <;> omega) | decide) only [rUz, ↓reduceIte, Nat.reduceEqDiff, Nat.reduceAdd, rDz, infoL, Nat.reduceSub]
    have two1 := (two.mono hkg).mono (Kp.refl.add (c := [iv m]))
    refine drW_app slI uI (v := rv) (bx := g.nx) (cx := 1) (by simp (disch := first | omega | (simp only [add_nx, upd_nx] <;> omega) | decide) only [rUz, ↓reduceIte, Nat.reduceEqDiff, Nat.reduceAdd, rDz, infoL, Nat.reduceSub]) (by simp (disch := first | omega | (simp only [add_nx, upd_nx] <;> omega) | decide) only [rUz, ↓reduceIte, Nat.reduceEqDiff, Nat.reduceAdd, rDz, infoL, Nat.reduceSub]) two1.y (by show H.nx ≤ g.nx + 1; omega) s3' rfl (by omega) (ag_eq rfl) nI (by rw [List.length_map]; show _ < 1000000; omega) (Nat.le_of_ble_eq_true rfl) ?_
    intro v7 h3 F3 gr
    have two3 := (two1.symm.grow gr).symm
    obtain ⟨bv, n7, c7, rfl, hbv⟩ := gr.blk
    have hsm := gr.sm
    have h3n := hsm.1
    have h4n : (g.add [iv m]).nx = g.nx + 1 := rfl
    have hb53 : h3.bl.get B5 = some (.cells (tuV pv rv) B5 false) := by rw [(hsm.2 B5 hn5).1, ag_ne (by omega)]; exact hb5g
    have hf53 : h3.fams.get B5 = some [B5] := by rw [(hsm.2 B5 hn5).2, af_ne (by omega)]; exact hf5g
    have fr3 : Fr H B5 h3 := ((fr.kp hkg).kp Kp.refl.add).sm hsm (Nat.le_refl _)
    have hI3 : ∀ y, y ∈ T2 → SlF2 H.nx h3 y F1 F3 := fun y hy => ((((hI y hy).mono hkg).mono Kp.refl.add).symm.grown gr).symm
    have hF3 : F3 < h3.nx := gr.app.fam_lt (by simp)
    refine ⟨?_, ?_⟩
    · try simp (disch := first | decide | rfl) only [again_nil, again_skip, again_free]
    simp (disch := first | omega | (simp only [add_nx, upd_nx] <;> omega) | decide) only [rUz, ↓reduceIte, Nat.reduceEqDiff, Nat.reduceAdd, rDz, infoL, Nat.reduceSub, t5, fieldAddr_ptr frU1 lI]
    refine drW_giveN (aw_store1 (B := B5) (off := 1) (v := .slice (some ⟨bv, 0, none⟩) n7 c7) (by simp (disch := first | omega | (simp only [add_nx, upd_nx] <;> omega) | decide) only [rUz, ↓reduceIte, Nat.reduceEqDiff, Nat.reduceAdd, rDz, infoL, Nat.reduceSub]) (by simp (disch := first | omega | (simp only [add_nx, upd_nx] <;> omega) | decide) only [rUz, ↓reduceIte, Nat.reduceEqDiff, Nat.reduceAdd, rDz, infoL, Nat.reduceSub]) lI' rfl rfl hb53 hf53 (by show 1 < 2; omega)) ?_ ?_
    · try simp (disch := first | decide | rfl) only [again_nil, again_skip, again_free]
    simp (disch := first | omega | (simp only [add_nx, upd_nx] <;> omega) | decide) only [rUz, ↓reduceIte, Nat.reduceEqDiff, Nat.reduceAdd, rDz, infoL, Nat.reduceSub]
    obtain ⟨rv7, hrv7⟩ : ∃ z, z = (.slice (some ⟨bv, 0, none⟩) n7 c7 : Value) := ⟨_, rfl⟩
    rw [← hrv7] at two3
    have hG5 : (h3.upd B5 (tuV pv (.slice (some ⟨bv, 0, none⟩) n7 c7)) B5).bl.get B5 = some (.cells (tuV pv rv7) B5 false) := by rw [hrv7]; exact upd_eq _ _ _
    have hGf : (h3.upd B5 (tuV pv (.slice (some ⟨bv, 0, none⟩) n7 c7)) B5).fams.get B5 = some [B5] := by rw [upd_fams]; exact hf53
    have twoG := two_upd (d := tuV pv (.slice (some ⟨bv, 0, none⟩) n7 c7)) (f := B5) two3 hn5
    have hIG := fun y hy => (hI3 y hy).upd (d := tuV pv (.slice (some ⟨bv, 0, none⟩) n7 c7)) (f := B5) hn5
    have frG := fr3.upd (c := tuV pv (.slice (some ⟨bv, 0, none⟩) n7 c7)) (f := B5)
    have hGn : (h3.upd B5 (tuV pv (.slice (some ⟨bv, 0, none⟩) n7 c7)) B5).nx = h3.nx := rfl
    change R _ _ _ _ (h3.upd B5 (tuV pv (.slice (some ⟨bv, 0, none⟩) n7 c7)) B5) _ _ = true
    generalize h3.upd B5 (tuV pv (.slice (some ⟨bv, 0, none⟩) n7 c7)) B5 = G at hG5 hGf twoG hIG frG hGn ⊢
    rw [← hGn] at hF3 h3n
    have hF1G : F1 < G.nx := by omega
    clear two1 two3 gr hsm hb53 hf53 fr3 hI3 h4n hb5g hf5g hgn hGn hrv7 hbv two hI hb5 hb2h hf5h v1 v2 v3 v4 v5 v6 w0 hpt hwh hn0 hn1 hkg
    clear h3
    have kpG : Kp h0 G := Fr.toKp hk1 frG ho5
    have hHG := frG.le
    repeat refine S.seq ?_
    refine S.region ?_
    simp (disch := first | omega | (simp only [add_nx, upd_nx] <;> omega) | decide) only [rUz, ↓reduceIte, Nat.reduceEqDiff, Nat.reduceAdd]
    repeat refine S.seq ?_
    refine S.region ?_
    simp (disch := first | omega | (simp only [add_nx, upd_nx] <;> omega) | decide) only [rUz, ↓reduceIte, Nat.reduceEqDiff, Nat.reduceAdd]
    repeat refine S.seq ?_
    refine S.block ?_
    refine S.loop (ι := Nat) (IPi x wv G B2 B4 B5 k) (fun j => x.2.1.length - j) ?_ 0 _ _ ?_
    rotate_left
    · refine ⟨Kp.refl, ⟨[], nl, 0, .inl ⟨rfl, rfl⟩, ?_, rfl, rfl⟩, ⟨?_, ?_, ?_, ?_, ?_⟩, ?_, Nat.zero_le _⟩
      all_goals (first | rfl | (simp (disch := first | omega | (simp only [add_nx, upd_nx] <;> omega) | decide) only [rUz, ↓reduceIte, Nat.reduceEqDiff, Nat.reduceAdd, t1, t2, t4, t5, t6]; done) | (simp (disch := first | omega | (simp only [add_nx, upd_nx] <;> omega) | decide) only [rUz, ↓reduceIte, Nat.reduceEqDiff, Nat.reduceAdd, t1, t2, t4, t5, t6]; rfl))
    clear t1 t2 t4 t5 t6
    clear t
    intro j t h' ⟨kpj, ⟨ps, vp, Fp, appj, t7, hpl, hpr⟩, ⟨t1, t2, t4, t5, t6⟩, t8, hj⟩ K2 hn2 he2
    have hgj := kpj.1
    have kp0 := kpG.trans kpj
    have hb2j : h'.bl.get B2 = some (.cells (bkV st dv lv) B2 false) := (kpj.get (by omega)).trans ((frG.get (by omega) (by omega)).trans hb2)
    obtain ⟨b2, f2, o2, ce2, v1, v2, v3, v4, v5, v6⟩ := row_idx (hb.mono kp0).dy slrD srD hps
    have w0 := v6 0 _ (cD0 x)
    rw [Nat.add_zero] at w0
    rw [← hxl] at hb2j
    repeat refine S.seq ?_
    refine S.region ?_
    simp (disch := first | omega | (simp only [add_nx, upd_nx] <;> omega) | decide) only [rUz, ↓reduceIte, Nat.reduceEqDiff, Nat.reduceAdd, t2, t8, fieldAddr_ptr fA0 s3, p3, hb2j, bk0]
    repeat refine S.seq ?_
    refine S.cond (v := decide ((j : Int) < (x.2.1.length : Int))) (by first | rfl | (simp (disch := first | omega | (simp only [add_nx, upd_nx] <;> omega) | decide) only [rUz, ↓reduceIte, Nat.reduceEqDiff, Nat.reduceAdd] <;> rfl)) (fun e => ?_) (fun e => ?_)
    · have hjn : j < x.2.1.length := by have := of_decide_eq_true e; omega
      clear e
      have hpj : x.2.1[j]? = some x.2.1[j] := List.getElem?_eq_getElem hjn
      have hpm : x.2.1[j] ∈ x.2.1 := List.getElem_mem hjn
      have htj : x.2.1.take (j + 1) = x.2.1.take j ++ [x.2.1[j]] := by rw [List.take_add_one, hpj]; rfl
      generalize x.2.1[j] = r at hpj hpm htj
      have hor := hox.pr r hpm
      have hxs := SlAt.mono hxr kp0
      obtain ⟨b3, f3, o3, ce3, u1, u2, u3, u4, u5, u6⟩ := row_idx hxs slrR srR hpj
      have hpt := part_at prR u4 u5
      repeat refine S.seq ?_
      refine S.skip ?_
      simp (disch := first | omega | (simp only [add_nx, upd_nx] <;> omega) | decide) only [rUz, ↓reduceIte, Nat.reduceEqDiff, Nat.reduceAdd]
      repeat refine S.seq ?_
      refine S.block ?_
      repeat refine S.seq ?_
      refine S.drawnL [(false, 0), (false, 0), (false, 2), (false, 0), (false, 14), (false, 30), (false, 62), (false, 0), (false, 254), (false, 510), (false, 0), (false, 0), (false, 2048), (false, 0), (false, 14336), (false, 30720), (true, 64512), (true, 131070), (true, 262142), (true, 524287), (false, 1048575)] (by kernel_rfl) (by kernel_rfl) (by kernel_rfl) ?_
      simp (disch := first | omega | (simp only [add_nx, upd_nx] <;> omega) | decide) only [rUz, ↓reduceIte, Nat.reduceEqDiff, Nat.reduceAdd, rDz, infoL, Nat.reduceSub, t1, t2, t6, t7, t8, fieldAddr_ptr fA1 lrD, fieldAddr_ptr frD0 lrR, qrD, qrR, hb2j, bk1, v1, v3, w0, u1, u3, hpt]
      refine drW_brings (fid := 64) (first := #[]) (captured := #[]) (Post := fun u g => (∃ n, u = iv n ∧ 0 ≤ n ∧ n ≤ 65535) ∧ h' = g) rfl (hoff _ _ _ rfl) (by simp (disch := first | omega | (simp only [add_nx, upd_nx] <;> omega) | decide) only [rUz, ↓reduceIte, Nat.reduceEqDiff, Nat.reduceAdd]; exact word_y S h' wv ws (hw.mono kp0) hwl (5 * (k : Int) + (j : Int) + 1) (by omega)) (Nat.le_of_ble_eq_true rfl) ?_
      rintro u g - ⟨⟨n, rfl, hn0, hn1⟩, rfl⟩
      refine ⟨?_, ?_⟩
      · try simp (disch := first | decide | rfl) only [again_nil, again_skip, again_free]
        rw [again_same (v := .agg ⟨c2 r⟩) (by simp (disch := first | omega | (simp only [add_nx, upd_nx] <;> omega) | decide) only [rUz, ↓reduceIte, Nat.reduceEqDiff, Nat.reduceAdd, rDz, infoL, Nat.reduceSub, u3, hpt]) (veq_c2 _)]
        try simp (disch := first | decide | rfl) only [again_nil, again_skip, again_free]
        rw [again_same (v := x.1) (by simp (disch := first | omega | (simp only [add_nx, upd_nx] <;> omega) | decide) only [rUz, ↓reduceIte, Nat.reduceEqDiff, Nat.reduceAdd, rDz, infoL, Nat.reduceSub, v3, fieldAddr_ptr frD0 lrR, qrR, w0]) (row_veq hxr)]
        try simp (disch := first | decide | rfl) only [again_nil, again_skip, again_free]
        rw [again_same (v := dv) (by simp (disch := first | omega | (simp only [add_nx, upd_nx] <;> omega) | decide) only [rUz, ↓reduceIte, Nat.reduceEqDiff, Nat.reduceAdd, rDz, infoL, Nat.reduceSub, t2, hb2j, fieldAddr_ptr fA1 lrD, qrD, bk1]) (row_veq hb.dy)]
        try simp (disch := first | decide | rfl) only [again_nil, again_skip, again_free]
      simp (disch := first | omega | (simp only [add_nx, upd_nx] <;> omega) | decide) only [rUz, ↓reduceIte, Nat.reduceEqDiff, Nat.reduceAdd, rDz, infoL, Nat.reduceSub]
      refine drW_brings (fid := 63) (first := #[]) (captured := #[]) (Post := fun u _ => ∃ n, u = iv n ∧ r.1 ≤ n ∧ n ≤ r.2) rfl (hoff _ _ _ rfl) (by simp (disch := first | omega | (simp only [add_nx, upd_nx] <;> omega) | decide) only [rUz, ↓reduceIte, Nat.reduceEqDiff, Nat.reduceAdd]; exact pick_y S h' r n hor ⟨hn0, hn1⟩) (Nat.le_of_ble_eq_true rfl) ?_
      rintro u g hkg ⟨p, rfl, hp0, hp1⟩
      have hgn := hkg.1
      refine ⟨?_, ?_⟩
      · try simp (disch := first | decide | rfl) only [again_nil, again_skip, again_free]
      simp (disch := first | omega | (simp only [add_nx, upd_nx] <;> omega) | decide) only [rUz, ↓reduceIte, Nat.reduceEqDiff, Nat.reduceAdd, rDz, infoL, Nat.reduceSub]
      refine drW_give (aw_lit1 slI s3' z3 rfl (by omega) (u := iv p) (l := [iv p]) (by simp (disch := first | omega | (simp only [add_nx, upd_nx] <;> omega) | decide) only [rUz, ↓reduceIte, Nat.reduceEqDiff, Nat.reduceAdd, rDz, infoL, Nat.reduceSub]) rfl rfl) (Nat.le_of_ble_eq_true rfl) ?_ ?_
      · try simp (disch := first | decide | rfl) only [again_nil, again_skip, again_free]
      simp (disch := first | omega | (simp only [add_nx, upd_nx] <;> omega) | decide) only [rUz, ↓reduceIte, Nat.reduceEqDiff, Nat.reduceAdd, rDz, infoL, Nat.reduceSub]
      refine drW_app slI uI (v := vp) (bx := g.nx) (cx := 1) (by simp (disch := first | omega | (simp only [add_nx, upd_nx] <;> omega) | decide) only [rUz, ↓reduceIte, Nat.reduceEqDiff, Nat.reduceAdd, rDz, infoL, Nat.reduceSub]) (by simp (disch := first | omega | (simp only [add_nx, upd_nx] <;> omega) | decide) only [rUz, ↓reduceIte, Nat.reduceEqDiff, Nat.reduceAdd, rDz, infoL, Nat.reduceSub]) ((appj.mono hkg).mono Kp.refl.add) (by show G.nx ≤ g.nx + 1; omega) s3' rfl (by omega) (ag_eq rfl) nI (by rw [List.length_map]; show _ < 1000000; omega) (Nat.le_of_ble_eq_true rfl) ?_
      intro v7 h3 F3' gr
      have hsm := gr.sm
      have kp3 : Kp G h3 := hsm.kp (Nat.le_refl _) (kpj.trans (hkg.trans Kp.refl.add))
      have happ := gr.app
      refine ⟨?_, ?_⟩
      · try simp (disch := first | decide | rfl) only [again_nil, again_skip, again_free]
      simp (disch := first | omega | (simp only [add_nx, upd_nx] <;> omega) | decide) only [rUz, ↓reduceIte, Nat.reduceEqDiff, Nat.reduceAdd, rDz, infoL, Nat.reduceSub]
      repeat refine S.seq ?_
      refine S.region ?_
      simp (disch := first | omega | (simp only [add_nx, upd_nx] <;> omega) | decide) only [rUz, ↓reduceIte, Nat.reduceEqDiff, Nat.reduceAdd, t8]
      refine hn2 (j + 1) _ _ (by omega) ⟨kp3, ⟨ps ++ [p], v7, F3', by rw [show i1 (ps ++ [p]) = i1 ps ++ [[iv p]] from List.map_append]; exact happ, ?_, ?_, ?_⟩, ⟨?_, ?_, ?_, ?_, ?_⟩, ?_, by omega⟩
      rotate_left
      · rw [List.length_append, hpl]; rfl
      · rw [htj, pricesB, List.zip_append (by rw [List.length_take]; omega), List.all_append, Bool.and_eq_true]
        exact ⟨hpr, by show (inB p r.1 r.2 && true) = true; rw [inB_iff.2 ⟨hp0, hp1⟩]; rfl⟩
      all_goals (first | rfl | (simp (disch := first | omega | (simp only [add_nx, upd_nx] <;> omega) | decide) only [rUz, ↓reduceIte, Nat.reduceEqDiff, Nat.reduceAdd, t1, t2, t4, t5, t6]; done) | (simp (disch := first | omega | (simp only [add_nx, upd_nx] <;> omega) | decide) only [rUz, ↓reduceIte, Nat.reduceEqDiff, Nat.reduceAdd, t1, t2, t4, t5, t6]; rfl))
    have hjn : j = x.2.1.length := by have := of_decide_eq_false e; omega
    subst hjn
    rw [List.take_of_length_le (Nat.le_refl _)] at hpr
    have hb5j : h'.bl.get B5 = some (.cells (tuV pv rv7) B5 false) := (kpj.get (by omega)).trans hG5
    have hf5j : h'.fams.get B5 = some [B5] := (kpj.fget (by omega)).trans hGf
    have frh : Fr H B5 h' := frG.kp kpj
    have hslF : SlF2 H.nx h' (vp, ps) F1 F3 := ⟨appj.slF (by omega) hF1G, appj.slF (by omega) hF3⟩
    obtain ⟨qv, nv, cv, rfl⟩ := appj.sl
    obtain ⟨y, hy⟩ : ∃ z : PT, z = (.slice qv nv cv, ps) := ⟨_, rfl⟩
    have hcy : cT y = [.slice qv nv cv] := by rw [hy]; rfl
    rw [← hy] at hslF
    have hyl : y.2 = ps := by rw [hy]
    have twoj := (twoG.mono kpj).mono (Kp.refl.add (c := cT y))
    refine S.exit (he2 _ _ _ _ (fun e => by cases e) ?_)
    simp (disch := first | omega | (simp only [add_nx, upd_nx] <;> omega) | decide) only [rUz, ↓reduceIte, Nat.reduceEqDiff, Nat.reduceAdd]
    clear hn2 he2 K2 e v1 v2 v3 v4 v5 v6 w0 hj t8 twoG hb2j appj hG5 hGf
    repeat refine S.seq ?_
    refine S.region ?_
    simp (disch := first | omega | (simp only [add_nx, upd_nx] <;> omega) | decide) only [rUz, ↓reduceIte, Nat.reduceEqDiff, Nat.reduceAdd, t5, t7, fieldAddr_ptr frU0 lII, qII, hb5j, tu0, w_buildSlice, w_append]
    refine wr_lit1 slII lI' zI rfl (by omega) (u := .slice qv nv cv) (l := cT y) (by simp (disch := first | omega | (simp only [add_nx, upd_nx] <;> omega) | decide) only [rUz, ↓reduceIte, Nat.reduceEqDiff, Nat.reduceAdd]) rfl (by rw [hcy]; rfl) ?_
    simp (disch := first | omega | (simp only [add_nx, upd_nx] <;> omega) | decide) only [rUz, ↓reduceIte, Nat.reduceEqDiff, Nat.reduceAdd, w_append]
    refine wr_grown slII uII (v := pv) (bx := h'.nx) (cx := 1) (by simp (disch := first | omega | (simp only [add_nx, upd_nx] <;> omega) | decide) only [rUz, ↓reduceIte, Nat.reduceEqDiff, Nat.reduceAdd]) (by simp (disch := first | omega | (simp only [add_nx, upd_nx] <;> omega) | decide) only [rUz, ↓reduceIte, Nat.reduceEqDiff, Nat.reduceAdd]) twoj.x (by show H.nx ≤ h'.nx + 1; omega) lI' (by rw [hcy]; rfl) (by omega) (ag_eq rfl) nII (by rw [List.length_map]; show _ < 1000000; omega) ?_
    intro v8 h4 F4 gr
    have two4 := twoj.grow gr
    obtain ⟨bw, n8, c8, rfl, hbw⟩ := gr.blk
    have hsm := gr.sm
    have h4n := hsm.1
    have h4n' : (h'.add (cT y)).nx = h'.nx + 1 := rfl
    have hb54 : h4.bl.get B5 = some (.cells (tuV pv rv7) B5 false) := by rw [(hsm.2 B5 hn5).1, ag_ne (by omega)]; exact hb5j
    have hf54 : h4.fams.get B5 = some [B5] := by rw [(hsm.2 B5 hn5).2, af_ne (by omega)]; exact hf5j
    have fr4 : Fr H B5 h4 := (frh.kp Kp.refl.add).sm hsm (Nat.le_refl _)
    have hI4 : ∀ z, z ∈ T2 ++ [y] → SlF2 H.nx h4 z F4 F3 := fun z hz => by
      rcases List.mem_append.1 hz with hz | hz
      · exact (((hIG z hz).mono kpj).mono Kp.refl.add).grown gr
      · obtain rfl := List.mem_singleton.1 hz
        exact (hslF.mono Kp.refl.add).grown gr
    have hF4 : F4 < h4.nx := gr.app.fam_lt (by simp)
    simp (disch := first | omega | (simp only [add_nx, upd_nx] <;> omega) | decide) only [rUz, ↓reduceIte, Nat.reduceEqDiff, Nat.reduceAdd, t5, fieldAddr_ptr frU0 lII]
    refine wr_store lII' ?_
    simp (disch := first | omega | (simp only [add_nx, upd_nx] <;> omega) | decide) only [rUz, ↓reduceIte, Nat.reduceEqDiff, Nat.reduceAdd, stR_sl, hb54, hf54, tuV_len]
    repeat refine S.seq ?_
    refine S.region ?_
    simp (disch := first | omega | (simp only [add_nx, upd_nx] <;> omega) | decide) only [rUz, ↓reduceIte, Nat.reduceEqDiff, Nat.reduceAdd, t6]
    refine hn (k + 1) _ _ (by omega) ⟨fr4.upd, ⟨T2 ++ [y], rt2 ++ [m], _, _, F4, F3, ?_, fun z hz => (hI4 z hz).upd hn5, upd_eq _ _ _, hF4, by show F3 < h4.nx; omega, by rw [List.length_append, hTl]; rfl, by rw [List.length_append, hRl]; rfl, ?_⟩, ⟨?_, ?_, ?_, ?_, ?_⟩, by omega⟩
    · rw [List.map_append, show i1 (rt2 ++ [m]) = i1 rt2 ++ [[iv m]] from List.map_append]
      exact two_upd two4 hn5
    · rw [htk, List.zip_append (by omega), List.zip_append (by rw [List.length_take, List.length_zip]; omega), List.all_append, Bool.and_eq_true]
      refine ⟨hok, ?_⟩
      show (okT st (x, y, m) && true) = true
      rw [Bool.and_true]
      simp only [okT, okT1, hyl, Bool.and_eq_true, decide_eq_true_eq, inB_iff]
      exact ⟨⟨by omega, hm0, hm1⟩, hpr⟩
    all_goals (first | rfl | (simp (disch := first | omega | (simp only [add_nx, upd_nx] <;> omega) | decide) only [rUz, ↓reduceIte, Nat.reduceEqDiff, Nat.reduceAdd, t1, t2, t4, t5]; done) | (simp (disch := first | omega | (simp only [add_nx, upd_nx] <;> omega) | decide) only [rUz, ↓reduceIte, Nat.reduceEqDiff, Nat.reduceAdd, t1, t2, t4, t5]; rfl))
  have hkn : k = D.length := by have := of_decide_eq_false e; omega
  subst hkn
  rw [List.take_of_length_le (Nat.le_refl _)] at hok
  have hb4h : h.bl.get B4 = some (.cells [nl, nl] B4 false) := (fr.get (by omega) (by omega)).trans hb4
  have hf4h : h.fams.get B4 = some [B4] := (fr.fam B4 (by omega)).trans hf4
  have hB4 : B4 < H.nx := by omega
  refine S.exit (he _ _ _ _ (fun e => by cases e) ?_)
  simp (disch := first | omega | (simp only [add_nx, upd_nx] <;> omega) | decide) only [rUz, ↓reduceIte, Nat.reduceEqDiff, Nat.reduceAdd]
  repeat refine S.seq ?_
  refine S.region ?_
  simp (disch := first | omega | (simp only [add_nx, upd_nx] <;> omega) | decide) only [rUz, ↓reduceIte, Nat.reduceEqDiff, Nat.reduceAdd, t4, t5, hb5, part_0 prU (tuV_len pv rv)]
  refine wr_storeN (B := B4) (c := [nl, nl]) (fam := B4) (k := B4) (l := tuV pv rv) (by simp (disch := first | omega | (simp only [add_nx, upd_nx] <;> omega) | decide) only [rUz, ↓reduceIte, Nat.reduceEqDiff, Nat.reduceAdd, t4]) (by simp (disch := first | omega | (simp only [add_nx, upd_nx] <;> omega) | decide) only [rUz, ↓reduceIte, Nat.reduceEqDiff, Nat.reduceAdd]) srU (by omega) rfl hb4h hf4h rfl ?_
  simp (disch := first | omega | (simp only [add_nx, upd_nx] <;> omega) | decide) only [rUz, ↓reduceIte, Nat.reduceEqDiff, Nat.reduceAdd]
  refine S.ret ?_
  try simp only [seqK_ret, blockK_ret]
  subst hF
  simp only [finish, endMarks]
  rw [show Try.f32.results.toList = [.cell 4 71] from rfl]
  simp (disch := first | omega | (simp only [add_nx, upd_nx] <;> omega) | decide) only [resA, ev_tmp, tget_ne, tget_eq, get_ne, get_eq, upd_eq, upd_ne, ag_eq, ag_ne, result1, t4, part_0 prU (tuV_len pv rv)]
  refine hK _ _ (kph.upd ho4) ⟨pv, rv, T2, rt2, rfl, ⟨(two.x.upd hB4).at, fun y hy => SlAt.ints ((hI y hy).1.upd hB4).at, SlAt.ints (two.y.upd hB4).at⟩, (two.y.upd hB4).at, fun y hy => ((hI y hy).1.upd hB4).at, ?_⟩
  simp only [truthB, Bool.and_eq_true, decide_eq_true_eq]
  exact ⟨by omega, by omega, hok⟩
end Go.Proofs.Mg
