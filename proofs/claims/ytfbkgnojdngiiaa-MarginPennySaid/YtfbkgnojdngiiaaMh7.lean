import Derived.Test.YtfbkgnojdngiiaaMh6
/- A truth of the reference as one of the program. -/
namespace Go.Proofs.Mg
open Go Go.Ev Go.RowKit
set_option linter.unusedSimpArgs false
variable {pr : Prim} {R : ExT}
/-- A slice of integers of a family of its own, from lo on. -/
def LNew (lo : Nat) (h : AHeap) (v : Value) (l : List Int) : Prop := ∃ b, v = .slice (some ⟨b, 0, none⟩) l.length l.length ∧ lo ≤ b ∧ b < h.nx ∧ h.bl.get b = some (.cells (l.map iv) lo false) ∧ lo < h.nx
set_option maxHeartbeats 4000000 in
theorem listF_y (S : Ev.Steps Try.prog pr R) (h0 : AHeap) (v : Value) (l : List Int) (hv : IS h0 v l) (hl : l.length ≤ 1000) :
    Brings Try.prog R 11 [v] h0 fun u h => LNew h0.nx h u l := by
  refine brings_of (fn := Try.f11) (c := (Try.f11.body).getD .skip) (by kernel_rfl) rfl (by kernel_rfl) rfl (fun K hK => ?_)
  generalize hF : finish Try.prog Try.f11 K = KF
  simp only [Try.f11, Option.getD_some, argsT, setArgs, fV1_eq, T.setK_eq, id]
  repeat refine S.seq ?_
  refine S.region ?_
  simp (disch := first | omega | (simp only [add_nx, upd_nx] <;> omega) | decide) only [rUz, ↓reduceIte, Nat.reduceEqDiff, Nat.reduceAdd]
  repeat refine S.seq ?_
  refine S.region ?_
  simp (disch := first | omega | (simp only [add_nx, upd_nx] <;> omega) | decide) only [rUz, ↓reduceIte, Nat.reduceEqDiff, Nat.reduceAdd, w_append, w_buildSlice]
  refine wr_lit0 slI s3' z3 rfl ?_
  simp (disch := first | omega | (simp only [add_nx, upd_nx] <;> omega) | decide) only [rUz, ↓reduceIte, Nat.reduceEqDiff, Nat.reduceAdd, w_append]
  refine wr_copyE (b := h0.nx) (v := v) slI uI (by simp (disch := first | omega | (simp only [add_nx, upd_nx] <;> omega) | decide) only [rUz, ↓reduceIte, Nat.reduceEqDiff, Nat.reduceAdd]) (by simp (disch := first | omega | (simp only [add_nx, upd_nx] <;> omega) | decide) only [rUz, ↓reduceIte, Nat.reduceEqDiff, Nat.reduceAdd]) s3' (ag_eq rfl) (af_eq rfl) (Nat.lt_succ_self _) (SlAt.mono hv Kp.refl.add) nI (by rw [List.length_map]; show _ < 1000000; omega) ?_
  intro v' h' hc
  obtain ⟨B, ll, hv', hB, hlt, hg, _⟩ := hc.at_
  rw [flat1] at hg
  rw [List.length_map] at hv'
  have hle := hc.le
  have hn : (h0.add []).nx = h0.nx + 1 := rfl
  have hkp : Kp h0 h' := ⟨by omega, fun k hk => by
    rw [hc.bl k (by omega) (by omega), hc.fam k (by omega) (by omega), ag_ne (by omega), af_ne (by omega)]
    exact ⟨rfl, rfl⟩⟩
  simp (disch := first | omega | (simp only [add_nx, upd_nx] <;> omega) | decide) only [rUz, ↓reduceIte, Nat.reduceEqDiff, Nat.reduceAdd]
  refine S.ret ?_
  try simp only [seqK_ret, blockK_ret]
  subst hF
  simp only [finish, endMarks]
  rw [show Try.f11.results.toList = [.tmp 2] from rfl]
  simp (disch := first | omega | (simp only [add_nx, upd_nx] <;> omega) | decide) only [resA, ev_tmp, tget_ne, tget_eq, get_ne, get_eq, upd_eq, upd_ne, ag_eq, ag_ne, result1]
  exact hK _ _ hkp ⟨B, hv', by omega, hlt, hg, by omega⟩
/-- A slice of integers from lo on, of another family than F. -/
def IsF (lo : Nat) (h : AHeap) (v : Value) (l : List Int) (F : Nat) : Prop := ∃ b f, v = .slice (some ⟨b, 0, none⟩) l.length l.length ∧ lo ≤ b ∧ b < h.nx ∧ h.bl.get b = some (.cells (l.map iv) f false) ∧ f < h.nx ∧ f ≠ F
section
variable {lo F F' B : Nat} {h h' : AHeap} {v v' : Value} {l : List Int}
theorem IsF.at (k : IsF lo h v l F) : IAt h v l := by
  obtain ⟨b, f, k1, _, k2, k3, _⟩ := k
  exact .inr ⟨b, _, f, false, k1, k2, k3⟩
theorem IsF.mono (k : IsF lo h v l F) (a : Kp h h') : IsF lo h' v l F := by
  obtain ⟨b, f, k1, k0, k2, k3, k4, k5⟩ := k
  exact ⟨b, f, k1, k0, Nat.lt_of_lt_of_le k2 a.1, (a.get k2).trans k3, Nat.lt_of_lt_of_le k4 a.1, k5⟩
theorem IsF.upd {d : List Value} {fm : Nat} (k : IsF lo h v l F) (hB : B < lo) : IsF lo (h.upd B d fm) v l F := by
  obtain ⟨b, f, k1, k0, k2, k3, k4, k5⟩ := k
  exact ⟨b, f, k1, k0, k2, by rw [upd_ne _ _ _ (by omega)]; exact k3, k4, k5⟩
theorem IsF.grown {lo2 sz : Nat} {cs : List (List Value)} {c : List Value} (k : IsF lo h v l F) (g : Grown lo2 h h' sz v' cs c F F') : IsF lo h' v l F' := by
  obtain ⟨b, f, k1, k0, k2, k3, k4, k5⟩ := k
  have hle := g.left.le
  refine ⟨b, f, k1, k0, by omega, g.left.bl b _ f false k2 k3 (fun _ => k5), by omega, ?_⟩
  by_cases h0 : cs = []
  · have := g.fresh h0; omega
  · rw [g.same h0]; exact k5
theorem LNew.isF {lo2 : Nat} (k : LNew lo2 h v l) (hF : F < lo2) (hl : lo ≤ lo2) : IsF lo h v l F := by
  obtain ⟨b, k1, k2, k3, k4, k5⟩ := k
  exact ⟨b, lo2, k1, by omega, k3, k4, k5, by omega⟩
end
structure ITr (Ts : List PT) (H : AHeap) (B1 B2 B3 : Nat) (rv' : Value) (k : Nat) (t : T Value) (h : AHeap) : Prop where
  fr : Fr H B3 h
  ex : ∃ (T' : List PT) (v : Value) (F : Nat), App H.nx h 1 v (T'.map cT) F ∧ (T'.map fun x => x.2) = (Ts.take k).map (fun x => x.2) ∧ (∀ x, x ∈ T' → IsF H.nx h x.1 x.2 F) ∧ h.bl.get B3 = some (.cells (tuV v rv') B3 false) ∧ F < h.nx
  t1 : tget t 1 = ptr0 B1
  t2 : tget t 2 = ptr0 B2
  t3 : tget t 3 = ptr0 B3
  t4 : tget t 4 = iv (k : Int)
  hk : k ≤ Ts.length
/-- The same truth, in new slices. -/
def TruAs (Ts : List PT) (rt : List Int) (u : Value) (h : AHeap) : Prop := ∃ (pv rv : Value) (T' : List PT), u = .agg ⟨tuV pv rv⟩ ∧ TuAt h pv rv T' rt ∧ (T'.map fun x => x.2) = Ts.map fun x => x.2
set_option maxHeartbeats 16000000 in
theorem truthC_y (S : Ev.Steps Try.prog pr R) (hoff : Off pr) (h0 : AHeap) (pv rv : Value) (T' : List PT) (rt : List Int) (ht : TuAt h0 pv rv T' rt) (hr : IS h0 rv rt) (hs : ∀ x, x ∈ T' → IS h0 x.1 x.2) (h7 : (T'.length : Int) ≤ 7) (hr7 : (rt.length : Int) ≤ 7) (hx7 : ∀ x, x ∈ T' → (x.2.length : Int) ≤ 7) :
    Brings Try.prog R 27 [.agg ⟨tuV pv rv⟩] h0 fun u h => TruAs T' rt u h := by
  refine brings_of (fn := Try.f27) (c := (Try.f27.body).getD .skip) (by kernel_rfl) rfl (by kernel_rfl) rfl (fun K hK => ?_)
  generalize hF : finish Try.prog Try.f27 K = KF
  simp only [Try.f27, Option.getD_some, argsT, setArgs, fV1_eq, T.setK_eq, id]
  have lT := fun t h1 o => row_len ht.pr isII t h1 o
  repeat refine S.seq ?_
  refine S.region ?_
  simp (disch := first | omega | (simp only [add_nx, upd_nx] <;> omega) | decide) only [rUz, ↓reduceIte, Nat.reduceEqDiff, Nat.reduceAdd, wr_alloc zcU]
  obtain ⟨B1, hB1⟩ : ∃ x, x = h0.nx := ⟨_, rfl⟩
  obtain ⟨B2, hB2⟩ : ∃ x, x = h0.nx + 1 := ⟨_, rfl⟩
  have hb1 : ((h0.add (tuV pv rv)).add [nl, nl]).bl.get B1 = some (.cells (tuV pv rv) B1 false) := by rw [ag_ne (by show B1 ≠ h0.nx + 1; omega)]; subst hB1; exact ag_eq rfl
  have hb2 : ((h0.add (tuV pv rv)).add [nl, nl]).bl.get B2 = some (.cells [nl, nl] B2 false) := by subst hB2; exact ag_eq rfl
  have hf2 : ((h0.add (tuV pv rv)).add [nl, nl]).fams.get B2 = some [B2] := by subst hB2; exact af_eq rfl
  have hk1 : Kp h0 ((h0.add (tuV pv rv)).add [nl, nl]) := Kp.refl.add.add
  have hn1 : B1 < ((h0.add (tuV pv rv)).add [nl, nl]).nx := by show B1 < h0.nx + 2; omega
  have hn2 : B2 < ((h0.add (tuV pv rv)).add [nl, nl]).nx := by show B2 < h0.nx + 2; omega
  have ho2 : h0.nx ≤ B2 := by omega
  rw [← hB2, ← hB1]
  clear hB1 hB2
  generalize (h0.add (tuV pv rv)).add [nl, nl] = H0 at hb1 hb2 hf2 hk1 hn1 hn2 ⊢
  repeat refine S.seq ?_
  refine S.region ?_
  simp (disch := first | omega | (simp only [add_nx, upd_nx] <;> omega) | decide) only [rUz, ↓reduceIte, Nat.reduceEqDiff, Nat.reduceAdd, fieldAddr_ptr frU1 lI, qI, hb1, tu1]
  refine wr_brings (fid := 11) (first := #[]) (captured := #[]) (Post := fun u h => LNew H0.nx h u rt) rfl (hoff _ _ _ rfl) (by simp (disch := first | omega | (simp only [add_nx, upd_nx] <;> omega) | decide) only [rUz, ↓reduceIte, Nat.reduceEqDiff, Nat.reduceAdd]; exact listF_y S H0 rv rt (hr.mono hk1) (by omega)) ?_
  rintro u g hkg hu
  obtain ⟨bu, rfl, hbr⟩ := id hu
  clear hbr
  simp (disch := first | omega | (simp only [add_nx, upd_nx] <;> omega) | decide) only [rUz, ↓reduceIte, Nat.reduceEqDiff, Nat.reduceAdd, rd_build, List.map_cons, List.map_nil, bcU, wr_alloc zcU]
  refine wr_storeN (B := g.nx) (c := [nl, nl]) (fam := g.nx) (k := g.nx) (l := tuV nl (.slice (some ⟨bu, 0, none⟩) rt.length rt.length)) (by simp (disch := first | omega | (simp only [add_nx, upd_nx] <;> omega) | decide) only [rUz, ↓reduceIte, Nat.reduceEqDiff, Nat.reduceAdd]) (by simp (disch := first | omega | (simp only [add_nx, upd_nx] <;> omega) | decide) only [rUz, ↓reduceIte, Nat.reduceEqDiff, Nat.reduceAdd]; rfl) scU (by omega) rfl (ag_eq rfl) (af_eq rfl) rfl ?_
  have hru : IsF H0.nx g (.slice (some ⟨bu, 0, none⟩) rt.length rt.length) rt 0 := hu.isF (by omega) (Nat.le_refl _)
  obtain ⟨rv', hrv⟩ : ∃ v, v = (.slice (some ⟨bu, 0, none⟩) rt.length rt.length : Value) := ⟨_, rfl⟩
  rw [← hrv] at hru ⊢
  obtain ⟨B3, hB3⟩ : ∃ x, x = g.nx := ⟨_, rfl⟩
  have hk0 : Kp g ((g.add [nl, nl]).upd g.nx (tuV nl rv') g.nx) := Kp.refl.add.upd (Nat.le_refl _)
  have hb3 : ((g.add [nl, nl]).upd g.nx (tuV nl rv') g.nx).bl.get B3 = some (.cells (tuV nl rv') B3 false) := by subst hB3; exact upd_eq _ _ _
  have hf3 : ((g.add [nl, nl]).upd g.nx (tuV nl rv') g.nx).fams.get B3 = some [B3] := by subst hB3; rw [upd_fams]; exact af_eq rfl
  have hn3 : B3 < ((g.add [nl, nl]).upd g.nx (tuV nl rv') g.nx).nx := by subst hB3; exact Nat.lt_succ_self _
  simp (disch := first | omega | (simp only [add_nx, upd_nx] <;> omega) | decide) only [rUz, ↓reduceIte, Nat.reduceEqDiff, Nat.reduceAdd]
  rw [← hB3]
  rw [← hB3] at hb3 hf3 hn3 hk0
  have hgB : g.nx ≤ B3 := by omega
  clear hB3
  generalize (g.add [nl, nl]).upd B3 (tuV nl rv') B3 = H at hk0 hb3 hf3 hn3 ⊢
  have hH0 : H0.nx ≤ g.nx := hkg.1
  have hkH := hkg.trans hk0
  replace hb1 := (hkH.get hn1).trans hb1
  replace hb2 := (hkH.get hn2).trans hb2
  replace hf2 := (hkH.fget hn2).trans hf2
  have ho3 : h0.nx ≤ B3 := by have := hk1.1; omega
  have hn13 : B1 < B3 := by omega
  have hn23 : B2 < B3 := by omega
  replace hk1 := hk1.trans hkH
  clear hkH hkg hu hrv hr hn1
  repeat refine S.seq ?_
  refine S.region ?_
  simp (disch := first | omega | (simp only [add_nx, upd_nx] <;> omega) | decide) only [rUz, ↓reduceIte, Nat.reduceEqDiff, Nat.reduceAdd]
  repeat refine S.seq ?_
  refine S.block ?_
  refine S.loop (ι := Nat) (ITr T' H B1 B2 B3 rv') (fun k => T'.length - k) ?_ 0 _ _ ?_
  rotate_left
  · refine ⟨Fr.refl, ⟨[], nl, 0, .inl ⟨rfl, rfl⟩, rfl, (fun x hx => by cases hx), hb3, by omega⟩, ?_, ?_, ?_, ?_, Nat.zero_le _⟩
    all_goals (first | rfl | (simp (disch := first | omega | (simp only [add_nx, upd_nx] <;> omega) | decide) only [rUz, ↓reduceIte, Nat.reduceEqDiff, Nat.reduceAdd]; done) | (simp (disch := first | omega | (simp only [add_nx, upd_nx] <;> omega) | decide) only [rUz, ↓reduceIte, Nat.reduceEqDiff, Nat.reduceAdd]; rfl))
  clear hb3
  intro k t h ⟨fr, ⟨T2, v, F, app, hT2, hI, hb3, hFl⟩, t1, t2, t3, t4, hk⟩ K' hn he
  have hnx := fr.le
  have kph : Kp h0 h := Fr.toKp hk1 fr ho3
  have hb1h : h.bl.get B1 = some (.cells (tuV pv rv) B1 false) := (fr.get (by omega) (by omega)).trans hb1
  have hf3h : h.fams.get B3 = some [B3] := (fr.fam B3 hn3).trans hf3
  obtain ⟨qv, nv, cv, hvs⟩ := app.sl
  repeat refine S.seq ?_
  refine S.region ?_
  simp (disch := first | omega | (simp only [add_nx, upd_nx] <;> omega) | decide) only [rUz, ↓reduceIte, Nat.reduceEqDiff, Nat.reduceAdd, t1, t4, fieldAddr_ptr frU0 lII, qII, hb1h, tu0, lT]
  repeat refine S.seq ?_
  refine S.cond (v := decide ((k : Int) < (T'.length : Int))) (by first | rfl | (simp (disch := first | omega | (simp only [add_nx, upd_nx] <;> omega) | decide) only [rUz, ↓reduceIte, Nat.reduceEqDiff, Nat.reduceAdd] <;> rfl)) (fun e => ?_) (fun e => ?_)
  · have hkn : k < T'.length := by have := of_decide_eq_true e; omega
    clear e
    have hps : T'[k]? = some T'[k] := List.getElem?_eq_getElem hkn
    have hxm : T'[k] ∈ T' := List.getElem_mem hkn
    have htk : (T'.take (k + 1)).map (fun x => x.2) = (T'.take k).map (fun x => x.2) ++ [T'[k].2] := by rw [List.take_add_one, hps, Option.toList_some, List.map_append]; rfl
    have hx7k := hx7 _ hxm
    generalize T'[k] = x at hps hxm htk hx7k
    obtain ⟨b2, f2, o2, ce2, v1, v2, v3, v4, v5, v6⟩ := row_idx (ht.mono kph).pr slII lI' hps
    have v6 := v6 0 _ (cT0 x)
    rw [Nat.mul_one] at v1
    rw [Nat.mul_one, Nat.add_zero] at v6
    have hvv := app.veq
    have hT2l : T2.length = k := by
      have := congrArg List.length hT2
      rw [List.length_map, List.length_map, List.length_take] at this
      omega
    repeat refine S.seq ?_
    refine S.skip ?_
    simp (disch := first | omega | (simp only [add_nx, upd_nx] <;> omega) | decide) only [rUz, ↓reduceIte, Nat.reduceEqDiff, Nat.reduceAdd]
    repeat refine S.seq ?_
    refine S.block ?_
    repeat refine S.seq ?_
    refine S.drawnL [(false, 0), (false, 1), (false, 0), (false, 4), (false, 0), (false, 28), (false, 60), (true, 124), (true, 252), (true, 511), (false, 1023), (true, 2047)] (by kernel_rfl) (by kernel_rfl) (by kernel_rfl) ?_
    simp (disch := first | omega | (simp only [add_nx, upd_nx] <;> omega) | decide) only [rUz, ↓reduceIte, Nat.reduceEqDiff, Nat.reduceAdd, rDz, infoL, Nat.reduceSub, t1, t3, t4, fieldAddr_ptr fcU0 lII, fieldAddr_ptr frU0 lII, qII, qI, hb1h, hb3, tu0, v1, v3, v6]
    refine drW_brings (fid := 11) (first := #[]) (captured := #[]) (Post := fun u h' => LNew h.nx h' u x.2) rfl (hoff _ _ _ rfl) (by simp (disch := first | omega | (simp only [add_nx, upd_nx] <;> omega) | decide) only [rUz, ↓reduceIte, Nat.reduceEqDiff, Nat.reduceAdd]; exact listF_y S h x.1 x.2 ((hs x hxm).mono kph) (by omega)) (Nat.le_of_ble_eq_true rfl) ?_
    rintro u g hkg hu
    obtain ⟨bu, rfl, _⟩ := id hu
    have hb3g : g.bl.get B3 = some (.cells (tuV v rv') B3 false) := (hkg.get (by omega)).trans hb3
    have hf3g : g.fams.get B3 = some [B3] := (hkg.fget (by omega)).trans hf3h
    obtain ⟨uv, huv⟩ : ∃ z, z = (.slice (some ⟨bu, 0, none⟩) x.2.length x.2.length : Value) := ⟨_, rfl⟩
    have huF : IsF H.nx g uv x.2 F := by rw [huv]; exact hu.isF (by omega) (by omega)
    have hgn := hkg.1
    refine ⟨?_, ?_⟩
    · try simp (disch := first | decide | rfl) only [again_nil, again_skip, again_free]
      rw [again_same (v := v) (by simp (disch := first | omega | (simp only [add_nx, upd_nx] <;> omega) | decide) only [rUz, ↓reduceIte, Nat.reduceEqDiff, Nat.reduceAdd, rDz, infoL, Nat.reduceSub, t3, hb3g, fieldAddr_ptr fcU0 lII, qII, tu0]) hvv]
      try simp (disch := first | decide | rfl) only [again_nil, again_skip, again_free]
    simp (disch := first | omega | (simp only [add_nx, upd_nx] <;> omega) | decide) only [rUz, ↓reduceIte, Nat.reduceEqDiff, Nat.reduceAdd, rDz, infoL, Nat.reduceSub]
    refine drW_give (aw_lit1 slII lI' zI rfl (by omega) (u := .slice (some ⟨bu, 0, none⟩) x.2.length x.2.length) (l := [.slice (some ⟨bu, 0, none⟩) x.2.length x.2.length]) (by simp (disch := first | omega | (simp only [add_nx, upd_nx] <;> omega) | decide) only [rUz, ↓reduceIte, Nat.reduceEqDiff, Nat.reduceAdd, rDz, infoL, Nat.reduceSub]) rfl rfl) (Nat.le_of_ble_eq_true rfl) ?_ ?_
    · try simp (disch := first | decide | rfl) only [again_nil, again_skip, again_free]
      rw [again_same (v := v) (by simp (disch := first | omega | (simp only [add_nx, upd_nx] <;> omega) | decide) only [rUz, ↓reduceIte, Nat.reduceEqDiff, Nat.reduceAdd, rDz, infoL, Nat.reduceSub, t3, ag_ne, hb3g, fieldAddr_ptr fcU0 lII, qII, tu0]) hvv]
      try simp (disch := first | decide | rfl) only [again_nil, again_skip, again_free]
    rw [← huv]
    simp (disch := first | omega | (simp only [add_nx, upd_nx] <;> omega) | decide) only [rUz, ↓reduceIte, Nat.reduceEqDiff, Nat.reduceAdd, rDz, infoL, Nat.reduceSub]
    refine drW_app slII uII (v := v) (bx := g.nx) (cx := 1) (by simp (disch := first | omega | (simp only [add_nx, upd_nx] <;> omega) | decide) only [rUz, ↓reduceIte, Nat.reduceEqDiff, Nat.reduceAdd, rDz, infoL, Nat.reduceSub]) (by simp (disch := first | omega | (simp only [add_nx, upd_nx] <;> omega) | decide) only [rUz, ↓reduceIte, Nat.reduceEqDiff, Nat.reduceAdd, rDz, infoL, Nat.reduceSub]) ((app.mono hkg).mono Kp.refl.add) (by show H.nx ≤ g.nx + 1; omega) lI' rfl (by omega) (ag_eq rfl) nII (by rw [List.length_map]; show _ < 1000000; omega) (Nat.le_of_ble_eq_true rfl) ?_
    intro v7 h3 F3 gr
    obtain ⟨bv, n7, c7, rfl, hbv⟩ := gr.blk
    have hsm := gr.sm
    have hb33 : h3.bl.get B3 = some (.cells (tuV v rv') B3 false) := by rw [(hsm.2 B3 hn3).1, ag_ne (by omega)]; exact hb3g
    have hf33 : h3.fams.get B3 = some [B3] := by rw [(hsm.2 B3 hn3).2, af_ne (by omega)]; exact hf3g
    have fr3 : Fr H B3 h3 := ((fr.kp hkg).kp Kp.refl.add).sm hsm (Nat.le_refl _)
    have h3n := hsm.1
    have h4n : (g.add [uv]).nx = g.nx + 1 := rfl
    have happ := gr.app
    have hI3 : ∀ y, y ∈ T2 ++ [(uv, x.2)] → IsF H.nx h3 y.1 y.2 F3 := fun y hy => by
      rcases List.mem_append.1 hy with hy | hy
      · exact (((hI y hy).mono hkg).mono Kp.refl.add).grown gr
      · obtain rfl := List.mem_singleton.1 hy
        exact (huF.mono Kp.refl.add).grown gr
    have hF3 : F3 < h3.nx := happ.fam_lt (by simp)
    refine ⟨?_, ?_⟩
    · try simp (disch := first | decide | rfl) only [again_nil, again_skip, again_free]
    simp (disch := first | omega | (simp only [add_nx, upd_nx] <;> omega) | decide) only [rUz, ↓reduceIte, Nat.reduceEqDiff, Nat.reduceAdd, rDz, infoL, Nat.reduceSub, t3, fieldAddr_ptr fcU0 lII]
    refine drW_giveN (aw_store1 (B := B3) (off := 0) (v := .slice (some ⟨bv, 0, none⟩) n7 c7) (by simp (disch := first | omega | (simp only [add_nx, upd_nx] <;> omega) | decide) only [rUz, ↓reduceIte, Nat.reduceEqDiff, Nat.reduceAdd, rDz, infoL, Nat.reduceSub]) (by simp (disch := first | omega | (simp only [add_nx, upd_nx] <;> omega) | decide) only [rUz, ↓reduceIte, Nat.reduceEqDiff, Nat.reduceAdd, rDz, infoL, Nat.reduceSub]) lII' rfl rfl hb33 hf33 (by show 0 < 2; omega)) ?_ ?_
    · try simp (disch := first | decide | rfl) only [again_nil, again_skip, again_free]
    simp (disch := first | omega | (simp only [add_nx, upd_nx] <;> omega) | decide) only [rUz, ↓reduceIte, Nat.reduceEqDiff, Nat.reduceAdd, rDz, infoL, Nat.reduceSub]
    repeat refine S.seq ?_
    refine S.region ?_
    simp (disch := first | omega | (simp only [add_nx, upd_nx] <;> omega) | decide) only [rUz, ↓reduceIte, Nat.reduceEqDiff, Nat.reduceAdd, t4]
    refine hn (k + 1) _ _ (by omega) ⟨fr3.upd, ⟨T2 ++ [(uv, x.2)], _, F3, ?_, ?_, fun y hy => (hI3 y hy).upd hn3, upd_eq _ _ _, hF3⟩, ?_, ?_, ?_, ?_, by omega⟩
    · rw [List.map_append]
      exact happ.upd hn3
    · rw [List.map_append, hT2, htk]; rfl
    all_goals (first | rfl | (simp (disch := first | omega | (simp only [add_nx, upd_nx] <;> omega) | decide) only [rUz, ↓reduceIte, Nat.reduceEqDiff, Nat.reduceAdd, t1, t2, t3]; done) | (simp (disch := first | omega | (simp only [add_nx, upd_nx] <;> omega) | decide) only [rUz, ↓reduceIte, Nat.reduceEqDiff, Nat.reduceAdd, t1, t2, t3]; rfl))
  have hkn : k = T'.length := by have := of_decide_eq_false e; omega
  subst hkn
  rw [List.take_of_length_le (Nat.le_refl _)] at hT2
  have hb2h : h.bl.get B2 = some (.cells [nl, nl] B2 false) := (fr.get (by omega) (by omega)).trans hb2
  have hf2h : h.fams.get B2 = some [B2] := (fr.fam B2 (by omega)).trans hf2
  refine S.exit (he _ _ _ _ (fun e => by cases e) ?_)
  simp (disch := first | omega | (simp only [add_nx, upd_nx] <;> omega) | decide) only [rUz, ↓reduceIte, Nat.reduceEqDiff, Nat.reduceAdd]
  repeat refine S.seq ?_
  refine S.region ?_
  simp (disch := first | omega | (simp only [add_nx, upd_nx] <;> omega) | decide) only [rUz, ↓reduceIte, Nat.reduceEqDiff, Nat.reduceAdd, t2, t3, hb3, part_0 pcU (tuV_len v rv')]
  refine wr_storeN (B := B2) (c := [nl, nl]) (fam := B2) (k := B2) (l := tuV v rv') (by simp (disch := first | omega | (simp only [add_nx, upd_nx] <;> omega) | decide) only [rUz, ↓reduceIte, Nat.reduceEqDiff, Nat.reduceAdd, t2]) (by simp (disch := first | omega | (simp only [add_nx, upd_nx] <;> omega) | decide) only [rUz, ↓reduceIte, Nat.reduceEqDiff, Nat.reduceAdd]) scU (by omega) rfl hb2h hf2h rfl ?_
  simp (disch := first | omega | (simp only [add_nx, upd_nx] <;> omega) | decide) only [rUz, ↓reduceIte, Nat.reduceEqDiff, Nat.reduceAdd]
  refine S.ret ?_
  try simp only [seqK_ret, blockK_ret]
  subst hF
  simp only [finish, endMarks]
  rw [show Try.f27.results.toList = [.cell 2 52] from rfl]
  simp (disch := first | omega | (simp only [add_nx, upd_nx] <;> omega) | decide) only [resA, ev_tmp, tget_ne, tget_eq, get_ne, get_eq, upd_eq, upd_ne, ag_eq, ag_ne, result1, t2, part_0 pcU (tuV_len v rv')]
  exact hK _ _ (kph.upd ho2) ⟨v, rv', T2, rfl, ⟨(app.upd (by omega)).at, fun x hx => ((hI x hx).upd (by omega)).at, ((hru.mono (Fr.toKp hk0 fr hgB)).upd hn2).at⟩, hT2⟩
end Go.Proofs.Mg
