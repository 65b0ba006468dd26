import Derived.Test.YtnlmonmeapbblaaGreatCs1
namespace Go.Proofs.Cp
open Go Go.Ev Go.RowKit
set_option linter.unusedSimpArgs false

theorem holdG_bnd {c : Co} (hv : Val c) (day : Int) (q : R2 → Bool) : ∀ (tr : List Tr) (ds : List R2) (l : List Int) (M : Int), (∀ x, x ∈ tr → Tok c.hs x) → l.length = 4 → bndL M l → bndL (M + 5184000 * (tr.length : Int)) (holdG c day q tr ds l)
  | [], ds, l, M, _, _, h => by
    rw [holdG_nil]
    intro x hx
    have := h x hx
    simp only [List.length_nil]
    omega
  | x :: r, [], l, M, _, _, h => by
    unfold holdG
    intro y hy
    have := h y hy
    omega
  | x :: r, d :: ds, l, M, ht, hl, h => by
    rw [holdG]
    have hx := ht x (by simp)
    have := hx.s0
    have := hx.s1
    have := hx.b0
    have := hx.b1
    have := hv.h4
    have hfu := facU_bnd hv (sh := x.sh) (a := d.1) (b := day) (by have := hx.n0; omega) hx.n1
    have hb : bndL (M + 5184000) (bif q d then aftL l x (facU c x.sh d.1 day) else l) := by
      cases q d with
      | true =>
        have e1 := bndL_add (U := 2592000) (d := -facU c x.sh d.1 day) (i := x.se.toNat) h (by omega) (by omega) (by omega) (by omega)
        have e2 := bndL_add (U := 2592000) (d := facU c x.sh d.1 day) (i := x.bu.toNat) e1 (by rw [addA_len]; omega) (by omega) (by omega) (by omega)
        intro y hy
        have := e2 y hy
        omega
      | false =>
        intro y hy
        have := h y hy
        omega
    have hlen : (bif q d then aftL l x (facU c x.sh d.1 day) else l).length = 4 := by
      cases q d with
      | true => exact (aftL_len _ _ _).trans hl
      | false => exact hl
    have hr := holdG_bnd hv day q r ds _ _ (fun y hy => ht y (by simp [hy])) hlen hb
    intro y hy
    have := hr y hy
    simp only [List.length_cons]
    omega
theorem holdP_bnd {c : Co} (hv : Val c) (ds : List R2) (day : Int) (q : R2 → Bool) : bndL 23328000 (holdP c ds day q) := by
  intro x hx
  have := holdG_bnd hv day q c.tr ds _ _ (toks hv) (hold0_len _ _ _) (hold0_bnd hv day _) x hx
  have := hv.tl
  omega
def wholeZ (c : Co) (a b : List Int) (day : Int) : Int := if askedZ c a b = 0 then (bif inB day 0 11 then 0 else 2) else askedZ c a b
def regL (c : Co) (a b : List Int) (day : Int) : List Int := (holdP c (datesL c a b) day (byQ day)).take c.held.length
def shL (l : List Int) : List Int := l.map fun n => n.tdiv 720
def unL (l : List Int) : List Int := l.map fun n => n.tmod 720
theorem asked0 {c : Co} {a b : List Int} (h : askedZ c a b = 0) : faultZ c = 0 ∧ datedB c a b = true := by
  unfold askedZ at h
  by_cases hz : faultZ c = 0
  · rw [if_pos hz] at h
    refine ⟨hz, ?_⟩
    cases hd : datedB c a b with
    | true => rfl
    | false => rw [hd, cond_false] at h; omega
  · rw [if_neg hz] at h
    exact absurd h hz

theorem q720 {x M : Int} (h1 : -M ≤ x) (h2 : x ≤ M) (hM : 0 ≤ M) : -M ≤ x.tdiv 720 ∧ x.tdiv 720 ≤ M := by
  by_cases h : 0 ≤ x
  · rw [Int.tdiv_eq_ediv_of_nonneg h]; omega
  · have e : x = -(-x) := by omega
    rw [e, Int.neg_tdiv, Int.tdiv_eq_ediv_of_nonneg (by omega)]; omega
structure IWh (H : AHeap) (L : List Int) (n : Nat) (t33 : Value) (k : Nat) (t : T Value) (h : AHeap) (v6 v7 : Value) (F6 F7 : Nat) : Prop where
  kp : Kp H h
  t6 : tget t 6 = v6
  t7 : tget t 7 = v7
  t33 : tget t 33 = t33
  t34 : tget t 34 = iv (n : Int)
  t35 : tget t 35 = iv (k : Int)
  hk : k ≤ n
  two : Two1 H.nx h ((shL (L.take k)).map fun n => [iv n]) ((unL (L.take k)).map fun n => [iv n]) v6 v7 F6 F7
def IWx (H : AHeap) (L : List Int) (n : Nat) (t33 : Value) (k : Nat) (t : T Value) (h : AHeap) : Prop := ∃ v6 v7 F6 F7, IWh H L n t33 k t h v6 v7 F6 F7

variable {pr : Prim} {R : ExT}
set_option maxHeartbeats 32000000 in
theorem whole_y (S : Ev.Steps Tryz.prog pr R) (hoff : Off pr) (h0 : AHeap) (v : Vs) (c : Co) (hc : CoAt h0 v c) (hth : thinB c [] [] = true) (ua ub : Value) (a b : List Int) (hua : IAt h0 ua a) (hub : IAt h0 ub b) (hla : (a.length : Int) ≤ 1000000) (day : Int) :
    Brings Tryz.prog R 19 [.agg ⟨coV c.hs v⟩, .agg ⟨[ua, ub]⟩, iv day] h0 fun u h => ∃ sv uv, u = .tuple ⟨[sv, uv, iv (wholeZ c a b day)]⟩ ∧ (wholeZ c a b day = 0 → IAt h sv (shL (regL c a b day)) ∧ IAt h uv (unL (regL c a b day))) ∧ (wholeZ c a b day ≠ 0 → sv = nl ∧ uv = nl) := by
  refine brings_of (fn := Tryz.f19) (c := (Tryz.f19.body).getD .skip) (by kernel_rfl) rfl (by kernel_rfl) rfl (fun K hK => ?_)
  generalize hF : finish Tryz.prog Tryz.f19 K = KF
  simp only [Tryz.f19, Option.getD_some, argsT, setArgs, fV1_eq, T.setK_eq, id]
  repeat refine S.seq ?_
  refine S.region ?_
  simp (disch := first | omega | decide) only [rUz, ↓reduceIte, Nat.reduceEqDiff, Nat.reduceAdd]
  obtain ⟨B2, hB2⟩ : ∃ x, x = h0.nx := ⟨_, rfl⟩
  obtain ⟨B3, hB3⟩ : ∃ x, x = h0.nx + 1 := ⟨_, rfl⟩
  have hb2 : ((h0.add (coV c.hs v)).add [ua, ub]).bl.get B2 = some (.cells (coV c.hs v) B2 false) := by simp (disch := first | omega | (simp only [nZ] <;> omega) | decide) only [ag_ne]; subst hB2; exact ag_eq rfl
  have hb3 : ((h0.add (coV c.hs v)).add [ua, ub]).bl.get B3 = some (.cells [ua, ub] B3 false) := by subst hB3; exact ag_eq rfl
  have hk1 : Kp h0 ((h0.add (coV c.hs v)).add [ua, ub]) := Kp.refl.add.add
  have hn3 : B3 < ((h0.add (coV c.hs v)).add [ua, ub]).nx := by show B3 < h0.nx + 2; omega
  have h23 : B2 < B3 := by omega
  rw [← hB3, ← hB2]
  generalize (h0.add (coV c.hs v)).add [ua, ub] = H at hb2 hb3 hk1 hn3 ⊢
  clear hB2 hB3
  have yF := follow_y S hoff H v c (hc.mono hk1) hth ua ub a b (hua.mono hk1) (hub.mono hk1) hla
  rw [follow_eq] at yF
  repeat refine S.seq ?_
  refine S.region ?_
  simp (disch := first | omega | decide) only [rUz, ↓reduceIte, Nat.reduceEqDiff, Nat.reduceAdd, hb2, hb3, part_0 pB (coV_len c.hs v), pcU2]
  refine wr_brings (fid := 38) (first := #[]) (captured := #[]) (Post := fun u h => ∃ w l, u = .tuple ⟨[w, l, iv (askedZ c a b)]⟩ ∧ (askedZ c a b = 0 → FolAt H.nx h v c a b w l)) rfl (hoff _ _ _ rfl) (by simp (disch := first | omega | decide) only [rUz, ↓reduceIte, Nat.reduceEqDiff, Nat.reduceAdd]; exact yF) ?_
  rintro u g hkg ⟨w, l, rfl, hfo⟩
  clear yF
  have hkG := hk1.trans hkg
  simp (disch := first | omega | decide) only [rUz, ↓reduceIte, Nat.reduceEqDiff, Nat.reduceAdd, tr0, tr1, tr2]
  by_cases hz : askedZ c a b = 0
  rotate_left
  · have hd : (!decide (askedZ c a b = 0)) = true := by rw [decide_eq_false hz]; rfl
    have hf : wholeZ c a b day = askedZ c a b := if_neg hz
    rw [hf] at hK
    repeat refine S.seq ?_
    refine S.region ?_
    simp (disch := first | omega | decide) only [rUz, ↓reduceIte, Nat.reduceEqDiff, Nat.reduceAdd, hd]
    repeat refine S.seq ?_
    refine S.cond (v := true) rfl (fun _ => ?_) (fun e => by cases e)
    repeat refine S.seq ?_
    refine S.region ?_
    simp (disch := first | omega | decide) only [rUz, ↓reduceIte, Nat.reduceEqDiff, Nat.reduceAdd]
    refine S.ret ?_
    try simp only [seqK_ret, blockK_ret]
    subst hF
    simp only [finish, endMarks]
    rw [show Tryz.f19.results.toList = [.tmp 6, .tmp 7, .tmp 8] from rfl]
    simp (disch := first | omega | decide) only [resA, ev_tmp, tget_ne, tget_eq, get_ne, get_eq, upd_eq, upd_ne, ag_eq, ag_ne, result1]
    exact hK _ _ hkG ⟨_, _, rfl, fun e => absurd e hz, fun _ => ⟨rfl, rfl⟩⟩
  have hd : (!decide (askedZ c a b = 0)) = false := by rw [decide_eq_true hz]; rfl
  obtain ⟨Bw, r, B, rfl, rfl, hr, hBw, hB, hw, hcr⟩ := hfo hz
  obtain ⟨hz0, hdt⟩ := asked0 hz
  have hv := Val.of_fault hz0
  repeat refine S.seq ?_
  refine S.region ?_
  simp (disch := first | omega | decide) only [rUz, ↓reduceIte, Nat.reduceEqDiff, Nat.reduceAdd, hd]
  repeat refine S.seq ?_
  refine S.cond (v := false) rfl (fun e => by cases e) (fun _ => ?_)
  repeat refine S.seq ?_
  refine S.skip ?_
  simp (disch := first | omega | decide) only [rUz, ↓reduceIte, Nat.reduceEqDiff, Nat.reduceAdd]
  repeat refine S.seq ?_
  refine S.region ?_
  simp (disch := first | omega | decide) only [rUz, ↓reduceIte, Nat.reduceEqDiff, Nat.reduceAdd]
  refine wr_brings (fid := 34) (first := #[]) (captured := #[]) (Post := fun u h => u = .bool (inB day 0 11) ∧ h = g) rfl (hoff _ _ _ rfl) (by simp (disch := first | omega | decide) only [rUz, ↓reduceIte, Nat.reduceEqDiff, Nat.reduceAdd]; exact hasDay_y S _ day) ?_
  rintro u g1 - ⟨rfl, rfl⟩
  simp (disch := first | omega | decide) only [rUz, ↓reduceIte, Nat.reduceEqDiff, Nat.reduceAdd, un_not]
  cases hin : inB day 0 11 with
  | false =>
    have hf : wholeZ c a b day = 2 := by unfold wholeZ; rw [if_pos hz, hin]; rfl
    rw [hf] at hK
    repeat refine S.seq ?_
    refine S.cond (v := true) rfl (fun _ => ?_) (fun e => by cases e)
    repeat refine S.seq ?_
    refine S.region ?_
    simp (disch := first | omega | decide) only [rUz, ↓reduceIte, Nat.reduceEqDiff, Nat.reduceAdd]
    refine S.ret ?_
    try simp only [seqK_ret, blockK_ret]
    subst hF
    simp only [finish, endMarks]
    rw [show Tryz.f19.results.toList = [.tmp 6, .tmp 7, .tmp 8] from rfl]
    simp (disch := first | omega | decide) only [resA, ev_tmp, tget_ne, tget_eq, get_ne, get_eq, upd_eq, upd_ne, ag_eq, ag_ne, result1]
    exact hK _ _ hkG ⟨_, _, rfl, fun e => absurd e (by decide), fun _ => ⟨rfl, rfl⟩⟩
  | true =>
  have hf : wholeZ c a b day = 0 := by unfold wholeZ; rw [if_pos hz, hin]; rfl
  rw [hf] at hK
  repeat refine S.seq ?_
  refine S.cond (v := false) rfl (fun e => by cases e) (fun _ => ?_)
  repeat refine S.seq ?_
  refine S.skip ?_
  simp (disch := first | omega | decide) only [rUz, ↓reduceIte, Nat.reduceEqDiff, Nat.reduceAdd]
  have hl : a.length = c.tr.length ∧ b.length = c.tr.length := by
    have hx := hdt
    rw [datedB, Bool.and_eq_true] at hx
    exact lens_iff.1 hx.1
  have hdl := datesL_len (c := c) hl.1 hl.2
  have yR := registered_y S hoff g1 Bw r v c hw hv B (datesL c a b) hcr hdl day
  rw [hdl] at yR
  repeat refine S.seq ?_
  refine S.region ?_
  simp (disch := first | omega | decide) only [rUz, ↓reduceIte, Nat.reduceEqDiff, Nat.reduceAdd]
  refine wr_bringsX (fid := 45) (first := #[]) (captured := #[]) (Post := fun u h => u = .agg ⟨(holdP c (datesL c a b) day (byQ day)).map iv⟩ ∧ Fr g1 r h ∧ WAt h Bw r v c) rfl (hoff _ _ _ rfl) (by simp (disch := first | omega | decide) only [rUz, ↓reduceIte, Nat.reduceEqDiff, Nat.reduceAdd]; exact yR) ?_
  rintro u g2 ⟨rfl, hfr, hw2⟩
  have hk2 : Kp H g2 := (hkg.fr.trans hfr).kpl hr
  have hlen := holdP_len c (datesL c a b) day (byQ day)
  have hbd := holdP_bnd hv (datesL c a b) day (byQ day)
  have hLd : regL c a b day = (holdP c (datesL c a b) day (byQ day)).take c.held.length := rfl
  generalize holdP c (datesL c a b) day (byQ day) = L at hlen hbd hLd ⊢
  rw [hLd] at hK
  clear yR hLd
  simp (disch := first | omega | decide) only [rUz, ↓reduceIte, Nat.reduceEqDiff, Nat.reduceAdd, wr_alloc zH]
  refine wr_storeN (B := g2.nx) (c := [iv 0, iv 0, iv 0, iv 0]) (fam := g2.nx) (k := g2.nx) (l := L.map iv) (by simp (disch := first | omega | decide) only [rUz, ↓reduceIte, Nat.reduceEqDiff, Nat.reduceAdd]) (by simp (disch := first | omega | decide) only [rUz, ↓reduceIte, Nat.reduceEqDiff, Nat.reduceAdd]) sH (by omega) (by rw [List.length_map]; exact hlen) (ag_eq rfl) (af_eq rfl) rfl ?_
  obtain ⟨BA, hBA⟩ : ∃ x, x = g2.nx := ⟨_, rfl⟩
  have hk3 : Kp g2 ((g2.add [iv 0, iv 0, iv 0, iv 0]).upd g2.nx (L.map iv) g2.nx) := Kp.refl.add.upd (Nat.le_refl _)
  have hbA : ((g2.add [iv 0, iv 0, iv 0, iv 0]).upd g2.nx (L.map iv) g2.nx).bl.get BA = some (.cells (L.map iv) BA false) := by subst hBA; exact upd_eq _ _ _
  have hnA : BA < ((g2.add [iv 0, iv 0, iv 0, iv 0]).upd g2.nx (L.map iv) g2.nx).nx := by show BA < g2.nx + 1; omega
  simp (disch := first | omega | decide) only [rUz, ↓reduceIte, Nat.reduceEqDiff, Nat.reduceAdd]
  rw [← hBA]
  rw [← hBA] at hk3 hbA hnA
  generalize (g2.add [iv 0, iv 0, iv 0, iv 0]).upd BA (L.map iv) BA = G at hk3 hbA hnA ⊢
  clear hBA
  have hkH := hk2.trans hk3
  have hb2G := (hkH.get (by omega : B2 < H.nx)).trans hb2
  have hk0 := hk1.trans hkH
  have hh1 := hv.h1
  have hh4 := hv.h4
  have hhl := hv.held
  repeat refine S.seq ?_
  refine S.region ?_
  simp (disch := first | omega | decide) only [rUz, ↓reduceIte, Nat.reduceEqDiff, Nat.reduceAdd, hb2G, fieldAddr_ptr fB0 s3, p3, co0]
  refine optR_of' (sliceA (by simp (disch := first | omega | decide) only [rUz, ↓reduceIte, Nat.reduceEqDiff, Nat.reduceAdd]) hh1 hh4) ?_
  obtain ⟨n, hn⟩ : ∃ n, n = c.hs.toNat := ⟨_, rfl⟩
  rw [← hn]
  have hnh : c.held.length = n := by omega
  rw [hnh] at hK
  have hn4 : n ≤ 4 := by omega
  have lsl : ∀ (t : T Value) (h1 : AHeap) (o : Oper), rLen Tryz.prog t h1 o 22 (.slice (some ⟨BA, 0, none⟩) n 4) = some (iv (n : Int)) := fun t h1 o => len_sl isI
  simp (disch := first | omega | decide) only [rUz, ↓reduceIte, Nat.reduceEqDiff, Nat.reduceAdd, lsl]
  clear hn hb2G hfr hw2 hw hcr hdl hl hfo
  repeat refine S.seq ?_
  refine S.block ?_
  refine S.loop (ι := Nat) (IWx G L n (.slice (some ⟨BA, 0, none⟩) n 4)) (fun k => n - k) ?_ 0 _ _ ?_
  rotate_left
  · refine ⟨nl, nl, 0, 0, Kp.refl, ?_, ?_, ?_, ?_, ?_, Nat.zero_le _, ⟨.inl ⟨rfl, rfl⟩, .inl ⟨rfl, rfl⟩, fun e => absurd rfl e, fun e => absurd rfl e, fun e => absurd rfl e⟩⟩
    all_goals (first | rfl | (simp (disch := first | omega | decide) only [rUz, ↓reduceIte, Nat.reduceEqDiff, Nat.reduceAdd]; done) | (simp (disch := first | omega | decide) only [rUz, ↓reduceIte, Nat.reduceEqDiff, Nat.reduceAdd]; rfl))
  intro k t h ⟨v6, v7, F6, F7, hkp, t6, t7, t33, t34, t35, hk, htwo⟩ K' hn' he
  repeat refine S.seq ?_
  refine S.region ?_
  simp (disch := first | omega | decide) only [rUz, ↓reduceIte, Nat.reduceEqDiff, Nat.reduceAdd, t34, t35]
  repeat refine S.seq ?_
  refine S.cond (v := decide ((k : Int) < (n : Int))) (by first | rfl | (simp (disch := first | omega | decide) only [rUz, ↓reduceIte, Nat.reduceEqDiff, Nat.reduceAdd] <;> rfl)) (fun e => ?_) (fun e => ?_)
  rotate_left
  · have hkn : k = n := by have := of_decide_eq_false e; omega
    subst hkn
    refine S.exit (he _ _ _ _ (fun e => by cases e) ?_)
    simp (disch := first | omega | decide) only [rUz, ↓reduceIte, Nat.reduceEqDiff, Nat.reduceAdd]
    repeat refine S.seq ?_
    refine S.region ?_
    simp (disch := first | omega | decide) only [rUz, ↓reduceIte, Nat.reduceEqDiff, Nat.reduceAdd, t6, t7]
    refine S.ret ?_
    try simp only [seqK_ret, blockK_ret]
    subst hF
    simp only [finish, endMarks]
    rw [show Tryz.f19.results.toList = [.tmp 6, .tmp 7, .tmp 8] from rfl]
    simp (disch := first | omega | decide) only [resA, ev_tmp, tget_ne, tget_eq, get_ne, get_eq, upd_eq, upd_ne, ag_eq, ag_ne, result1]
    exact hK _ _ (hk0.trans hkp) ⟨_, _, rfl, fun _ => ⟨SlAt.ints htwo.x.at, SlAt.ints htwo.y.at⟩, fun e => absurd rfl e⟩
  have hkn : k < n := by have := of_decide_eq_true e; omega
  clear e
  have ia : rIndexAddr Tryz.prog 22 (.slice (some ⟨BA, 0, none⟩) n 4) (iv (k : Int)) = some (.pointer (some ⟨BA, k, none⟩)) := by
    rw [indexAddr_sl slI s3' hkn, Nat.zero_add, Nat.mul_one]
  have hbh := (hkp.get hnA).trans hbA
  have hkl : k < L.length := by omega
  have gx : (L.map iv)[k]? = some (iv L[k]) := by rw [List.getElem?_map, List.getElem?_eq_getElem hkl]; rfl
  have hx := hbd L[k] (List.getElem_mem hkl)
  have htk : L.take (k + 1) = L.take k ++ [L[k]] := by rw [List.take_add_one, List.getElem?_eq_getElem hkl]; rfl
  generalize L[k] = x at gx hx htk
  have hq := q720 hx.1 hx.2 (by omega)
  have hGh := hkp.1
  repeat refine S.seq ?_
  refine S.skip ?_
  simp (disch := first | omega | decide) only [rUz, ↓reduceIte, Nat.reduceEqDiff, Nat.reduceAdd]
  repeat refine S.seq ?_
  refine S.block ?_
  repeat refine S.seq ?_
  refine S.region ?_
  simp (disch := first | omega | decide) only [rUz, ↓reduceIte, Nat.reduceEqDiff, Nat.reduceAdd, t33, t35, ia, hbh, p3, gx]
  repeat refine S.seq ?_
  refine S.region ?_
  simp (disch := first | omega | decide) only [rUz, ↓reduceIte, Nat.reduceEqDiff, Nat.reduceAdd, t6]
  refine optR_of' (bin_quo (i := x) (j := 720) (by simp (disch := first | omega | decide) only [rUz, ↓reduceIte, Nat.reduceEqDiff, Nat.reduceAdd]) (by simp (disch := first | omega | decide) only [rUz, ↓reduceIte, Nat.reduceEqDiff, Nat.reduceAdd]) (by omega) (by omega) (by omega)) ?_
  simp (disch := first | omega | decide) only [rUz, ↓reduceIte, Nat.reduceEqDiff, Nat.reduceAdd, w_buildSlice, w_append]
  refine wr_lit1 slI s3' z3 rfl (by omega) (u := iv (x.tdiv 720)) (l := [iv (x.tdiv 720)]) (by simp (disch := first | omega | decide) only [rUz, ↓reduceIte, Nat.reduceEqDiff, Nat.reduceAdd]) rfl rfl ?_
  simp (disch := first | omega | decide) only [rUz, ↓reduceIte, Nat.reduceEqDiff, Nat.reduceAdd, w_append]
  refine wr_grown slI uI (v := v6) (bx := h.nx) (cx := 1) (by simp (disch := first | omega | decide) only [rUz, ↓reduceIte, Nat.reduceEqDiff, Nat.reduceAdd]) (by simp (disch := first | omega | decide) only [rUz, ↓reduceIte, Nat.reduceEqDiff, Nat.reduceAdd]) (htwo.mono Kp.refl.add).x (by show G.nx ≤ h.nx + 1; omega) s3' rfl (by omega) (ag_eq rfl) nI (by rw [List.length_map, shL, List.length_map, List.length_take]; show _ < 1000000; omega) ?_
  intro v6' h3 F6' g6
  have two3 := (htwo.mono Kp.refl.add).grow g6
  have hn3' := g6.sm.1
  have hkp3 : Kp G h3 := g6.sm.kp (Nat.le_refl _) hkp.add
  have hGh3 := hkp3.1
  simp (disch := first | omega | decide) only [rUz, ↓reduceIte, Nat.reduceEqDiff, Nat.reduceAdd]
  repeat refine S.seq ?_
  refine S.region ?_
  simp (disch := first | omega | decide) only [rUz, ↓reduceIte, Nat.reduceEqDiff, Nat.reduceAdd, t7]
  refine optR_of' (bin_rem (i := x) (j := 720) (by simp (disch := first | omega | decide) only [rUz, ↓reduceIte, Nat.reduceEqDiff, Nat.reduceAdd]) (by simp (disch := first | omega | decide) only [rUz, ↓reduceIte, Nat.reduceEqDiff, Nat.reduceAdd]) (by omega)) ?_
  simp (disch := first | omega | decide) only [rUz, ↓reduceIte, Nat.reduceEqDiff, Nat.reduceAdd, w_buildSlice, w_append]
  refine wr_lit1 slI s3' z3 rfl (by omega) (u := iv (x.tmod 720)) (l := [iv (x.tmod 720)]) (by simp (disch := first | omega | decide) only [rUz, ↓reduceIte, Nat.reduceEqDiff, Nat.reduceAdd]) rfl rfl ?_
  simp (disch := first | omega | decide) only [rUz, ↓reduceIte, Nat.reduceEqDiff, Nat.reduceAdd, w_append]
  refine wr_grown slI uI (v := v7) (bx := h3.nx) (cx := 1) (by simp (disch := first | omega | decide) only [rUz, ↓reduceIte, Nat.reduceEqDiff, Nat.reduceAdd]) (by simp (disch := first | omega | decide) only [rUz, ↓reduceIte, Nat.reduceEqDiff, Nat.reduceAdd]) (two3.mono Kp.refl.add).y (by show G.nx ≤ h3.nx + 1; omega) s3' rfl (by omega) (ag_eq rfl) nI (by rw [List.length_map, unL, List.length_map, List.length_take]; show _ < 1000000; omega) ?_
  intro v7' h5 F7' g7
  have two5 := ((two3.mono Kp.refl.add).symm.grow g7).symm
  simp (disch := first | omega | decide) only [rUz, ↓reduceIte, Nat.reduceEqDiff, Nat.reduceAdd]
  repeat refine S.seq ?_
  refine S.region ?_
  simp (disch := first | omega | decide) only [rUz, ↓reduceIte, Nat.reduceEqDiff, Nat.reduceAdd, t35]
  refine hn' (k + 1) _ _ (by omega) ⟨v6', v7', F6', F7', g7.sm.kp (Nat.le_refl _) hkp3.add, ?_, ?_, ?_, ?_, ?_, by omega, ?_⟩
  · simp (disch := first | omega | decide) only [rUz, ↓reduceIte, Nat.reduceEqDiff, Nat.reduceAdd]
  · simp (disch := first | omega | decide) only [rUz, ↓reduceIte, Nat.reduceEqDiff, Nat.reduceAdd]
  · simp (disch := first | omega | decide) only [rUz, ↓reduceIte, Nat.reduceEqDiff, Nat.reduceAdd, t33]
  · simp (disch := first | omega | decide) only [rUz, ↓reduceIte, Nat.reduceEqDiff, Nat.reduceAdd, t34]
  · simp (disch := first | omega | decide) only [rUz, ↓reduceIte, Nat.reduceEqDiff, Nat.reduceAdd]
  · rw [htk]
    simpa only [shL, unL, List.map_append, List.map_cons, List.map_nil] using two5
end Go.Proofs.Cp
