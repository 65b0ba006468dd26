import Derived.Test.YtfbkgnojdngiiaaMhH
/- MarginPlays. -/
namespace Go.Proofs.Mg
open Go Go.Ev Go.RowKit
set_option linter.unusedSimpArgs false
variable {pr : Prim} {R : ExT}
structure IPl (B2 B3 : Nat) (n : Nat) (xv yv : Value) (H : AHeap) (k : Nat) (t : T Value) (h : AHeap) : Prop where
  kp : Kp H h
  t2 : tget t 2 = ptr0 B2
  t3 : tget t 3 = ptr0 B3
  t5 : tget t 5 = xv
  t6 : tget t 6 = yv
  t9 : tget t 9 = iv (k : Int)
  hk : k ≤ n
set_option maxRecDepth 100000 in
set_option maxHeartbeats 32000000 in
theorem plays_law (S : Ev.Steps Try.prog pr R) (hT : Tab pr) (h0 : AHeap) (st : Int) (dv lv pv rv : Value) (D : List PD) (L : List PL) (Ts : List PT) (rt : List Int) (hb : BkAt h0 dv lv D L) (hs : ∀ x, x ∈ L → IS h0 x.1 x.2.2.2) (ht : TuAt h0 pv rv Ts rt) (hr : IS h0 rv rt) (hts : ∀ x, x ∈ Ts → IS h0 x.1 x.2) :
    Brings Try.prog R 6 [.agg ⟨bkV st dv lv⟩, .agg ⟨tuV pv rv⟩] h0 fun u _ => u = .bool true := by
  have hoff := hT.off
  refine brings_of (fn := Try.f6) (c := (Try.f6.body).getD .skip) (by kernel_rfl) rfl (by kernel_rfl) rfl (fun K hK => ?_)
  generalize hF : finish Try.prog Try.f6 K = KF
  simp only [Try.f6, Option.getD_some, argsT, setArgs, fV1_eq, T.setK_eq, id]
  have hKr : ∀ g, Kp h0 g → K (.bool true) g = true := fun g hk => hK _ _ hk rfl
  clear hK
  have awake : ∀ {ops : Array Oper} {n : Nat} {rest : List Oper} {t : T Value} {h : AHeap} {KR : T Value → AHeap → Bool} {dst : Option Tmp}, putR Try.prog (withPrim pr (callVal Try.prog R)) ops n rest dst t (.bool true) h KR = true →
      wrR Try.prog (withPrim pr (callVal Try.prog R)) ops n rest (.call ⟨.value (.func 9), #[], #[]⟩) dst t h KR = true := fun k => wr_prim (fid := 9) (first := #[]) (captured := #[]) (v := .bool true) rfl (hT.awake _) k
  have lN : ∀ t h1 o, rLen Try.prog t h1 o 50 nl = some (iv 0) := fun t h1 o => row_len (h := h0) (n := 1) (l := ([] : List PT)) (cv := cT) (.inl ⟨rfl, .inl rfl⟩) isII t h1 o
  have hd2 : decide ((2 : Int) = 0) = false := rfl
  have hd0 : decide ((0 : Int) + 0 = 0) = true := rfl
  have tp0 : ∀ a b c : Value, (⟨[a, b, c]⟩ : Array Value)[0]? = some a := fun _ _ _ => rfl
  have tp1 : ∀ a b c : Value, (⟨[a, b, c]⟩ : Array Value)[1]? = some b := fun _ _ _ => rfl
  have tp2 : ∀ a b c : Value, (⟨[a, b, c]⟩ : Array Value)[2]? = some c := fun _ _ _ => rfl
  have hdd : ∀ z : Int, decide (z = z) = true := fun z => decide_eq_true rfl
  repeat refine S.seq ?_
  refine S.region ?_
  simp (disch := first | omega | (simp only [add_nx, upd_nx] <;> omega) | decide) only [rUz, ↓reduceIte, Nat.reduceEqDiff, Nat.reduceAdd]
  obtain ⟨B2, hB2⟩ : ∃ x, x = h0.nx := ⟨_, rfl⟩
  obtain ⟨B3, hB3⟩ : ∃ x, x = h0.nx + 1 := ⟨_, rfl⟩
  have hb2 : ((h0.add (bkV st dv lv)).add (tuV pv rv)).bl.get B2 = some (.cells (bkV st dv lv) B2 false) := by rw [ag_ne (by show B2 ≠ h0.nx + 1; omega)]; subst hB2; exact ag_eq rfl
  have hb3 : ((h0.add (bkV st dv lv)).add (tuV pv rv)).bl.get B3 = some (.cells (tuV pv rv) B3 false) := by subst hB3; exact ag_eq rfl
  have hk1 : Kp h0 ((h0.add (bkV st dv lv)).add (tuV pv rv)) := Kp.refl.add.add
  have hn2 : B2 < ((h0.add (bkV st dv lv)).add (tuV pv rv)).nx := by show B2 < h0.nx + 2; omega
  have hn3 : B3 < ((h0.add (bkV st dv lv)).add (tuV pv rv)).nx := by show B3 < h0.nx + 2; omega
  rw [← hB3, ← hB2]
  clear hB2 hB3
  generalize (h0.add (bkV st dv lv)).add (tuV pv rv) = H at hb2 hb3 hk1 hn2 hn3 ⊢
  repeat refine S.seq ?_
  refine S.region ?_
  simp (disch := first | omega | (simp only [add_nx, upd_nx] <;> omega) | decide) only [rUz, ↓reduceIte, Nat.reduceEqDiff, Nat.reduceAdd, hb2, hb3, part_0 pA (bkV_len st dv lv), part_0 prU (tuV_len pv rv)]
  refine wr_brings (fid := 25) (first := #[]) (captured := #[]) (Post := fun u _ => u = .bool (thinB D L Ts rt)) rfl (hoff _ _ _ rfl) (by simp (disch := first | omega | (simp only [add_nx, upd_nx] <;> omega) | decide) only [rUz, ↓reduceIte, Nat.reduceEqDiff, Nat.reduceAdd]; exact thin_y S H st dv lv pv rv D L Ts rt (hb.mono hk1) (ht.mono hk1)) ?_
  rintro u g hkg rfl
  replace hb2 := (hkg.get hn2).trans hb2
  replace hb3 := (hkg.get hn3).trans hb3
  replace hn2 : B2 < g.nx := Nat.lt_of_lt_of_le hn2 hkg.1
  replace hn3 : B3 < g.nx := Nat.lt_of_lt_of_le hn3 hkg.1
  replace hk1 := hk1.trans hkg
  clear hkg
  cases hth : thinB D L Ts rt with
  | false =>
    simp (disch := first | omega | (simp only [add_nx, upd_nx] <;> omega) | decide) only [rUz, ↓reduceIte, Nat.reduceEqDiff, Nat.reduceAdd, un_not, hth, Bool.not_false]
    repeat refine S.seq ?_
    refine S.cond (v := true) (by first | rfl | (simp (disch := first | omega | (simp only [add_nx, upd_nx] <;> omega) | decide) only [rUz, ↓reduceIte, Nat.reduceEqDiff, Nat.reduceAdd] <;> rfl)) (fun _ => ?_) (fun e => by cases e)
    repeat refine S.seq ?_
    refine S.region ?_
    simp (disch := first | omega | (simp only [add_nx, upd_nx] <;> omega) | decide) only [rUz, ↓reduceIte, Nat.reduceEqDiff, Nat.reduceAdd]
    refine awake ?_
    simp (disch := first | omega | (simp only [add_nx, upd_nx] <;> omega) | decide) only [rUz, ↓reduceIte, Nat.reduceEqDiff, Nat.reduceAdd]
    refine S.ret ?_
    try simp only [seqK_ret, blockK_ret]
    subst hF
    simp only [finish, endMarks]
    rw [show Try.f6.results.toList = [.tmp 4] from rfl]
    simp (disch := first | omega | (simp only [add_nx, upd_nx] <;> omega) | decide) only [resA, ev_tmp, tget_ne, tget_eq, get_ne, get_eq, upd_eq, upd_ne, ag_eq, ag_ne, result1]
    exact hKr _ hk1
  | true =>
  have h7 := thin7 hth
  simp (disch := first | omega | (simp only [add_nx, upd_nx] <;> omega) | decide) only [rUz, ↓reduceIte, Nat.reduceEqDiff, Nat.reduceAdd, un_not, hth, Bool.not_true]
  repeat refine S.seq ?_
  refine S.cond (v := false) (by first | rfl | (simp (disch := first | omega | (simp only [add_nx, upd_nx] <;> omega) | decide) only [rUz, ↓reduceIte, Nat.reduceEqDiff, Nat.reduceAdd] <;> rfl)) (fun e => by cases e) (fun _ => ?_)
  repeat refine S.seq ?_
  refine S.skip ?_
  simp (disch := first | omega | (simp only [add_nx, upd_nx] <;> omega) | decide) only [rUz, ↓reduceIte, Nat.reduceEqDiff, Nat.reduceAdd]
  repeat refine S.seq ?_
  refine S.drawnL [(false, 0), (true, 1), (false, 0), (true, 7), (true, 15), (false, 31), (false, 63), (false, 63), (false, 63), (false, 127), (false, 767), (false, 2047)] (by kernel_rfl) (by kernel_rfl) (by kernel_rfl) ?_
  simp (disch := first | omega | (simp only [add_nx, upd_nx] <;> omega) | decide) only [rUz, ↓reduceIte, Nat.reduceEqDiff, Nat.reduceAdd, rDz, infoL, Nat.reduceSub, draw_read2, hb2, hb3, part_0 pA (bkV_len st dv lv), part_0 prU (tuV_len pv rv)]
  refine drW_brings (fid := 26) (first := #[]) (captured := #[]) (Post := fun u h => BkAs st D L u h) rfl (hoff _ _ _ rfl) (by simp (disch := first | omega | (simp only [add_nx, upd_nx] <;> omega) | decide) only [rUz, ↓reduceIte, Nat.reduceEqDiff, Nat.reduceAdd]; exact bankC_y S hoff g st dv lv D L (hb.mono hk1) (fun x hx => SlAt.mono (hs x hx) hk1) h7.d h7.l h7.dd h7.ll) (Nat.le_of_ble_eq_true rfl) ?_
  rintro u g1 hkg1 ⟨dv1, lv1, D1, L1, rfl, hb1, hD1, hL1⟩
  have hb2a := (hkg1.get hn2).trans hb2
  have hb3a := (hkg1.get hn3).trans hb3
  have hk2 := hk1.trans hkg1
  refine ⟨?_, ?_⟩
  · try simp (disch := first | decide | rfl) only [again_nil, again_skip, again_free]
    rw [again_same (v := .agg ⟨tuV pv rv⟩) (by simp (disch := first | omega | (simp only [add_nx, upd_nx] <;> omega) | decide) only [rUz, ↓reduceIte, Nat.reduceEqDiff, Nat.reduceAdd, rDz, infoL, Nat.reduceSub, hb3a, part_0 prU (tuV_len pv rv)]) (veq_tu ht)]
    try simp (disch := first | decide | rfl) only [again_nil, again_skip, again_free]
  simp (disch := first | omega | (simp only [add_nx, upd_nx] <;> omega) | decide) only [rUz, ↓reduceIte, Nat.reduceEqDiff, Nat.reduceAdd, rDz, infoL, Nat.reduceSub]
  refine drW_brings (fid := 27) (first := #[]) (captured := #[]) (Post := fun u h => TruAs Ts rt u h) rfl (hoff _ _ _ rfl) (by simp (disch := first | omega | (simp only [add_nx, upd_nx] <;> omega) | decide) only [rUz, ↓reduceIte, Nat.reduceEqDiff, Nat.reduceAdd]; exact truthC_y S hoff g1 pv rv Ts rt (ht.mono hk2) (SlAt.mono hr hk2) (fun x hx => SlAt.mono (hts x hx) hk2) h7.t h7.r h7.tt) (Nat.le_of_ble_eq_true rfl) ?_
  rintro u g2 hkg2 ⟨pv2, rv2, T2, rfl, ht2, hT2⟩
  refine ⟨?_, ?_⟩
  · try simp (disch := first | decide | rfl) only [again_nil, again_skip, again_free]
  simp (disch := first | omega | (simp only [add_nx, upd_nx] <;> omega) | decide) only [rUz, ↓reduceIte, Nat.reduceEqDiff, Nat.reduceAdd, rDz, infoL, Nat.reduceSub]
  have hk3 := hk2.trans hkg2
  have hdd1 : ∀ x, x ∈ D1 → (x.2.1.length : Int) ≤ 7 := map_all (P := fun y => (y.1.length : Int) ≤ 7) hD1 h7.dd
  have hll1 : ∀ x, x ∈ L1 → (x.2.2.2.length : Int) ≤ 7 := map_all (P := fun y => (y.2.2.length : Int) ≤ 7) hL1 h7.ll
  refine drW_brings (fid := 21) (first := #[]) (captured := #[]) (Post := fun u h => PlayAt st D1 L1 T2 rt u h) rfl (hoff _ _ _ rfl) (by simp (disch := first | omega | (simp only [add_nx, upd_nx] <;> omega) | decide) only [rUz, ↓reduceIte, Nat.reduceEqDiff, Nat.reduceAdd]; exact play_y S hoff g2 st dv1 lv1 pv2 rv2 D1 L1 T2 rt (hb1.mono hkg2) ht2 (by rw [map_len hD1]; exact h7.d) (by rw [map_len hL1]; exact h7.l) hdd1 hll1) (Nat.le_of_ble_eq_true rfl) ?_
  rintro u g3 hkg3 hpl
  refine ⟨?_, ?_⟩
  · try simp (disch := first | decide | rfl) only [again_nil, again_skip, again_free]
  have hk4 := hk3.trans hkg3
  have hkg13 := (hkg1.trans hkg2).trans hkg3
  replace hb2 := (hkg13.get hn2).trans hb2
  replace hb3 := (hkg13.get hn3).trans hb3
  replace hn2 : B2 < g3.nx := Nat.lt_of_lt_of_le hn2 hkg13.1
  replace hn3 : B3 < g3.nx := Nat.lt_of_lt_of_le hn3 hkg13.1
  unfold PlayAt at hpl
  rw [faultT_congr hD1 hL1 hT2, debts_congr hL1 hT2, calls_congr hL1 hT2, map_len hD1] at hpl
  clear hb2a hb3a hkg1 hkg2 hkg3 hkg13 hb1 ht2 hdd1 hll1 hD1 hL1 hT2 hk2 hk3
  obtain ⟨w1, w2, hu, hpq⟩ : ∃ w1 w2, u = .tuple ⟨[w1, w2, iv (faultT st D L Ts rt)]⟩ ∧ ((faultT st D L Ts rt = 0 ∧ ∃ (XL CL : List PT), SlAt g3 1 w1 (XL.map cT) ∧ SlAt g3 1 w2 (CL.map cT) ∧ (∀ y, y ∈ XL → IAt g3 y.1 y.2) ∧ (∀ y, y ∈ CL → IAt g3 y.1 y.2) ∧ (XL.map fun y => y.2) = L.map (debtsOf D.length Ts rt) ∧ (CL.map fun y => y.2) = L.map (callsOf D.length Ts rt)) ∨ (faultT st D L Ts rt ≠ 0 ∧ w1 = nl ∧ w2 = nl)) := by
    rcases hpl with ⟨hz, XL, CL, xv, yv, rfl, h⟩ | ⟨hz, rfl⟩
    · exact ⟨xv, yv, by rw [hz], .inl ⟨hz, XL, CL, h⟩⟩
    · exact ⟨nl, nl, rfl, .inr ⟨hz, rfl, rfl⟩⟩
  clear hpl
  subst hu
  simp (disch := first | omega | (simp only [add_nx, upd_nx] <;> omega) | decide) only [rUz, ↓reduceIte, Nat.reduceEqDiff, Nat.reduceAdd, rDz, infoL, Nat.reduceSub, tp0, tp1, tp2]
  repeat refine S.seq ?_
  refine S.region ?_
  simp (disch := first | omega | (simp only [add_nx, upd_nx] <;> omega) | decide) only [rUz, ↓reduceIte, Nat.reduceEqDiff, Nat.reduceAdd, hb2, part_0 pA (bkV_len st dv lv)]
  refine wr_brings (fid := 28) (first := #[]) (captured := #[]) (Post := fun u _ => u = iv (faultZ st D L)) rfl (hoff _ _ _ rfl) (by simp (disch := first | omega | (simp only [add_nx, upd_nx] <;> omega) | decide) only [rUz, ↓reduceIte, Nat.reduceEqDiff, Nat.reduceAdd]; exact faultw_y S hoff g3 st dv lv D L (hb.mono hk4)) ?_
  rintro u g4 hkg4 rfl
  have hk5 := hk4.trans hkg4
  have hb2b := (hkg4.get hn2).trans hb2
  simp (disch := first | omega | (simp only [add_nx, upd_nx] <;> omega) | decide) only [rUz, ↓reduceIte, Nat.reduceEqDiff, Nat.reduceAdd]
  repeat refine S.seq ?_
  refine S.region ?_
  simp (disch := first | omega | (simp only [add_nx, upd_nx] <;> omega) | decide) only [rUz, ↓reduceIte, Nat.reduceEqDiff, Nat.reduceAdd, hb2b, part_0 pA (bkV_len st dv lv)]
  refine wr_brings (fid := 26) (first := #[]) (captured := #[]) (Post := fun u h => BkAs st D L u h) rfl (hoff _ _ _ rfl) (by simp (disch := first | omega | (simp only [add_nx, upd_nx] <;> omega) | decide) only [rUz, ↓reduceIte, Nat.reduceEqDiff, Nat.reduceAdd]; exact bankC_y S hoff g4 st dv lv D L (hb.mono hk5) (fun x hx => SlAt.mono (hs x hx) hk5) h7.d h7.l h7.dd h7.ll) ?_
  rintro u g5 hkg5 ⟨dv1, lv1, D1, L1, rfl, hb1, hD1, hL1⟩
  have hdd1 : ∀ x, x ∈ D1 → (x.2.1.length : Int) ≤ 7 := map_all (P := fun y => (y.1.length : Int) ≤ 7) hD1 h7.dd
  have hll1 : ∀ x, x ∈ L1 → (x.2.2.2.length : Int) ≤ 7 := map_all (P := fun y => (y.2.2.length : Int) ≤ 7) hL1 h7.ll
  simp (disch := first | omega | (simp only [add_nx, upd_nx] <;> omega) | decide) only [rUz, ↓reduceIte, Nat.reduceEqDiff, Nat.reduceAdd]
  refine wr_brings (fid := 24) (first := #[]) (captured := #[]) (Post := fun u _ => u = iv (faultZ st D L)) rfl (hoff _ _ _ rfl) (by simp (disch := first | omega | (simp only [add_nx, upd_nx] <;> omega) | decide) only [rUz, ↓reduceIte, Nat.reduceEqDiff, Nat.reduceAdd]; exact (by rw [← fault_congr hD1 hL1]; exact checkBank_y S hoff g5 st dv1 lv1 D1 L1 hb1 (by rw [map_len hD1]; exact h7.d) (by rw [map_len hL1]; exact h7.l) hdd1 hll1)) ?_
  rintro u g6 hkg6 rfl
  have hkg36 := (hkg4.trans hkg5).trans hkg6
  replace hb2 := (hkg36.get hn2).trans hb2
  replace hb3 := (hkg36.get hn3).trans hb3
  replace hn2 : B2 < g6.nx := Nat.lt_of_lt_of_le hn2 hkg36.1
  replace hn3 : B3 < g6.nx := Nat.lt_of_lt_of_le hn3 hkg36.1
  have hk6 := hk4.trans hkg36
  clear hb1 hD1 hL1 hdd1 hll1 hkg4 hkg5 hkg6 hb2b hk5
  simp (disch := first | omega | (simp only [add_nx, upd_nx] <;> omega) | decide) only [rUz, ↓reduceIte, Nat.reduceEqDiff, Nat.reduceAdd, hdd, Bool.not_true]
  repeat refine S.seq ?_
  refine S.cond (v := false) (by first | rfl | (simp (disch := first | omega | (simp only [add_nx, upd_nx] <;> omega) | decide) only [rUz, ↓reduceIte, Nat.reduceEqDiff, Nat.reduceAdd] <;> rfl)) (fun e => by cases e) (fun _ => ?_)
  repeat refine S.seq ?_
  refine S.skip ?_
  simp (disch := first | omega | (simp only [add_nx, upd_nx] <;> omega) | decide) only [rUz, ↓reduceIte, Nat.reduceEqDiff, Nat.reduceAdd]
  by_cases hz : faultZ st D L = 0
  rotate_left
  · have hd : decide (faultZ st D L = 0) = false := decide_eq_false hz
    have hfT : faultT st D L Ts rt = faultZ st D L := by rw [faultT, hd]; rfl
    rcases hpq with ⟨he, _⟩ | ⟨_, rfl, rfl⟩
    · exact absurd (hfT ▸ he) hz
    repeat refine S.seq ?_
    refine S.region ?_
    simp (disch := first | omega | (simp only [add_nx, upd_nx] <;> omega) | decide) only [rUz, ↓reduceIte, Nat.reduceEqDiff, Nat.reduceAdd, hd, Bool.not_false]
    repeat refine S.seq ?_
    refine S.cond (v := false) (by first | rfl | (simp (disch := first | omega | (simp only [add_nx, upd_nx] <;> omega) | decide) only [rUz, ↓reduceIte, Nat.reduceEqDiff, Nat.reduceAdd] <;> rfl)) (fun e => by cases e) (fun _ => ?_)
    repeat refine S.seq ?_
    refine S.skip ?_
    simp (disch := first | omega | (simp only [add_nx, upd_nx] <;> omega) | decide) only [rUz, ↓reduceIte, Nat.reduceEqDiff, Nat.reduceAdd]
    repeat refine S.seq ?_
    refine S.region ?_
    simp (disch := first | omega | (simp only [add_nx, upd_nx] <;> omega) | decide) only [rUz, ↓reduceIte, Nat.reduceEqDiff, Nat.reduceAdd, hd, Bool.not_false]
    repeat refine S.seq ?_
    refine S.cond (v := true) (by first | rfl | (simp (disch := first | omega | (simp only [add_nx, upd_nx] <;> omega) | decide) only [rUz, ↓reduceIte, Nat.reduceEqDiff, Nat.reduceAdd] <;> rfl)) (fun _ => ?_) (fun e => by cases e)
    repeat refine S.seq ?_
    refine S.region ?_
    simp (disch := first | omega | (simp only [add_nx, upd_nx] <;> omega) | decide) only [rUz, ↓reduceIte, Nat.reduceEqDiff, Nat.reduceAdd, hfT, hdd, lN, hd0]
    refine awake ?_
    simp (disch := first | omega | (simp only [add_nx, upd_nx] <;> omega) | decide) only [rUz, ↓reduceIte, Nat.reduceEqDiff, Nat.reduceAdd]
    refine S.ret ?_
    try simp only [seqK_ret, blockK_ret]
    subst hF
    simp only [finish, endMarks]
    rw [show Try.f6.results.toList = [.tmp 4] from rfl]
    simp (disch := first | omega | (simp only [add_nx, upd_nx] <;> omega) | decide) only [resA, ev_tmp, tget_ne, tget_eq, get_ne, get_eq, upd_eq, upd_ne, ag_eq, ag_ne, result1]
    exact hKr _ hk6
  have hd : decide (faultZ st D L = 0) = true := decide_eq_true hz
  have hv := val_iff.1 hz
  repeat refine S.seq ?_
  refine S.region ?_
  simp (disch := first | omega | (simp only [add_nx, upd_nx] <;> omega) | decide) only [rUz, ↓reduceIte, Nat.reduceEqDiff, Nat.reduceAdd, hd, hb2, hb3, part_0 pA (bkV_len st dv lv), part_0 prU (tuV_len pv rv)]
  refine wr_brings (fid := 29) (first := #[]) (captured := #[]) (Post := fun u _ => u = .bool (truthB st D Ts rt)) rfl (hoff _ _ _ rfl) (by simp (disch := first | omega | (simp only [add_nx, upd_nx] <;> omega) | decide) only [rUz, ↓reduceIte, Nat.reduceEqDiff, Nat.reduceAdd]; exact isTruth_y S hoff g6 st dv lv pv rv D L Ts rt (hb.mono hk6) (ht.mono hk6) hv) ?_
  rintro u g7 hkg7 rfl
  replace hb2 := (hkg7.get hn2).trans hb2
  replace hb3 := (hkg7.get hn3).trans hb3
  replace hn2 : B2 < g7.nx := Nat.lt_of_lt_of_le hn2 hkg7.1
  replace hn3 : B3 < g7.nx := Nat.lt_of_lt_of_le hn3 hkg7.1
  have hk7 := hk6.trans hkg7
  have hkp := hkg36.trans hkg7
  clear hkg7 hkg36 hk6
  cases htr : truthB st D Ts rt with
  | false =>
    have hfT : faultT st D L Ts rt = 2 := by rw [faultT, hd, htr]; rfl
    rcases hpq with ⟨he, _⟩ | ⟨_, rfl, rfl⟩
    · omega
    simp (disch := first | omega | (simp only [add_nx, upd_nx] <;> omega) | decide) only [rUz, ↓reduceIte, Nat.reduceEqDiff, Nat.reduceAdd, un_not, htr, Bool.not_false]
    repeat refine S.seq ?_
    refine S.cond (v := true) (by first | rfl | (simp (disch := first | omega | (simp only [add_nx, upd_nx] <;> omega) | decide) only [rUz, ↓reduceIte, Nat.reduceEqDiff, Nat.reduceAdd] <;> rfl)) (fun _ => ?_) (fun e => by cases e)
    repeat refine S.seq ?_
    refine S.region ?_
    simp (disch := first | omega | (simp only [add_nx, upd_nx] <;> omega) | decide) only [rUz, ↓reduceIte, Nat.reduceEqDiff, Nat.reduceAdd]
    repeat refine S.seq ?_
    refine S.region ?_
    simp (disch := first | omega | (simp only [add_nx, upd_nx] <;> omega) | decide) only [rUz, ↓reduceIte, Nat.reduceEqDiff, Nat.reduceAdd, hd2, Bool.not_false]
    repeat refine S.seq ?_
    refine S.cond (v := true) (by first | rfl | (simp (disch := first | omega | (simp only [add_nx, upd_nx] <;> omega) | decide) only [rUz, ↓reduceIte, Nat.reduceEqDiff, Nat.reduceAdd] <;> rfl)) (fun _ => ?_) (fun e => by cases e)
    repeat refine S.seq ?_
    refine S.region ?_
    simp (disch := first | omega | (simp only [add_nx, upd_nx] <;> omega) | decide) only [rUz, ↓reduceIte, Nat.reduceEqDiff, Nat.reduceAdd, hfT, hdd, lN, hd0]
    refine awake ?_
    simp (disch := first | omega | (simp only [add_nx, upd_nx] <;> omega) | decide) only [rUz, ↓reduceIte, Nat.reduceEqDiff, Nat.reduceAdd]
    refine S.ret ?_
    try simp only [seqK_ret, blockK_ret]
    subst hF
    simp only [finish, endMarks]
    rw [show Try.f6.results.toList = [.tmp 4] from rfl]
    simp (disch := first | omega | (simp only [add_nx, upd_nx] <;> omega) | decide) only [resA, ev_tmp, tget_ne, tget_eq, get_ne, get_eq, upd_eq, upd_ne, ag_eq, ag_ne, result1]
    exact hKr _ hk7
  | true =>
  have hfT : faultT st D L Ts rt = 0 := by rw [faultT, hd, htr]; rfl
  rcases hpq with ⟨_, XL, CL, sX, sY, aX, aY, hX, hC⟩ | ⟨he, _⟩
  rotate_left
  · exact absurd hfT he
  simp (disch := first | omega | (simp only [add_nx, upd_nx] <;> omega) | decide) only [rUz, ↓reduceIte, Nat.reduceEqDiff, Nat.reduceAdd, un_not, htr, Bool.not_true]
  repeat refine S.seq ?_
  refine S.cond (v := false) (by first | rfl | (simp (disch := first | omega | (simp only [add_nx, upd_nx] <;> omega) | decide) only [rUz, ↓reduceIte, Nat.reduceEqDiff, Nat.reduceAdd] <;> rfl)) (fun e => by cases e) (fun _ => ?_)
  repeat refine S.seq ?_
  refine S.skip ?_
  simp (disch := first | omega | (simp only [add_nx, upd_nx] <;> omega) | decide) only [rUz, ↓reduceIte, Nat.reduceEqDiff, Nat.reduceAdd]
  rw [hz]
  repeat refine S.seq ?_
  refine S.region ?_
  simp (disch := first | omega | (simp only [add_nx, upd_nx] <;> omega) | decide) only [rUz, ↓reduceIte, Nat.reduceEqDiff, Nat.reduceAdd, hdd, Bool.not_true]
  repeat refine S.seq ?_
  refine S.cond (v := false) (by first | rfl | (simp (disch := first | omega | (simp only [add_nx, upd_nx] <;> omega) | decide) only [rUz, ↓reduceIte, Nat.reduceEqDiff, Nat.reduceAdd] <;> rfl)) (fun e => by cases e) (fun _ => ?_)
  repeat refine S.seq ?_
  refine S.skip ?_
  simp (disch := first | omega | (simp only [add_nx, upd_nx] <;> omega) | decide) only [rUz, ↓reduceIte, Nat.reduceEqDiff, Nat.reduceAdd]
  have htru := tru_of hv htr
  clear hz hd htr
  have hXl : XL.length = L.length := by
    have := congrArg List.length hX
    rwa [List.length_map, List.length_map] at this
  have hCl : CL.length = L.length := by
    have := congrArg List.length hC
    rwa [List.length_map, List.length_map] at this
  have lX : ∀ t h1 o, rLen Try.prog t h1 o 50 w1 = some (iv (L.length : Int)) := fun t h1 o => by rw [← hXl]; exact row_len sX isII t h1 o
  have lC : ∀ t h1 o, rLen Try.prog t h1 o 50 w2 = some (iv (L.length : Int)) := fun t h1 o => by rw [← hCl]; exact row_len sY isII t h1 o
  have lL := fun t h1 o => row_len hb.ln isrL t h1 o
  replace sX := SlAt.mono sX hkp
  replace sY := SlAt.mono sY hkp
  replace aX := fun y hy => (aX y hy).mono hkp
  replace aY := fun y hy => (aY y hy).mono hkp
  clear hkp hCl
  have hl7 := h7.l
  have hd4 := hv.d4
  repeat refine S.seq ?_
  refine S.region ?_
  simp (disch := first | omega | (simp only [add_nx, upd_nx] <;> omega) | decide) only [rUz, ↓reduceIte, Nat.reduceEqDiff, Nat.reduceAdd, hfT, hdd, decide_true, Bool.not_true, lX, lC, lL, hb2, fieldAddr_ptr fA2 lrL, qrL, bk2]
  repeat refine S.seq ?_
  refine S.cond (v := false) (by first | rfl | (simp (disch := first | omega | (simp only [add_nx, upd_nx] <;> omega) | decide) only [rUz, ↓reduceIte, Nat.reduceEqDiff, Nat.reduceAdd] <;> rfl)) (fun e => by cases e) (fun _ => ?_)
  repeat refine S.seq ?_
  refine S.skip ?_
  simp (disch := first | omega | (simp only [add_nx, upd_nx] <;> omega) | decide) only [rUz, ↓reduceIte, Nat.reduceEqDiff, Nat.reduceAdd]
  repeat refine S.seq ?_
  refine S.region ?_
  simp (disch := first | omega | (simp only [add_nx, upd_nx] <;> omega) | decide) only [rUz, ↓reduceIte, Nat.reduceEqDiff, Nat.reduceAdd]
  repeat refine S.seq ?_
  refine S.block ?_
  refine S.loop (ι := Nat) (IPl B2 B3 L.length w1 w2 g7) (fun k => L.length - k) ?_ 0 _ _ ?_
  rotate_left
  · refine ⟨Kp.refl, ?_, ?_, ?_, ?_, ?_, Nat.zero_le _⟩
    all_goals (first | rfl | (simp (disch := first | omega | (simp only [add_nx, upd_nx] <;> omega) | decide) only [rUz, ↓reduceIte, Nat.reduceEqDiff, Nat.reduceAdd]; done) | (simp (disch := first | omega | (simp only [add_nx, upd_nx] <;> omega) | decide) only [rUz, ↓reduceIte, Nat.reduceEqDiff, Nat.reduceAdd]; rfl))
  intro k t h ⟨kp, t2, t3, t5, t6, t9, hk⟩ K' hn he
  repeat refine S.seq ?_
  refine S.region ?_
  simp (disch := first | omega | (simp only [add_nx, upd_nx] <;> omega) | decide) only [rUz, ↓reduceIte, Nat.reduceEqDiff, Nat.reduceAdd, t5, t9, lX]
  repeat refine S.seq ?_
  refine S.cond (v := decide ((k : Int) < (L.length : Int))) (by first | rfl | (simp (disch := first | omega | (simp only [add_nx, upd_nx] <;> omega) | decide) only [rUz, ↓reduceIte, Nat.reduceEqDiff, Nat.reduceAdd] <;> rfl)) (fun e => ?_) (fun e => ?_)
  · have hkn : k < L.length := by have := of_decide_eq_true e; omega
    clear e
    have hps : L[k]? = some L[k] := List.getElem?_eq_getElem hkn
    have hx1 : (XL.map fun y => y.2)[k]? = some (debtsOf D.length Ts rt L[k]) := by rw [hX, List.getElem?_map, hps]; rfl
    have hc1 : (CL.map fun y => y.2)[k]? = some (callsOf D.length Ts rt L[k]) := by rw [hC, List.getElem?_map, hps]; rfl
    rw [List.getElem?_map] at hx1 hc1
    obtain ⟨yX, hyX, eX⟩ := Option.map_eq_some_iff.1 hx1
    obtain ⟨yC, hyC, eC⟩ := Option.map_eq_some_iff.1 hc1
    have iX := aX yX (List.mem_of_getElem? hyX)
    have iC := aY yC (List.mem_of_getElem? hyC)
    rw [eX] at iX
    rw [eC] at iC
    generalize L[k] = x at hps iX iC
    have hb2h := (kp.get hn2).trans hb2
    have hb3h := (kp.get hn3).trans hb3
    have hkh := hk7.trans kp
    repeat refine S.seq ?_
    refine S.skip ?_
    simp (disch := first | omega | (simp only [add_nx, upd_nx] <;> omega) | decide) only [rUz, ↓reduceIte, Nat.reduceEqDiff, Nat.reduceAdd]
    repeat refine S.seq ?_
    refine S.block ?_
    repeat refine S.seq ?_
    refine S.region ?_
    simp (disch := first | omega | (simp only [add_nx, upd_nx] <;> omega) | decide) only [rUz, ↓reduceIte, Nat.reduceEqDiff, Nat.reduceAdd, t2, t3, t9, hb2h, hb3h, part_0 pA (bkV_len st dv lv), part_0 prU (tuV_len pv rv)]
    refine wr_brings (fid := 30) (first := #[]) (captured := #[]) (Post := fun u h' => RunAt x.2.1 x.2.2.1 (vsF x.2.2.2 Ts) (rsF rt) D.length u h') rfl (hoff _ _ _ rfl) (by simp (disch := first | omega | (simp only [add_nx, upd_nx] <;> omega) | decide) only [rUz, ↓reduceIte, Nat.reduceEqDiff, Nat.reduceAdd]; exact run_y S hoff h st dv lv pv rv D L Ts rt (hb.mono hkh) (ht.mono hkh) hv htru k x hps) ?_
    rintro u j hkj ⟨u1, u2, u3, rfl, hu2, hu3⟩
    simp (disch := first | omega | (simp only [add_nx, upd_nx] <;> omega) | decide) only [rUz, ↓reduceIte, Nat.reduceEqDiff, Nat.reduceAdd, tp0, tp1, tp2]
    have kpj := kp.trans hkj
    obtain ⟨b1, f1, o1, c1, q1, q2, q3, q4, q5, q6⟩ := row_idx (SlAt.mono sX kpj) slII lI' hyX
    obtain ⟨b2, f2, o2, c2, r1, r2, r3, r4, r5, r6⟩ := row_idx (SlAt.mono sY kpj) slII lI' hyC
    have q6 := q6 0 _ (cT0 yX)
    have r6 := r6 0 _ (cT0 yC)
    rw [Nat.mul_one] at q1 r1
    rw [Nat.mul_one, Nat.add_zero] at q6 r6
    have hle : (debtsOf D.length Ts rt x).length ≤ 1000000 := by simp only [debtsOf, aftersZ, List.length_map, List.length_range]; omega
    have hle2 : (callsOf D.length Ts rt x).length ≤ 1000000 := by simp only [callsOf, callsZ, List.length_map, List.length_range]; omega
    repeat refine S.seq ?_
    refine S.region ?_
    simp (disch := first | omega | (simp only [add_nx, upd_nx] <;> omega) | decide) only [rUz, ↓reduceIte, Nat.reduceEqDiff, Nat.reduceAdd, t5, t9, q1, q3, qI, q6]
    refine wr_brings (fid := 13) (first := #[]) (captured := #[]) (Post := fun u _ => u = .bool true) rfl (hoff _ _ _ rfl) (by simp (disch := first | omega | (simp only [add_nx, upd_nx] <;> omega) | decide) only [rUz, ↓reduceIte, Nat.reduceEqDiff, Nat.reduceAdd]; exact same_y S j yX.1 u3 (debtsOf D.length Ts rt x) (iX.mono kpj) hu3 hle) ?_
    rintro u j2 hkj2 rfl
    have r3' := (hkj2.get r2).trans r3
    simp (disch := first | omega | (simp only [add_nx, upd_nx] <;> omega) | decide) only [rUz, ↓reduceIte, Nat.reduceEqDiff, Nat.reduceAdd, un_not, Bool.not_true, t6, t9, r1, r3', qI, r6]
    refine wr_brings (fid := 13) (first := #[]) (captured := #[]) (Post := fun u _ => u = .bool true) rfl (hoff _ _ _ rfl) (by simp (disch := first | omega | (simp only [add_nx, upd_nx] <;> omega) | decide) only [rUz, ↓reduceIte, Nat.reduceEqDiff, Nat.reduceAdd]; exact same_y S j2 yC.1 u2 (callsOf D.length Ts rt x) (iC.mono (kpj.trans hkj2)) (hu2.mono hkj2) hle2) ?_
    rintro u j3 hkj3 rfl
    simp (disch := first | omega | (simp only [add_nx, upd_nx] <;> omega) | decide) only [rUz, ↓reduceIte, Nat.reduceEqDiff, Nat.reduceAdd, un_not, Bool.not_true]
    repeat refine S.seq ?_
    refine S.cond (v := false) (by first | rfl | (simp (disch := first | omega | (simp only [add_nx, upd_nx] <;> omega) | decide) only [rUz, ↓reduceIte, Nat.reduceEqDiff, Nat.reduceAdd] <;> rfl)) (fun e => by cases e) (fun _ => ?_)
    repeat refine S.seq ?_
    refine S.skip ?_
    simp (disch := first | omega | (simp only [add_nx, upd_nx] <;> omega) | decide) only [rUz, ↓reduceIte, Nat.reduceEqDiff, Nat.reduceAdd]
    repeat refine S.seq ?_
    refine S.region ?_
    simp (disch := first | omega | (simp only [add_nx, upd_nx] <;> omega) | decide) only [rUz, ↓reduceIte, Nat.reduceEqDiff, Nat.reduceAdd, t9]
    refine hn (k + 1) _ _ (by omega) ⟨(kpj.trans hkj2).trans hkj3, ?_, ?_, ?_, ?_, ?_, by omega⟩
    all_goals (first | rfl | (simp (disch := first | omega | (simp only [add_nx, upd_nx] <;> omega) | decide) only [rUz, ↓reduceIte, Nat.reduceEqDiff, Nat.reduceAdd, t2, t3, t5, t6]; done) | (simp (disch := first | omega | (simp only [add_nx, upd_nx] <;> omega) | decide) only [rUz, ↓reduceIte, Nat.reduceEqDiff, Nat.reduceAdd, t2, t3, t5, t6]; rfl))
  refine S.exit (he _ _ _ _ (fun e => by cases e) ?_)
  simp (disch := first | omega | (simp only [add_nx, upd_nx] <;> omega) | decide) only [rUz, ↓reduceIte, Nat.reduceEqDiff, Nat.reduceAdd]
  repeat refine S.seq ?_
  refine S.region ?_
  simp (disch := first | omega | (simp only [add_nx, upd_nx] <;> omega) | decide) only [rUz, ↓reduceIte, Nat.reduceEqDiff, Nat.reduceAdd]
  refine awake ?_
  simp (disch := first | omega | (simp only [add_nx, upd_nx] <;> omega) | decide) only [rUz, ↓reduceIte, Nat.reduceEqDiff, Nat.reduceAdd]
  refine S.ret ?_
  try simp only [seqK_ret, blockK_ret]
  subst hF
  simp only [finish, endMarks]
  rw [show Try.f6.results.toList = [.tmp 4] from rfl]
  simp (disch := first | omega | (simp only [add_nx, upd_nx] <;> omega) | decide) only [resA, ev_tmp, tget_ne, tget_eq, get_ne, get_eq, upd_eq, upd_ne, ag_eq, ag_ne, result1]
  exact hKr _ (hk7.trans kp)
end Go.Proofs.Mg
