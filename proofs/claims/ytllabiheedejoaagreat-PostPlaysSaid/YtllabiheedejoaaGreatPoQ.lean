import Derived.Test.YtllabiheedejoaaGreatPoP
/- PostPlays. -/
namespace Go.Proofs.Po
open Go Go.Ev Go.RowKit
set_option linter.unusedSimpArgs false
section
variable {P : Program} {ops : Array Oper} {n f : Nat} {l : List Info} {done i m : Nat} {hist : List Seen} {t : T Value} {h : AHeap} {KR : T Value → AHeap → Bool} {call : CallT}
/-- A read that is ready comes before a write that stands before it. -/
theorem draw_read2 {i2 m2 : Nat} {o o2 : Oper} (hr : Nat.beq (Nat.land m2 done) m2 = true) : drawGo P call ops n 0 [] (f + 1) ({ i := i, o := o, w := true, pre := m } :: { i := i2, o := o2, w := false, pre := m2 } :: l) done hist t h KR = drR (wantA t ops o2.guard) (aread P t h o2) P call ops n f ({ i := i, o := o, w := true, pre := m } :: l) done i2 o2 hist t h KR := by
  simp only [drawGo, pickR, hr, Bool.not_false, Bool.not_true, Bool.false_and, Bool.true_and, cond_true, cond_false, drR, fV1_eq, fNat_eq, Option.map]
  cases wantA t ops o2.guard with
  | none => rfl
  | some b =>
    cases b with
    | false => rfl
    | true => cases aread P t h o2 <;> rfl
end
variable {pr : Prim} {R : ExT}
theorem veq_po {h : AHeap} {v : Value} {O : List Od} (k : PoAt h v O) : veq (.agg ⟨poV v⟩) (.agg ⟨poV v⟩) = true := by
  simp only [poV, veq, veqA, veqL, row_veq k, Bool.and_self]
set_option maxRecDepth 100000 in
set_option maxHeartbeats 32000000 in
theorem plays_law (S : Ev.Steps Tryz.prog pr R) (hT : Tab pr) (h0 : AHeap) (v : Value) (O : List Od) (hb : PoAt h0 v O) (tv : Value) (t0 : List Int) (ht : IS h0 tv t0) :
    Brings Tryz.prog R 3 [.agg ⟨poV v⟩, tv] h0 fun u _ => u = .bool true := by
  have hoff := hT.off
  refine brings_of (fn := Tryz.f3) (c := (Tryz.f3.body).getD .skip) (by kernel_rfl) rfl (by kernel_rfl) rfl (fun K hK => ?_)
  generalize hF : finish Tryz.prog Tryz.f3 K = KF
  simp only [Tryz.f3, Option.getD_some, argsT, setArgs, fV1_eq, T.setK_eq, id]
  have hKr : ∀ g, Kp h0 g → K (.bool true) g = true := fun g hk => hK _ _ hk rfl
  clear hK
  have awake : ∀ {ops : Array Oper} {n : Nat} {rest : List Oper} {t : T Value} {h : AHeap} {KR : T Value → AHeap → Bool} {dst : Option Tmp}, putR Tryz.prog (withPrim pr (callVal Tryz.prog R)) ops n rest dst t (.bool true) h KR = true →
      wrR Tryz.prog (withPrim pr (callVal Tryz.prog R)) ops n rest (.call ⟨.value (.func 11), #[], #[]⟩) dst t h KR = true := fun k => wr_prim (fid := 11) (first := #[]) (captured := #[]) (v := .bool true) rfl (hT.awake _) k
  have lN : ∀ t h1 o, rLen Tryz.prog t h1 o 28 nl = some (iv 0) := fun t h1 o => row_len (h := h0) (n := 4) (l := ([] : List Sa)) (cv := cSa) (.inl ⟨rfl, .inl rfl⟩) iscS t h1 o
  have lT : ∀ t h1 o, rLen Tryz.prog t h1 o 25 tv = some (iv (t0.length : Int)) := fun t h1 o => ht.at.len isI t h1 o
  have tq0 : ∀ a b : Value, (⟨[a, b]⟩ : Array Value)[0]? = some a := fun _ _ => rfl
  have tq1 : ∀ a b : Value, (⟨[a, b]⟩ : Array Value)[1]? = some b := fun _ _ => rfl
  have hd2 : decide ((2 : Int) = 0) = false := rfl
  have hdd : ∀ z : Int, decide (z = z) = true := fun z => decide_eq_true rfl
  repeat refine S.seq ?_
  refine S.region ?_
  simp (disch := first | omega | (simp only [add_nx, upd_nx] <;> omega) | decide) only [rUz, ↓reduceIte, Nat.reduceEqDiff, Nat.reduceAdd]
  have hb1 : (h0.add (poV v)).bl.get h0.nx = some (.cells (poV v) h0.nx false) := ag_eq rfl
  have hn1 : h0.nx < (h0.add (poV v)).nx := Nat.lt_succ_self _
  have hk1 : Kp h0 (h0.add (poV v)) := Kp.refl.add
  generalize h0.add (poV v) = H at hb1 hn1 hk1 ⊢
  generalize h0.nx = B1 at hb1 hn1 ⊢
  repeat refine S.seq ?_
  refine S.region ?_
  simp (disch := first | omega | (simp only [add_nx, upd_nx] <;> omega) | decide) only [rUz, ↓reduceIte, Nat.reduceEqDiff, Nat.reduceAdd, hb1, part_0 pA (poV_len v)]
  refine wr_brings (fid := 10) (first := #[]) (captured := #[]) (Post := fun u _ => u = .bool (decide ((O.length : Int) ≤ 9))) rfl (hoff _ _ _ rfl) (by simp (disch := first | omega | (simp only [add_nx, upd_nx] <;> omega) | decide) only [rUz, ↓reduceIte, Nat.reduceEqDiff, Nat.reduceAdd]; exact thin_y S H v O (hb.mono hk1)) ?_
  rintro u g hkg rfl
  replace hb1 := (hkg.get hn1).trans hb1
  replace hn1 := Nat.lt_of_lt_of_le hn1 hkg.1
  replace hk1 := hk1.trans hkg
  clear hkg
  clear H
  cases hth : decide ((O.length : Int) ≤ 9) with
  | false =>
    simp (disch := first | omega | (simp only [add_nx, upd_nx] <;> omega) | decide) only [rUz, ↓reduceIte, Nat.reduceEqDiff, Nat.reduceAdd, un_not, hth, Bool.not_false]
    repeat refine S.seq ?_
    refine S.cond (v := true) (by first | rfl | (simp (disch := first | omega | (simp only [add_nx, upd_nx] <;> omega) | decide) only [rUz, ↓reduceIte, Nat.reduceEqDiff, Nat.reduceAdd] <;> rfl)) (fun _ => ?_) (fun e => by cases e)
    repeat refine S.seq ?_
    refine S.region ?_
    simp (disch := first | omega | (simp only [add_nx, upd_nx] <;> omega) | decide) only [rUz, ↓reduceIte, Nat.reduceEqDiff, Nat.reduceAdd]
    refine awake ?_
    simp (disch := first | omega | (simp only [add_nx, upd_nx] <;> omega) | decide) only [rUz, ↓reduceIte, Nat.reduceEqDiff, Nat.reduceAdd]
    refine S.ret ?_
    try simp only [seqK_ret, blockK_ret]
    subst hF
    simp only [finish, endMarks]
    rw [show Tryz.f3.results.toList = [.tmp 4] from rfl]
    simp (disch := first | omega | (simp only [add_nx, upd_nx] <;> omega) | decide) only [resA, ev_tmp, tget_ne, tget_eq, get_ne, get_eq, upd_eq, upd_ne, ag_eq, ag_ne, result1]
    exact hKr _ hk1
  | true =>
  have h9' : O.length ≤ 9 := by have := of_decide_eq_true hth; omega
  cases h11 : decide (11 < (t0.length : Int)) with
  | true =>
    simp (disch := first | omega | (simp only [add_nx, upd_nx] <;> omega) | decide) only [rUz, ↓reduceIte, Nat.reduceEqDiff, Nat.reduceAdd, un_not, hth, Bool.not_true, lT, h11]
    repeat refine S.seq ?_
    refine S.cond (v := true) (by first | rfl | (simp (disch := first | omega | (simp only [add_nx, upd_nx] <;> omega) | decide) only [rUz, ↓reduceIte, Nat.reduceEqDiff, Nat.reduceAdd] <;> rfl)) (fun _ => ?_) (fun e => by cases e)
    repeat refine S.seq ?_
    refine S.region ?_
    simp (disch := first | omega | (simp only [add_nx, upd_nx] <;> omega) | decide) only [rUz, ↓reduceIte, Nat.reduceEqDiff, Nat.reduceAdd]
    refine awake ?_
    simp (disch := first | omega | (simp only [add_nx, upd_nx] <;> omega) | decide) only [rUz, ↓reduceIte, Nat.reduceEqDiff, Nat.reduceAdd]
    refine S.ret ?_
    try simp only [seqK_ret, blockK_ret]
    subst hF
    simp only [finish, endMarks]
    rw [show Tryz.f3.results.toList = [.tmp 4] from rfl]
    simp (disch := first | omega | (simp only [add_nx, upd_nx] <;> omega) | decide) only [resA, ev_tmp, tget_ne, tget_eq, get_ne, get_eq, upd_eq, upd_ne, ag_eq, ag_ne, result1]
    exact hKr _ hk1
  | false =>
  have h11' : t0.length ≤ 11 := by have := of_decide_eq_false h11; omega
  simp (disch := first | omega | (simp only [add_nx, upd_nx] <;> omega) | decide) only [rUz, ↓reduceIte, Nat.reduceEqDiff, Nat.reduceAdd, un_not, hth, Bool.not_true, lT, h11]
  repeat refine S.seq ?_
  refine S.cond (v := false) (by first | rfl | (simp (disch := first | omega | (simp only [add_nx, upd_nx] <;> omega) | decide) only [rUz, ↓reduceIte, Nat.reduceEqDiff, Nat.reduceAdd] <;> rfl)) (fun e => by cases e) (fun _ => ?_)
  repeat refine S.seq ?_
  refine S.skip ?_
  simp (disch := first | omega | (simp only [add_nx, upd_nx] <;> omega) | decide) only [rUz, ↓reduceIte, Nat.reduceEqDiff, Nat.reduceAdd]
  repeat refine S.seq ?_
  refine S.region ?_
  simp (disch := first | omega | (simp only [add_nx, upd_nx] <;> omega) | decide) only [rUz, ↓reduceIte, Nat.reduceEqDiff, Nat.reduceAdd, hb1, part_0 pA (poV_len v)]
  refine wr_brings (fid := 13) (first := #[]) (captured := #[]) (Post := fun u h => ∃ v', u = .agg ⟨poV v'⟩ ∧ PoAt h v' O) rfl (hoff _ _ _ rfl) (by simp (disch := first | omega | (simp only [add_nx, upd_nx] <;> omega) | decide) only [rUz, ↓reduceIte, Nat.reduceEqDiff, Nat.reduceAdd]; exact postC_y S hoff g v O (hb.mono hk1) h9') ?_
  rintro u g2 hkg2 ⟨v2, rfl, hb2⟩
  simp (disch := first | omega | (simp only [add_nx, upd_nx] <;> omega) | decide) only [rUz, ↓reduceIte, Nat.reduceEqDiff, Nat.reduceAdd]
  refine wr_brings (fid := 14) (first := #[]) (captured := #[]) (Post := fun u h => IAt h u t0) rfl (hoff _ _ _ rfl) (by simp (disch := first | omega | (simp only [add_nx, upd_nx] <;> omega) | decide) only [rUz, ↓reduceIte, Nat.reduceEqDiff, Nat.reduceAdd]; exact list_y S g2 tv t0 (ht.mono (hk1.trans hkg2)) (by omega)) ?_
  rintro tv2 g3 hkg3 ht2
  simp (disch := first | omega | (simp only [add_nx, upd_nx] <;> omega) | decide) only [rUz, ↓reduceIte, Nat.reduceEqDiff, Nat.reduceAdd]
  refine wr_brings (fid := 12) (first := #[]) (captured := #[]) (Post := fun u h => PlayAt O t0 u h) rfl (hoff _ _ _ rfl) (by simp (disch := first | omega | (simp only [add_nx, upd_nx] <;> omega) | decide) only [rUz, ↓reduceIte, Nat.reduceEqDiff, Nat.reduceAdd]; exact play_y S hoff g3 v2 tv2 O t0 (hb2.mono hkg3) ht2 h9') ?_
  rintro u g4 hkg4 hpl
  have hkg24 := (hkg2.trans hkg3).trans hkg4
  replace hb1 := (hkg24.get hn1).trans hb1
  replace hn1 := Nat.lt_of_lt_of_le hn1 hkg24.1
  replace hk1 := hk1.trans hkg24
  clear hkg24 hkg2 hkg3 hkg4 hb2 ht2
  obtain ⟨w, hu, hpq⟩ : ∃ w, u = .tuple ⟨[w, iv (faultT O t0)]⟩ ∧ ((faultT O t0 = 0 ∧ SlAt g4 4 w ((playZ O t0).2.map cSa) ∧ (playZ O t0).2.length ≤ 120) ∨ (faultT O t0 ≠ 0 ∧ w = nl)) := by
    rcases hpl with ⟨hz, w, rfl, hs, hl⟩ | ⟨hz, rfl⟩
    · exact ⟨w, by rw [hz], .inl ⟨hz, hs, hl⟩⟩
    · exact ⟨nl, rfl, .inr ⟨hz, rfl⟩⟩
  clear hpl
  subst hu
  simp (disch := first | omega | (simp only [add_nx, upd_nx] <;> omega) | decide) only [rUz, ↓reduceIte, Nat.reduceEqDiff, Nat.reduceAdd, tq0, tq1]
  repeat refine S.seq ?_
  refine S.region ?_
  simp (disch := first | omega | (simp only [add_nx, upd_nx] <;> omega) | decide) only [rUz, ↓reduceIte, Nat.reduceEqDiff, Nat.reduceAdd, hb1, part_0 pA (poV_len v)]
  refine wr_brings (fid := 15) (first := #[]) (captured := #[]) (Post := fun u _ => u = iv (faultZ O)) rfl (hoff _ _ _ rfl) (by simp (disch := first | omega | (simp only [add_nx, upd_nx] <;> omega) | decide) only [rUz, ↓reduceIte, Nat.reduceEqDiff, Nat.reduceAdd]; exact faultw_y S hoff g4 v O (hb.mono hk1)) ?_
  rintro u g5 hkg5 rfl
  have hb1b := (hkg5.get hn1).trans hb1
  have hk5 := hk1.trans hkg5
  simp (disch := first | omega | (simp only [add_nx, upd_nx] <;> omega) | decide) only [rUz, ↓reduceIte, Nat.reduceEqDiff, Nat.reduceAdd]
  repeat refine S.seq ?_
  refine S.region ?_
  simp (disch := first | omega | (simp only [add_nx, upd_nx] <;> omega) | decide) only [rUz, ↓reduceIte, Nat.reduceEqDiff, Nat.reduceAdd, hb1b, part_0 pA (poV_len v)]
  refine wr_brings (fid := 13) (first := #[]) (captured := #[]) (Post := fun u h => ∃ v', u = .agg ⟨poV v'⟩ ∧ PoAt h v' O) rfl (hoff _ _ _ rfl) (by simp (disch := first | omega | (simp only [add_nx, upd_nx] <;> omega) | decide) only [rUz, ↓reduceIte, Nat.reduceEqDiff, Nat.reduceAdd]; exact postC_y S hoff g5 v O (hb.mono hk5) h9') ?_
  rintro u g6 hkg6 ⟨v3, rfl, hb3⟩
  simp (disch := first | omega | (simp only [add_nx, upd_nx] <;> omega) | decide) only [rUz, ↓reduceIte, Nat.reduceEqDiff, Nat.reduceAdd]
  refine wr_brings (fid := 16) (first := #[]) (captured := #[]) (Post := fun u _ => u = iv (faultZ O)) rfl (hoff _ _ _ rfl) (by simp (disch := first | omega | (simp only [add_nx, upd_nx] <;> omega) | decide) only [rUz, ↓reduceIte, Nat.reduceEqDiff, Nat.reduceAdd]; exact checkPost_y S hoff g6 v3 O hb3 h9') ?_
  rintro u g7 hkg7 rfl
  have hkg57 := (hkg5.trans hkg6).trans hkg7
  replace hb1 := (hkg57.get hn1).trans hb1
  replace hn1 := Nat.lt_of_lt_of_le hn1 hkg57.1
  replace hk1 := hk1.trans hkg57
  clear hb3 hb1b hk5 hkg5 hkg6 hkg7
  simp (disch := first | omega | (simp only [add_nx, upd_nx] <;> omega) | decide) only [rUz, ↓reduceIte, Nat.reduceEqDiff, Nat.reduceAdd, hdd, Bool.not_true]
  repeat refine S.seq ?_
  refine S.cond (v := false) (by first | rfl | (simp (disch := first | omega | (simp only [add_nx, upd_nx] <;> omega) | decide) only [rUz, ↓reduceIte, Nat.reduceEqDiff, Nat.reduceAdd] <;> rfl)) (fun e => by cases e) (fun _ => ?_)
  repeat refine S.seq ?_
  refine S.skip ?_
  simp (disch := first | omega | (simp only [add_nx, upd_nx] <;> omega) | decide) only [rUz, ↓reduceIte, Nat.reduceEqDiff, Nat.reduceAdd]
  by_cases hz : faultZ O = 0
  rotate_left
  · have hd : decide (faultZ O = 0) = false := decide_eq_false hz
    have hfT : faultT O t0 = faultZ O := by rw [faultT, hd]; rfl
    rcases hpq with ⟨he, _⟩ | ⟨_, rfl⟩
    · exact absurd (hfT ▸ he) hz
    repeat refine S.seq ?_
    refine S.region ?_
    simp (disch := first | omega | (simp only [add_nx, upd_nx] <;> omega) | decide) only [rUz, ↓reduceIte, Nat.reduceEqDiff, Nat.reduceAdd, hd, Bool.not_false]
    repeat refine S.seq ?_
    refine S.cond (v := false) (by first | rfl | (simp (disch := first | omega | (simp only [add_nx, upd_nx] <;> omega) | decide) only [rUz, ↓reduceIte, Nat.reduceEqDiff, Nat.reduceAdd] <;> rfl)) (fun e => by cases e) (fun _ => ?_)
    repeat refine S.seq ?_
    refine S.skip ?_
    simp (disch := first | omega | (simp only [add_nx, upd_nx] <;> omega) | decide) only [rUz, ↓reduceIte, Nat.reduceEqDiff, Nat.reduceAdd]
    repeat refine S.seq ?_
    refine S.region ?_
    simp (disch := first | omega | (simp only [add_nx, upd_nx] <;> omega) | decide) only [rUz, ↓reduceIte, Nat.reduceEqDiff, Nat.reduceAdd, hd, Bool.not_false]
    repeat refine S.seq ?_
    refine S.cond (v := true) (by first | rfl | (simp (disch := first | omega | (simp only [add_nx, upd_nx] <;> omega) | decide) only [rUz, ↓reduceIte, Nat.reduceEqDiff, Nat.reduceAdd] <;> rfl)) (fun _ => ?_) (fun e => by cases e)
    repeat refine S.seq ?_
    refine S.region ?_
    simp (disch := first | omega | (simp only [add_nx, upd_nx] <;> omega) | decide) only [rUz, ↓reduceIte, Nat.reduceEqDiff, Nat.reduceAdd, hfT, hdd, lN]
    refine awake ?_
    simp (disch := first | omega | (simp only [add_nx, upd_nx] <;> omega) | decide) only [rUz, ↓reduceIte, Nat.reduceEqDiff, Nat.reduceAdd]
    refine S.ret ?_
    try simp only [seqK_ret, blockK_ret]
    subst hF
    simp only [finish, endMarks]
    rw [show Tryz.f3.results.toList = [.tmp 4] from rfl]
    simp (disch := first | omega | (simp only [add_nx, upd_nx] <;> omega) | decide) only [resA, ev_tmp, tget_ne, tget_eq, get_ne, get_eq, upd_eq, upd_ne, ag_eq, ag_ne, result1]
    exact hKr _ hk1
  have hd : decide (faultZ O = 0) = true := decide_eq_true hz
  have hv := val_iff.1 hz
  repeat refine S.seq ?_
  refine S.region ?_
  simp (disch := first | omega | (simp only [add_nx, upd_nx] <;> omega) | decide) only [rUz, ↓reduceIte, Nat.reduceEqDiff, Nat.reduceAdd, hd, hb1, part_0 pA (poV_len v)]
  refine wr_brings (fid := 17) (first := #[]) (captured := #[]) (Post := fun u _ => u = .bool (truthB O t0)) rfl (hoff _ _ _ rfl) (by simp (disch := first | omega | (simp only [add_nx, upd_nx] <;> omega) | decide) only [rUz, ↓reduceIte, Nat.reduceEqDiff, Nat.reduceAdd]; exact isTruth_y S hoff g7 v tv O t0 (hb.mono hk1) (ht.mono hk1).at h9' h11') ?_
  rintro u g8 hkg8 rfl
  replace hb1 := (hkg8.get hn1).trans hb1
  replace hn1 := Nat.lt_of_lt_of_le hn1 hkg8.1
  replace hk1 := hk1.trans hkg8
  have hkp := hkg57.trans hkg8
  clear hkg8 hkg57
  cases htr : truthB O t0 with
  | false =>
    have hfT : faultT O t0 = 2 := by rw [faultT, hd, htr]; rfl
    rcases hpq with ⟨he, _⟩ | ⟨_, rfl⟩
    · omega
    simp (disch := first | omega | (simp only [add_nx, upd_nx] <;> omega) | decide) only [rUz, ↓reduceIte, Nat.reduceEqDiff, Nat.reduceAdd, un_not, htr, Bool.not_false]
    repeat refine S.seq ?_
    refine S.cond (v := true) (by first | rfl | (simp (disch := first | omega | (simp only [add_nx, upd_nx] <;> omega) | decide) only [rUz, ↓reduceIte, Nat.reduceEqDiff, Nat.reduceAdd] <;> rfl)) (fun _ => ?_) (fun e => by cases e)
    repeat refine S.seq ?_
    refine S.region ?_
    simp (disch := first | omega | (simp only [add_nx, upd_nx] <;> omega) | decide) only [rUz, ↓reduceIte, Nat.reduceEqDiff, Nat.reduceAdd]
    repeat refine S.seq ?_
    refine S.region ?_
    simp (disch := first | omega | (simp only [add_nx, upd_nx] <;> omega) | decide) only [rUz, ↓reduceIte, Nat.reduceEqDiff, Nat.reduceAdd, hd2, Bool.not_false]
    repeat refine S.seq ?_
    refine S.cond (v := true) (by first | rfl | (simp (disch := first | omega | (simp only [add_nx, upd_nx] <;> omega) | decide) only [rUz, ↓reduceIte, Nat.reduceEqDiff, Nat.reduceAdd] <;> rfl)) (fun _ => ?_) (fun e => by cases e)
    repeat refine S.seq ?_
    refine S.region ?_
    simp (disch := first | omega | (simp only [add_nx, upd_nx] <;> omega) | decide) only [rUz, ↓reduceIte, Nat.reduceEqDiff, Nat.reduceAdd, hfT, hdd, lN]
    refine awake ?_
    simp (disch := first | omega | (simp only [add_nx, upd_nx] <;> omega) | decide) only [rUz, ↓reduceIte, Nat.reduceEqDiff, Nat.reduceAdd]
    refine S.ret ?_
    try simp only [seqK_ret, blockK_ret]
    subst hF
    simp only [finish, endMarks]
    rw [show Tryz.f3.results.toList = [.tmp 4] from rfl]
    simp (disch := first | omega | (simp only [add_nx, upd_nx] <;> omega) | decide) only [resA, ev_tmp, tget_ne, tget_eq, get_ne, get_eq, upd_eq, upd_ne, ag_eq, ag_ne, result1]
    exact hKr _ hk1
  | true =>
  have hfT : faultT O t0 = 0 := by rw [faultT, hd, htr]; rfl
  rcases hpq with ⟨_, hs, hsl⟩ | ⟨he, _⟩
  rotate_left
  · exact absurd hfT he
  simp (disch := first | omega | (simp only [add_nx, upd_nx] <;> omega) | decide) only [rUz, ↓reduceIte, Nat.reduceEqDiff, Nat.reduceAdd, un_not, htr, Bool.not_true]
  repeat refine S.seq ?_
  refine S.cond (v := false) (by first | rfl | (simp (disch := first | omega | (simp only [add_nx, upd_nx] <;> omega) | decide) only [rUz, ↓reduceIte, Nat.reduceEqDiff, Nat.reduceAdd] <;> rfl)) (fun e => by cases e) (fun _ => ?_)
  repeat refine S.seq ?_
  refine S.skip ?_
  simp (disch := first | omega | (simp only [add_nx, upd_nx] <;> omega) | decide) only [rUz, ↓reduceIte, Nat.reduceEqDiff, Nat.reduceAdd]
  rw [hz]
  repeat refine S.seq ?_
  refine S.region ?_
  simp (disch := first | omega | (simp only [add_nx, upd_nx] <;> omega) | decide) only [rUz, ↓reduceIte, Nat.reduceEqDiff, Nat.reduceAdd, hdd, Bool.not_true]
  repeat refine S.seq ?_
  refine S.cond (v := false) (by first | rfl | (simp (disch := first | omega | (simp only [add_nx, upd_nx] <;> omega) | decide) only [rUz, ↓reduceIte, Nat.reduceEqDiff, Nat.reduceAdd] <;> rfl)) (fun e => by cases e) (fun _ => ?_)
  repeat refine S.seq ?_
  refine S.skip ?_
  simp (disch := first | omega | (simp only [add_nx, upd_nx] <;> omega) | decide) only [rUz, ↓reduceIte, Nat.reduceEqDiff, Nat.reduceAdd]
  have htru := tru_of hv htr
  clear hz hd htr
  have hbv := veq_po hb
  repeat refine S.seq ?_
  refine S.drawnL [(false, 0), (false, 1), (false, 3), (false, 7), (true, 15), (false, 7), (false, 7), (true, 127), (true, 255), (false, 511), (false, 1023), (true, 2047), (false, 4095), (false, 8191)] (by kernel_rfl) (by kernel_rfl) (by kernel_rfl) ?_
  simp (disch := first | omega | (simp only [add_nx, upd_nx] <;> omega) | decide) only [rUz, ↓reduceIte, Nat.reduceEqDiff, Nat.reduceAdd, rDz, infoL, Nat.reduceSub, draw_read2, hfT, hdd, decide_true, hb1, part_0 pA (poV_len v)]
  refine drW_brings (fid := 19) (first := #[]) (captured := #[]) (Post := fun u h => SlAt h 4 u ((playZ O t0).2.map cSa)) rfl (hoff _ _ _ rfl) (by simp (disch := first | omega | (simp only [add_nx, upd_nx] <;> omega) | decide) only [rUz, ↓reduceIte, Nat.reduceEqDiff, Nat.reduceAdd]; exact back_y S g8 w _ (SlAt.mono hs hkp) (by omega)) (Nat.le_of_ble_eq_true rfl) ?_
  rintro u9 g9 hkg9 hs9
  have hb1b := (hkg9.get hn1).trans hb1
  refine ⟨?_, ?_⟩
  · try simp (disch := first | decide | rfl) only [again_nil, again_skip, again_free]
    rw [again_same (v := .agg ⟨poV v⟩) (by simp (disch := first | omega | (simp only [add_nx, upd_nx] <;> omega) | decide) only [rUz, ↓reduceIte, Nat.reduceEqDiff, Nat.reduceAdd, rDz, infoL, Nat.reduceSub, hb1b, part_0 pA (poV_len v)]) hbv]
    try simp (disch := first | decide | rfl) only [again_nil, again_skip, again_free]
  simp (disch := first | omega | (simp only [add_nx, upd_nx] <;> omega) | decide) only [rUz, ↓reduceIte, Nat.reduceEqDiff, Nat.reduceAdd, rDz, infoL, Nat.reduceSub]
  refine drW_brings (fid := 20) (first := #[]) (captured := #[]) (Post := fun u h => SlAt h 4 u ((playZ O t0).2.map cSa)) rfl (hoff _ _ _ rfl) (by simp (disch := first | omega | (simp only [add_nx, upd_nx] <;> omega) | decide) only [rUz, ↓reduceIte, Nat.reduceEqDiff, Nat.reduceAdd]; exact rplay_y S hoff g9 v tv O t0 (hb.mono (hk1.trans hkg9)) (ht.mono (hk1.trans hkg9)).at hv htru) (Nat.le_of_ble_eq_true rfl) ?_
  rintro u10 g10 hkg10 hs10
  refine ⟨?_, ?_⟩
  · try simp (disch := first | decide | rfl) only [again_nil, again_skip, again_free]
  simp (disch := first | omega | (simp only [add_nx, upd_nx] <;> omega) | decide) only [rUz, ↓reduceIte, Nat.reduceEqDiff, Nat.reduceAdd, rDz, infoL, Nat.reduceSub]
  refine drW_brings (fid := 18) (first := #[]) (captured := #[]) (Post := fun u _ => u = .bool true) rfl (hoff _ _ _ rfl) (by simp (disch := first | omega | (simp only [add_nx, upd_nx] <;> omega) | decide) only [rUz, ↓reduceIte, Nat.reduceEqDiff, Nat.reduceAdd]; exact sales_y S g10 u9 u10 _ (SlAt.mono hs9 hkg10) hs10 (by omega)) (Nat.le_of_ble_eq_true rfl) ?_
  rintro u11 g11 hkg11 rfl
  refine ⟨?_, ?_⟩
  · try simp (disch := first | decide | rfl) only [again_nil, again_skip, again_free]
  simp (disch := first | omega | (simp only [add_nx, upd_nx] <;> omega) | decide) only [rUz, ↓reduceIte, Nat.reduceEqDiff, Nat.reduceAdd, rDz, infoL, Nat.reduceSub]
  refine drW_prim (fid := 11) (first := #[]) (captured := #[]) (v := .bool true) rfl (hT.awake _) (Nat.le_of_ble_eq_true rfl) ?_ ?_
  · try simp (disch := first | decide | rfl) only [again_nil, again_skip, again_free]
  simp (disch := first | omega | (simp only [add_nx, upd_nx] <;> omega) | decide) only [rUz, ↓reduceIte, Nat.reduceEqDiff, Nat.reduceAdd, rDz, infoL, Nat.reduceSub]
  refine S.ret ?_
  try simp only [seqK_ret, blockK_ret]
  subst hF
  simp only [finish, endMarks]
  rw [show Tryz.f3.results.toList = [.tmp 4] from rfl]
  simp (disch := first | omega | (simp only [add_nx, upd_nx] <;> omega) | decide) only [resA, ev_tmp, tget_ne, tget_eq, get_ne, get_eq, upd_eq, upd_ne, ag_eq, ag_ne, result1]
  exact hKr _ (((hk1.trans hkg9).trans hkg10).trans hkg11)
end Go.Proofs.Po
