import Derived.Test.YtllabiheedejoaaGreatPo9
/- PostOpens. -/
namespace Go.Proofs.Po
open Go Go.Ev Go.RowKit
set_option linter.unusedSimpArgs false
variable {pr : Prim} {R : ExT}
set_option maxRecDepth 100000 in
set_option maxHeartbeats 16000000 in
theorem opens_law (S : Ev.Steps Tryz.prog pr R) (hT : Tab pr) (h0 : AHeap) (v : Value) (O : List Od) (hb : PoAt h0 v O) :
    Brings Tryz.prog R 8 [.agg ⟨poV v⟩] h0 fun u _ => u = .bool true := by
  have hoff := hT.off
  refine brings_of (fn := Tryz.f8) (c := (Tryz.f8.body).getD .skip) (by kernel_rfl) rfl (by kernel_rfl) rfl (fun K hK => ?_)
  generalize hF : finish Tryz.prog Tryz.f8 K = KF
  simp only [Tryz.f8, Option.getD_some, argsT, setArgs, fV1_eq, T.setK_eq, id]
  have hKr : ∀ g, Kp h0 g → K (.bool true) g = true := fun g hk => hK _ _ hk rfl
  clear hK
  have awake : ∀ {ops : Array Oper} {n : Nat} {rest : List Oper} {t : T Value} {h : AHeap} {KR : T Value → AHeap → Bool} {dst : Option Tmp}, putR Tryz.prog (withPrim pr (callVal Tryz.prog R)) ops n rest dst t (.bool true) h KR = true →
      wrR Tryz.prog (withPrim pr (callVal Tryz.prog R)) ops n rest (.call ⟨.value (.func 11), #[], #[]⟩) dst t h KR = true := fun k => wr_prim (fid := 11) (first := #[]) (captured := #[]) (v := .bool true) rfl (hT.awake _) k
  have tp0 : ∀ a b c : Value, (⟨[a, b, c]⟩ : Array Value)[0]? = some a := fun _ _ _ => rfl
  have tp1 : ∀ a b c : Value, (⟨[a, b, c]⟩ : Array Value)[1]? = some b := fun _ _ _ => rfl
  have tp2 : ∀ a b c : Value, (⟨[a, b, c]⟩ : Array Value)[2]? = some c := fun _ _ _ => rfl
  have tq0 : ∀ a b : Value, (⟨[a, b]⟩ : Array Value)[0]? = some a := fun _ _ => rfl
  have tq1 : ∀ a b : Value, (⟨[a, b]⟩ : Array Value)[1]? = some b := fun _ _ => rfl
  have hdd : ∀ z : Int, decide (z = z) = true := fun z => decide_eq_true rfl
  repeat refine S.seq ?_
  refine S.region ?_
  simp (disch := first | omega | (simp only [add_nx, upd_nx] <;> omega) | decide) only [rUz, ↓reduceIte, Nat.reduceEqDiff, Nat.reduceAdd]
  have hb1 : (h0.add (poV v)).bl.get h0.nx = some (.cells (poV v) h0.nx false) := ag_eq rfl
  have hn1 : h0.nx < (h0.add (poV v)).nx := Nat.lt_succ_self _
  have hk1 : Kp h0 (h0.add (poV v)) := Kp.refl.add
  generalize h0.add (poV v) = H at hb1 hn1 hk1 ⊢
  generalize h0.nx = B1 at hb1 hn1 ⊢
  have hbH := hb.mono hk1
  clear hb
  repeat refine S.seq ?_
  refine S.region ?_
  simp (disch := first | omega | (simp only [add_nx, upd_nx] <;> omega) | decide) only [rUz, ↓reduceIte, Nat.reduceEqDiff, Nat.reduceAdd, hb1, part_0 pA (poV_len v)]
  refine wr_brings (fid := 10) (first := #[]) (captured := #[]) (Post := fun u _ => u = .bool (decide ((O.length : Int) ≤ 9))) rfl (hoff _ _ _ rfl) (by simp (disch := first | omega | (simp only [add_nx, upd_nx] <;> omega) | decide) only [rUz, ↓reduceIte, Nat.reduceEqDiff, Nat.reduceAdd]; exact thin_y S H v O hbH) ?_
  rintro u g hkg rfl
  replace hb1 := (hkg.get hn1).trans hb1
  replace hn1 := Nat.lt_of_lt_of_le hn1 hkg.1
  replace hk1 := hk1.trans hkg
  have hbg := hbH.mono hkg
  clear hbH hkg
  clear H
  cases hth : decide ((O.length : Int) ≤ 9) with
  | false =>
    simp (disch := first | omega | (simp only [add_nx, upd_nx] <;> omega) | decide) only [rUz, ↓reduceIte, Nat.reduceEqDiff, Nat.reduceAdd, un_not, hth, Bool.not_false]
    repeat refine S.seq ?_
    refine S.cond (v := true) (by first | rfl | (simp (disch := first | omega | (simp only [add_nx, upd_nx] <;> omega) | decide) only [rUz, ↓reduceIte, Nat.reduceEqDiff, Nat.reduceAdd] <;> rfl)) (fun _ => ?_) (fun e => by cases e)
    repeat refine S.seq ?_
    refine S.region ?_
    simp (disch := first | omega | (simp only [add_nx, upd_nx] <;> omega) | decide) only [rUz, ↓reduceIte, Nat.reduceEqDiff, Nat.reduceAdd]
    refine awake ?_
    simp (disch := first | omega | (simp only [add_nx, upd_nx] <;> omega) | decide) only [rUz, ↓reduceIte, Nat.reduceEqDiff, Nat.reduceAdd]
    refine S.ret ?_
    try simp only [seqK_ret, blockK_ret]
    subst hF
    simp only [finish, endMarks]
    rw [show Tryz.f8.results.toList = [.tmp 2] from rfl]
    simp (disch := first | omega | (simp only [add_nx, upd_nx] <;> omega) | decide) only [resA, ev_tmp, tget_ne, tget_eq, get_ne, get_eq, upd_eq, upd_ne, ag_eq, ag_ne, result1]
    exact hKr _ hk1
  | true =>
  have h9 := of_decide_eq_true hth
  have h9' : O.length ≤ 9 := by omega
  simp (disch := first | omega | (simp only [add_nx, upd_nx] <;> omega) | decide) only [rUz, ↓reduceIte, Nat.reduceEqDiff, Nat.reduceAdd, un_not, hth, Bool.not_true]
  repeat refine S.seq ?_
  refine S.cond (v := false) (by first | rfl | (simp (disch := first | omega | (simp only [add_nx, upd_nx] <;> omega) | decide) only [rUz, ↓reduceIte, Nat.reduceEqDiff, Nat.reduceAdd] <;> rfl)) (fun e => by cases e) (fun _ => ?_)
  repeat refine S.seq ?_
  refine S.skip ?_
  simp (disch := first | omega | (simp only [add_nx, upd_nx] <;> omega) | decide) only [rUz, ↓reduceIte, Nat.reduceEqDiff, Nat.reduceAdd]
  repeat refine S.seq ?_
  refine S.region ?_
  simp (disch := first | omega | (simp only [add_nx, upd_nx] <;> omega) | decide) only [rUz, ↓reduceIte, Nat.reduceEqDiff, Nat.reduceAdd, hb1, part_0 pA (poV_len v)]
  refine wr_brings (fid := 13) (first := #[]) (captured := #[]) (Post := fun u h => ∃ v', u = .agg ⟨poV v'⟩ ∧ PoAt h v' O) rfl (hoff _ _ _ rfl) (by simp (disch := first | omega | (simp only [add_nx, upd_nx] <;> omega) | decide) only [rUz, ↓reduceIte, Nat.reduceEqDiff, Nat.reduceAdd]; exact postC_y S hoff g v O hbg h9') ?_
  rintro u g2 hkg2 ⟨v2, rfl, hb2⟩
  simp (disch := first | omega | (simp only [add_nx, upd_nx] <;> omega) | decide) only [rUz, ↓reduceIte, Nat.reduceEqDiff, Nat.reduceAdd]
  refine wr_brings (fid := 31) (first := #[]) (captured := #[]) (Post := fun u _ => u = .tuple ⟨[iv (openT O).1, iv (openT O).2.1, iv (openT O).2.2]⟩) rfl (hoff _ _ _ rfl) (by simp (disch := first | omega | (simp only [add_nx, upd_nx] <;> omega) | decide) only [rUz, ↓reduceIte, Nat.reduceEqDiff, Nat.reduceAdd]; exact open_y S hoff g2 v2 O hb2 h9') ?_
  rintro u g3 hkg3 rfl
  have hkg23 := hkg2.trans hkg3
  replace hb1 := (hkg23.get hn1).trans hb1
  replace hn1 := Nat.lt_of_lt_of_le hn1 hkg23.1
  replace hk1 := hk1.trans hkg23
  have hb3 := hbg.mono hkg23
  clear hbg hkg23 hkg2 hkg3 hb2
  simp (disch := first | omega | (simp only [add_nx, upd_nx] <;> omega) | decide) only [rUz, ↓reduceIte, Nat.reduceEqDiff, Nat.reduceAdd, tp0, tp1, tp2]
  repeat refine S.seq ?_
  refine S.region ?_
  simp (disch := first | omega | (simp only [add_nx, upd_nx] <;> omega) | decide) only [rUz, ↓reduceIte, Nat.reduceEqDiff, Nat.reduceAdd, hb1, part_0 pA (poV_len v)]
  refine wr_brings (fid := 15) (first := #[]) (captured := #[]) (Post := fun u _ => u = iv (faultZ O)) rfl (hoff _ _ _ rfl) (by simp (disch := first | omega | (simp only [add_nx, upd_nx] <;> omega) | decide) only [rUz, ↓reduceIte, Nat.reduceEqDiff, Nat.reduceAdd]; exact faultw_y S hoff g3 v O hb3) ?_
  rintro u g4 hkg4 rfl
  replace hb1 := (hkg4.get hn1).trans hb1
  replace hk1 := hk1.trans hkg4
  have hb4 := hb3.mono hkg4
  clear hb3 hkg4 hn1
  simp (disch := first | omega | (simp only [add_nx, upd_nx] <;> omega) | decide) only [rUz, ↓reduceIte, Nat.reduceEqDiff, Nat.reduceAdd]
  cases h1 : decide (faultZ O = 0) with
  | false =>
    have ho : openT O = (0, 0, faultZ O) := by unfold openT; rw [h1]; rfl
    rw [ho]
    repeat refine S.seq ?_
    refine S.region ?_
    simp (disch := first | omega | (simp only [add_nx, upd_nx] <;> omega) | decide) only [rUz, ↓reduceIte, Nat.reduceEqDiff, Nat.reduceAdd, h1, Bool.not_false]
    repeat refine S.seq ?_
    refine S.cond (v := true) (by first | rfl | (simp (disch := first | omega | (simp only [add_nx, upd_nx] <;> omega) | decide) only [rUz, ↓reduceIte, Nat.reduceEqDiff, Nat.reduceAdd] <;> rfl)) (fun _ => ?_) (fun e => by cases e)
    repeat refine S.seq ?_
    refine S.region ?_
    simp (disch := first | omega | (simp only [add_nx, upd_nx] <;> omega) | decide) only [rUz, ↓reduceIte, Nat.reduceEqDiff, Nat.reduceAdd, hdd, decide_true]
    refine awake ?_
    simp (disch := first | omega | (simp only [add_nx, upd_nx] <;> omega) | decide) only [rUz, ↓reduceIte, Nat.reduceEqDiff, Nat.reduceAdd]
    refine S.ret ?_
    try simp only [seqK_ret, blockK_ret]
    subst hF
    simp only [finish, endMarks]
    rw [show Tryz.f8.results.toList = [.tmp 2] from rfl]
    simp (disch := first | omega | (simp only [add_nx, upd_nx] <;> omega) | decide) only [resA, ev_tmp, tget_ne, tget_eq, get_ne, get_eq, upd_eq, upd_ne, ag_eq, ag_ne, result1]
    exact hKr _ hk1
  | true =>
  have hz := of_decide_eq_true h1
  have hv := val_iff.1 hz
  repeat refine S.seq ?_
  refine S.region ?_
  simp (disch := first | omega | (simp only [add_nx, upd_nx] <;> omega) | decide) only [rUz, ↓reduceIte, Nat.reduceEqDiff, Nat.reduceAdd, h1, Bool.not_true]
  repeat refine S.seq ?_
  refine S.cond (v := false) (by first | rfl | (simp (disch := first | omega | (simp only [add_nx, upd_nx] <;> omega) | decide) only [rUz, ↓reduceIte, Nat.reduceEqDiff, Nat.reduceAdd] <;> rfl)) (fun e => by cases e) (fun _ => ?_)
  repeat refine S.seq ?_
  refine S.skip ?_
  simp (disch := first | omega | (simp only [add_nx, upd_nx] <;> omega) | decide) only [rUz, ↓reduceIte, Nat.reduceEqDiff, Nat.reduceAdd]
  repeat refine S.seq ?_
  refine S.region ?_
  simp (disch := first | omega | (simp only [add_nx, upd_nx] <;> omega) | decide) only [rUz, ↓reduceIte, Nat.reduceEqDiff, Nat.reduceAdd, hb1, part_0 pA (poV_len v)]
  refine wr_brings (fid := 32) (first := #[]) (captured := #[]) (Post := fun u _ => u = .tuple ⟨[iv (rbestZ O 99), iv (shZ O (rbestZ O 99))]⟩) rfl (hoff _ _ _ rfl) (by simp (disch := first | omega | (simp only [add_nx, upd_nx] <;> omega) | decide) only [rUz, ↓reduceIte, Nat.reduceEqDiff, Nat.reduceAdd]; exact ropen_y S hoff g4 v O hb4 hv) ?_
  rintro u g5 hkg5 rfl
  replace hk1 := hk1.trans hkg5
  simp (disch := first | omega | (simp only [add_nx, upd_nx] <;> omega) | decide) only [rUz, ↓reduceIte, Nat.reduceEqDiff, Nat.reduceAdd, tq0, tq1]
  rcases best_eq hv 99 with ⟨b1, b2⟩ | ⟨b1, b2⟩
  · have ho : openT O = (0, 0, 7) := by unfold openT; rw [h1, b1]; rfl
    rw [ho, b2]
    repeat refine S.seq ?_
    refine S.region ?_
    simp (disch := first | omega | (simp only [add_nx, upd_nx] <;> omega) | decide) only [rUz, ↓reduceIte, Nat.reduceEqDiff, Nat.reduceAdd, hdd, decide_true]
    repeat refine S.seq ?_
    refine S.cond (v := true) (by first | rfl | (simp (disch := first | omega | (simp only [add_nx, upd_nx] <;> omega) | decide) only [rUz, ↓reduceIte, Nat.reduceEqDiff, Nat.reduceAdd] <;> rfl)) (fun _ => ?_) (fun e => by cases e)
    repeat refine S.seq ?_
    refine S.region ?_
    simp (disch := first | omega | (simp only [add_nx, upd_nx] <;> omega) | decide) only [rUz, ↓reduceIte, Nat.reduceEqDiff, Nat.reduceAdd, hdd, decide_true]
    refine awake ?_
    simp (disch := first | omega | (simp only [add_nx, upd_nx] <;> omega) | decide) only [rUz, ↓reduceIte, Nat.reduceEqDiff, Nat.reduceAdd]
    refine S.ret ?_
    try simp only [seqK_ret, blockK_ret]
    subst hF
    simp only [finish, endMarks]
    rw [show Tryz.f8.results.toList = [.tmp 2] from rfl]
    simp (disch := first | omega | (simp only [add_nx, upd_nx] <;> omega) | decide) only [resA, ev_tmp, tget_ne, tget_eq, get_ne, get_eq, upd_eq, upd_ne, ag_eq, ag_ne, result1]
    exact hKr _ hk1
  · have ho : openT O = (rbestZ O 99, shZ O (rbestZ O 99), 0) := by
      have e : min2 (offZ O (rbestZ O 99)).2.1 (offZ O (rbestZ O 99)).2.2 = shZ O (rbestZ O 99) := rfl
      unfold openT
      rw [h1, b1, e, decide_eq_false (by omega)]
      rfl
    have hd : decide (shZ O (rbestZ O 99) = 0) = false := decide_eq_false (by omega)
    rw [ho]
    generalize shZ O (rbestZ O 99) = a at hd ⊢
    generalize rbestZ O 99 = r
    repeat refine S.seq ?_
    refine S.region ?_
    simp (disch := first | omega | (simp only [add_nx, upd_nx] <;> omega) | decide) only [rUz, ↓reduceIte, Nat.reduceEqDiff, Nat.reduceAdd, hd]
    repeat refine S.seq ?_
    refine S.cond (v := false) (by first | rfl | (simp (disch := first | omega | (simp only [add_nx, upd_nx] <;> omega) | decide) only [rUz, ↓reduceIte, Nat.reduceEqDiff, Nat.reduceAdd] <;> rfl)) (fun e => by cases e) (fun _ => ?_)
    repeat refine S.seq ?_
    refine S.skip ?_
    simp (disch := first | omega | (simp only [add_nx, upd_nx] <;> omega) | decide) only [rUz, ↓reduceIte, Nat.reduceEqDiff, Nat.reduceAdd]
    repeat refine S.seq ?_
    refine S.region ?_
    simp (disch := first | omega | (simp only [add_nx, upd_nx] <;> omega) | decide) only [rUz, ↓reduceIte, Nat.reduceEqDiff, Nat.reduceAdd, hdd, decide_true]
    refine awake ?_
    simp (disch := first | omega | (simp only [add_nx, upd_nx] <;> omega) | decide) only [rUz, ↓reduceIte, Nat.reduceEqDiff, Nat.reduceAdd]
    refine S.ret ?_
    try simp only [seqK_ret, blockK_ret]
    subst hF
    simp only [finish, endMarks]
    rw [show Tryz.f8.results.toList = [.tmp 2] from rfl]
    simp (disch := first | omega | (simp only [add_nx, upd_nx] <;> omega) | decide) only [resA, ev_tmp, tget_ne, tget_eq, get_ne, get_eq, upd_eq, upd_ne, ag_eq, ag_ne, result1]
    exact hKr _ hk1
end Go.Proofs.Po
