import Derived.Test.YtemmpnipmklacaaRn8
namespace Go.Proofs.Rg
open Go Go.Ev
set_option linter.unusedSimpArgs false

/-! ## The calls of the program -/
theorem tup0 (a b : Value) : (⟨[a, b]⟩ : Array Value)[0]? = some a := rfl
theorem tup1 (a b : Value) : (⟨[a, b]⟩ : Array Value)[1]? = some b := rfl
def Res (v : Value) (h : AHeap) (r : List Int × Int) : Prop := ∃ lv, v = .tuple ⟨[lv, iv r.2]⟩ ∧ IAt h lv r.1
def diffP (hs : Int) (cs : List C4) : List Int × Int := if faultZ hs cs = 0 then (bal hs.toNat cs (nums cs), 0) else ([], faultZ hs cs)
def moneyP (hs : Int) (cs : List C4) (p : Int) : List Int × Int := if faultZ hs cs = 0 then (if inB p 1 1000 = true then (bal hs.toNat cs (pays p cs), 0) else ([], 2)) else ([], faultZ hs cs)
def failsP (hs : Int) (cs : List C4) (k p : Int) : List Int × Int := if faultZ hs cs = 0 then (if (inB p 1 1000 && inB k 0 (hs - 1)) = true then (lossP hs.toNat cs k.toNat p, 0) else ([], 2)) else ([], faultZ hs cs)
def lookP (hs : Int) (cs : List C4) (b : Bool) : Int := if faultZ hs cs = 0 then (bif b then 0 else 2) else faultZ hs cs
theorem veq_book {h : AHeap} {cv : Value} {cs : List C4} (hc : CAt h cv cs) (hs : Int) : veq (.agg ⟨[iv hs, cv]⟩) (.agg ⟨[iv hs, cv]⟩) = true := by
  have h1 : veq cv cv = true := by
    rcases hc with ⟨_, rfl | rfl⟩ | ⟨b, cap, f, ro, _, rfl, _⟩
    · simp only [veq]
    · simp only [emptyS, veq]
    · simp only [veq, Nat.beq_refl, Bool.and_self]
  simp only [veq, veqA, veqL, h1, beqKind, beqI_eq, decide_true, Bool.and_self]

variable {pr : Prim} {R : ExT}
set_option maxHeartbeats 8000000 in
theorem look_y (S : Ev.Steps Try.prog pr R) (hoff : Off pr) (h0 : AHeap) (hs : Int) (cv : Value) (cs : List C4) (hc : CAt h0 cv cs) (hsz : (cs.length : Int) ≤ 1000000) (b : Bool) :
    Brings Try.prog R 41 [.agg ⟨[iv hs, cv]⟩, .bool b] h0 fun v _ => v = iv (lookP hs cs b) := by
  refine brings_of (fn := Try.f41) (c := (Try.f41.body).getD .skip) (by kernel_rfl) rfl (by kernel_rfl) rfl (fun K hK => ?_)
  generalize hF : finish Try.prog Try.f41 K = KF
  simp only [Try.f41, Option.getD_some, argsT, setArgs, fV1_eq, T.setK_eq, id]
  repeat refine S.seq ?_
  refine S.region ?_
  simp (disch := first | omega | (simp only [add_nx, upd_nx] <;> omega) | decide) only [rUz, ↓reduceIte, Nat.reduceEqDiff, Nat.reduceAdd]
  repeat refine S.seq ?_
  refine S.region ?_
  simp (disch := first | omega | (simp only [add_nx, upd_nx] <;> omega) | decide) only [rUz, ↓reduceIte, Nat.reduceEqDiff, Nat.reduceAdd, pB]
  refine wr_brings (fid := 14) (first := #[]) (captured := #[]) (Post := fun v _ => v = iv (faultZ hs cs)) (by first | rfl | (simp (disch := first | omega | (simp only [add_nx, upd_nx] <;> omega) | decide) only [rUz, ↓reduceIte, Nat.reduceEqDiff, Nat.reduceAdd] <;> rfl)) (hoff _ _ _ rfl) (by simp (disch := first | omega | (simp only [add_nx, upd_nx] <;> omega) | decide) only [rUz, ↓reduceIte, Nat.reduceEqDiff, Nat.reduceAdd]; exact check_y S hoff _ hs cv cs (hc.mono Kp.refl.add) hsz) ?_
  rintro v g hk rfl
  have hk2 := Kp.refl.add.trans hk
  simp (disch := first | omega | (simp only [add_nx, upd_nx] <;> omega) | decide) only [rUz, ↓reduceIte, Nat.reduceEqDiff, Nat.reduceAdd]
  unfold lookP at hK
  by_cases hf : faultZ hs cs = 0
  · rw [if_pos hf] at hK
    have hd : (!decide (faultZ hs cs = 0)) = false := by rw [decide_eq_true hf]; rfl
    repeat refine S.seq ?_
    refine S.region ?_
    simp (disch := first | omega | (simp only [add_nx, upd_nx] <;> omega) | decide) only [rUz, ↓reduceIte, Nat.reduceEqDiff, Nat.reduceAdd, hd]
    repeat refine S.seq ?_
    refine S.cond (v := false) (by first | rfl | (simp (disch := first | omega | (simp only [add_nx, upd_nx] <;> omega) | decide) only [rUz, ↓reduceIte, Nat.reduceEqDiff, Nat.reduceAdd] <;> rfl)) (fun e => by cases e) (fun _ => ?_)
    repeat refine S.seq ?_
    refine S.skip ?_
    simp (disch := first | omega | (simp only [add_nx, upd_nx] <;> omega) | decide) only [rUz, ↓reduceIte, Nat.reduceEqDiff, Nat.reduceAdd]
    repeat refine S.seq ?_
    refine S.region ?_
    simp (disch := first | omega | (simp only [add_nx, upd_nx] <;> omega) | decide) only [rUz, ↓reduceIte, Nat.reduceEqDiff, Nat.reduceAdd]
    cases b with
    | true =>
      repeat refine S.seq ?_
      refine S.cond (v := false) (by first | rfl | (simp (disch := first | omega | (simp only [add_nx, upd_nx] <;> omega) | decide) only [rUz, ↓reduceIte, Nat.reduceEqDiff, Nat.reduceAdd, un_not, Bool.not_true] <;> rfl)) (fun e => by cases e) (fun _ => ?_)
      repeat refine S.seq ?_
      refine S.skip ?_
      simp (disch := first | omega | (simp only [add_nx, upd_nx] <;> omega) | decide) only [rUz, ↓reduceIte, Nat.reduceEqDiff, Nat.reduceAdd]
      repeat refine S.seq ?_
      refine S.region ?_
      simp (disch := first | omega | (simp only [add_nx, upd_nx] <;> omega) | decide) only [rUz, ↓reduceIte, Nat.reduceEqDiff, Nat.reduceAdd]
      refine S.ret ?_
      try simp only [seqK_ret, blockK_ret]
      subst hF
      simp only [finish, endMarks]
      rw [show Try.f41.results.toList = [.tmp 4] from rfl]
      simp (disch := first | omega | (simp only [add_nx, upd_nx] <;> omega) | decide) only [resA, ev_tmp, tget_ne, tget_eq, get_ne, get_eq, upd_eq, upd_ne, ag_eq, ag_ne, result1]
      exact hK _ _ hk2 rfl
    | false =>
      repeat refine S.seq ?_
      refine S.cond (v := true) (by first | rfl | (simp (disch := first | omega | (simp only [add_nx, upd_nx] <;> omega) | decide) only [rUz, ↓reduceIte, Nat.reduceEqDiff, Nat.reduceAdd, un_not, Bool.not_false] <;> rfl)) (fun _ => ?_) (fun e => by cases e)
      repeat refine S.seq ?_
      refine S.region ?_
      simp (disch := first | omega | (simp only [add_nx, upd_nx] <;> omega) | decide) only [rUz, ↓reduceIte, Nat.reduceEqDiff, Nat.reduceAdd]
      refine S.ret ?_
      try simp only [seqK_ret, blockK_ret]
      subst hF
      simp only [finish, endMarks]
      rw [show Try.f41.results.toList = [.tmp 4] from rfl]
      simp (disch := first | omega | (simp only [add_nx, upd_nx] <;> omega) | decide) only [resA, ev_tmp, tget_ne, tget_eq, get_ne, get_eq, upd_eq, upd_ne, ag_eq, ag_ne, result1]
      exact hK _ _ hk2 rfl
  · rw [if_neg hf] at hK
    have hd : (!decide (faultZ hs cs = 0)) = true := by rw [decide_eq_false hf]; rfl
    repeat refine S.seq ?_
    refine S.region ?_
    simp (disch := first | omega | (simp only [add_nx, upd_nx] <;> omega) | decide) only [rUz, ↓reduceIte, Nat.reduceEqDiff, Nat.reduceAdd, hd]
    repeat refine S.seq ?_
    refine S.cond (v := true) (by first | rfl | (simp (disch := first | omega | (simp only [add_nx, upd_nx] <;> omega) | decide) only [rUz, ↓reduceIte, Nat.reduceEqDiff, Nat.reduceAdd] <;> rfl)) (fun _ => ?_) (fun e => by cases e)
    repeat refine S.seq ?_
    refine S.region ?_
    simp (disch := first | omega | (simp only [add_nx, upd_nx] <;> omega) | decide) only [rUz, ↓reduceIte, Nat.reduceEqDiff, Nat.reduceAdd]
    refine S.ret ?_
    try simp only [seqK_ret, blockK_ret]
    subst hF
    simp only [finish, endMarks]
    rw [show Try.f41.results.toList = [.tmp 4] from rfl]
    simp (disch := first | omega | (simp only [add_nx, upd_nx] <;> omega) | decide) only [resA, ev_tmp, tget_ne, tget_eq, get_ne, get_eq, upd_eq, upd_ne, ag_eq, ag_ne, result1]
    exact hK _ _ hk2 rfl

set_option maxHeartbeats 8000000 in
theorem Differences_y (S : Ev.Steps Try.prog pr R) (hoff : Off pr) (h0 : AHeap) (hs : Int) (cv : Value) (cs : List C4) (hc : CAt h0 cv cs) (hsz : cs.length ≤ 12) :
    Brings Try.prog R 10 [.agg ⟨[iv hs, cv]⟩] h0 fun v h => Res v h (diffP hs cs) := by
  refine brings_of (fn := Try.f10) (c := (Try.f10.body).getD .skip) (by kernel_rfl) rfl (by kernel_rfl) rfl (fun K hK => ?_)
  generalize hF : finish Try.prog Try.f10 K = KF
  simp only [Try.f10, Option.getD_some, argsT, setArgs, fV1_eq, T.setK_eq, id]
  repeat refine S.seq ?_
  refine S.region ?_
  simp (disch := first | omega | (simp only [add_nx, upd_nx] <;> omega) | decide) only [rUz, ↓reduceIte, Nat.reduceEqDiff, Nat.reduceAdd]
  have hb1 : (h0.add [iv hs, cv]).bl.get h0.nx = some (.cells [iv hs, cv] h0.nx false) := ag_eq rfl
  have hk1 : Kp h0 (h0.add [iv hs, cv]) := Kp.refl.add
  have hlt : h0.nx < (h0.add [iv hs, cv]).nx := Nat.lt_succ_self _
  generalize h0.add [iv hs, cv] = H1 at hb1 hk1 hlt ⊢
  repeat refine S.seq ?_
  refine S.region ?_
  simp (disch := first | omega | (simp only [add_nx, upd_nx] <;> omega) | decide) only [rUz, ↓reduceIte, Nat.reduceEqDiff, Nat.reduceAdd, hb1, pB]
  refine wr_brings (fid := 14) (first := #[]) (captured := #[]) (Post := fun v _ => v = iv (faultZ hs cs)) (by first | rfl | (simp (disch := first | omega | (simp only [add_nx, upd_nx] <;> omega) | decide) only [rUz, ↓reduceIte, Nat.reduceEqDiff, Nat.reduceAdd] <;> rfl)) (hoff _ _ _ rfl) (by simp (disch := first | omega | (simp only [add_nx, upd_nx] <;> omega) | decide) only [rUz, ↓reduceIte, Nat.reduceEqDiff, Nat.reduceAdd]; exact check_y S hoff _ hs cv cs (hc.mono hk1) (by omega)) ?_
  rintro v g hk rfl
  have hk2 := hk1.trans hk
  have hb2 := (hk.get hlt).trans hb1
  simp (disch := first | omega | (simp only [add_nx, upd_nx] <;> omega) | decide) only [rUz, ↓reduceIte, Nat.reduceEqDiff, Nat.reduceAdd]
  unfold diffP at hK
  by_cases hf : faultZ hs cs = 0
  · obtain ⟨n, rfl, hn1, hn6, hcl, hv⟩ := Hs.of_fault hf
    rw [if_pos hf] at hK
    have hd : (!decide (faultZ (n : Int) cs = 0)) = false := by rw [decide_eq_true hf]; rfl
    repeat refine S.seq ?_
    refine S.region ?_
    simp (disch := first | omega | (simp only [add_nx, upd_nx] <;> omega) | decide) only [rUz, ↓reduceIte, Nat.reduceEqDiff, Nat.reduceAdd, hd]
    repeat refine S.seq ?_
    refine S.cond (v := false) (by first | rfl | (simp (disch := first | omega | (simp only [add_nx, upd_nx] <;> omega) | decide) only [rUz, ↓reduceIte, Nat.reduceEqDiff, Nat.reduceAdd] <;> rfl)) (fun e => by cases e) (fun _ => ?_)
    repeat refine S.seq ?_
    refine S.skip ?_
    simp (disch := first | omega | (simp only [add_nx, upd_nx] <;> omega) | decide) only [rUz, ↓reduceIte, Nat.reduceEqDiff, Nat.reduceAdd]
    repeat refine S.seq ?_
    refine S.region ?_
    simp (disch := first | omega | (simp only [add_nx, upd_nx] <;> omega) | decide) only [rUz, ↓reduceIte, Nat.reduceEqDiff, Nat.reduceAdd, hb2, pB]
    refine wr_brings (fid := 40) (first := #[]) (captured := #[]) (Post := fun v h' => ∃ B, v = .slice (some ⟨B, 0, none⟩) n n ∧ g.nx ≤ B ∧ Own h' B (bal n cs (nums cs))) (by first | rfl | (simp (disch := first | omega | (simp only [add_nx, upd_nx] <;> omega) | decide) only [rUz, ↓reduceIte, Nat.reduceEqDiff, Nat.reduceAdd] <;> rfl)) (hoff _ _ _ rfl) (by simp (disch := first | omega | (simp only [add_nx, upd_nx] <;> omega) | decide) only [rUz, ↓reduceIte, Nat.reduceEqDiff, Nat.reduceAdd]; exact differences_y S hoff g n hn6 cv cs (hc.mono hk2) hsz hv) ?_
    rintro v g2 hk3 ⟨B, rfl, _, hO⟩
    simp (disch := first | omega | (simp only [add_nx, upd_nx] <;> omega) | decide) only [rUz, ↓reduceIte, Nat.reduceEqDiff, Nat.reduceAdd]
    refine S.ret ?_
    try simp only [seqK_ret, blockK_ret]
    subst hF
    simp only [finish, endMarks]
    rw [show Try.f10.results.toList = [.tmp 2, .tmp 3] from rfl]
    simp (disch := first | omega | (simp only [add_nx, upd_nx] <;> omega) | decide) only [resA, ev_tmp, tget_ne, tget_eq, get_ne, get_eq, upd_eq, upd_ne, ag_eq, ag_ne, result1]
    exact hK _ _ (hk2.trans hk3) ⟨_, rfl, hO.at' (by rw [bal_len])⟩
  · rw [if_neg hf] at hK
    have hd : (!decide (faultZ hs cs = 0)) = true := by rw [decide_eq_false hf]; rfl
    repeat refine S.seq ?_
    refine S.region ?_
    simp (disch := first | omega | (simp only [add_nx, upd_nx] <;> omega) | decide) only [rUz, ↓reduceIte, Nat.reduceEqDiff, Nat.reduceAdd, hd]
    repeat refine S.seq ?_
    refine S.cond (v := true) (by first | rfl | (simp (disch := first | omega | (simp only [add_nx, upd_nx] <;> omega) | decide) only [rUz, ↓reduceIte, Nat.reduceEqDiff, Nat.reduceAdd] <;> rfl)) (fun _ => ?_) (fun e => by cases e)
    repeat refine S.seq ?_
    refine S.region ?_
    simp (disch := first | omega | (simp only [add_nx, upd_nx] <;> omega) | decide) only [rUz, ↓reduceIte, Nat.reduceEqDiff, Nat.reduceAdd]
    refine S.ret ?_
    try simp only [seqK_ret, blockK_ret]
    subst hF
    simp only [finish, endMarks]
    rw [show Try.f10.results.toList = [.tmp 2, .tmp 3] from rfl]
    simp (disch := first | omega | (simp only [add_nx, upd_nx] <;> omega) | decide) only [resA, ev_tmp, tget_ne, tget_eq, get_ne, get_eq, upd_eq, upd_ne, ag_eq, ag_ne, result1]
    exact hK _ _ hk2 ⟨_, rfl, .inl ⟨rfl, .inl rfl⟩⟩

set_option maxHeartbeats 8000000 in
theorem Money_y (S : Ev.Steps Try.prog pr R) (hoff : Off pr) (h0 : AHeap) (hs : Int) (cv : Value) (cs : List C4) (hc : CAt h0 cv cs) (hsz : cs.length ≤ 12) (p : Int) :
    Brings Try.prog R 12 [.agg ⟨[iv hs, cv]⟩, iv p] h0 fun v h => Res v h (moneyP hs cs p) := by
  refine brings_of (fn := Try.f12) (c := (Try.f12.body).getD .skip) (by kernel_rfl) rfl (by kernel_rfl) rfl (fun K hK => ?_)
  generalize hF : finish Try.prog Try.f12 K = KF
  simp only [Try.f12, Option.getD_some, argsT, setArgs, fV1_eq, T.setK_eq, id]
  repeat refine S.seq ?_
  refine S.region ?_
  simp (disch := first | omega | (simp only [add_nx, upd_nx] <;> omega) | decide) only [rUz, ↓reduceIte, Nat.reduceEqDiff, Nat.reduceAdd]
  have hb1 : (h0.add [iv hs, cv]).bl.get h0.nx = some (.cells [iv hs, cv] h0.nx false) := ag_eq rfl
  have hk1 : Kp h0 (h0.add [iv hs, cv]) := Kp.refl.add
  have hlt : h0.nx < (h0.add [iv hs, cv]).nx := Nat.lt_succ_self _
  have hve := veq_book hc hs
  generalize h0.add [iv hs, cv] = H1 at hb1 hk1 hlt ⊢
  repeat refine S.seq ?_
  refine S.drawnL [(false, 0), (false, 0), (true, 2), (true, 7), (false, 15)] (by kernel_rfl) (by kernel_rfl) (by kernel_rfl) ?_
  simp (disch := first | omega | (simp only [add_nx, upd_nx] <;> omega) | decide) only [rUz, ↓reduceIte, Nat.reduceEqDiff, Nat.reduceAdd, rDz, infoL, Nat.reduceSub, hb1, pB]
  refine drW_brings (fid := 42) (first := #[]) (captured := #[]) (Post := fun v h => v = .bool (inB p 1 1000) ∧ h = H1) (by first | rfl | (simp (disch := first | omega | (simp only [add_nx, upd_nx] <;> omega) | decide) only [rUz, ↓reduceIte, Nat.reduceEqDiff, Nat.reduceAdd]; rfl) | (simp (disch := first | omega | (simp only [add_nx, upd_nx] <;> omega) | decide) only [rUz, ↓reduceIte, Nat.reduceEqDiff, Nat.reduceAdd])) (hoff _ _ _ rfl) (by simp (disch := first | omega | (simp only [add_nx, upd_nx] <;> omega) | decide) only [rUz, ↓reduceIte, Nat.reduceEqDiff, Nat.reduceAdd]; exact isPrice_y S _ _) (Nat.le_of_ble_eq_true rfl) ?_
  rintro v g - ⟨rfl, rfl⟩
  refine ⟨?_, ?_⟩
  · try simp (disch := first | decide | rfl) only [again_nil, again_skip, again_free]
    rw [again_same (v := .agg ⟨[iv hs, cv]⟩) (by simp (disch := first | omega | (simp only [add_nx, upd_nx] <;> omega) | decide) only [rUz, ↓reduceIte, Nat.reduceEqDiff, Nat.reduceAdd, rDz, infoL, Nat.reduceSub, hb1, pB]) (by first | assumption | exact veq_int | rfl)]
    try simp (disch := first | decide | rfl) only [again_nil, again_skip, again_free]
  simp (disch := first | omega | (simp only [add_nx, upd_nx] <;> omega) | decide) only [rUz, ↓reduceIte, Nat.reduceEqDiff, Nat.reduceAdd, rDz, infoL, Nat.reduceSub]
  refine drW_brings (fid := 41) (first := #[]) (captured := #[]) (Post := fun v _ => v = iv (lookP hs cs (inB p 1 1000))) (by first | rfl | (simp (disch := first | omega | (simp only [add_nx, upd_nx] <;> omega) | decide) only [rUz, ↓reduceIte, Nat.reduceEqDiff, Nat.reduceAdd]; rfl) | (simp (disch := first | omega | (simp only [add_nx, upd_nx] <;> omega) | decide) only [rUz, ↓reduceIte, Nat.reduceEqDiff, Nat.reduceAdd])) (hoff _ _ _ rfl) (by simp (disch := first | omega | (simp only [add_nx, upd_nx] <;> omega) | decide) only [rUz, ↓reduceIte, Nat.reduceEqDiff, Nat.reduceAdd]; exact look_y S hoff _ hs cv cs (hc.mono hk1) (by omega) _) (Nat.le_of_ble_eq_true rfl) ?_
  rintro v g2 hk rfl
  refine ⟨?_, ?_⟩
  · try simp (disch := first | decide | rfl) only [again_nil, again_skip, again_free]
  simp (disch := first | omega | (simp only [add_nx, upd_nx] <;> omega) | decide) only [rUz, ↓reduceIte, Nat.reduceEqDiff, Nat.reduceAdd, rDz, infoL, Nat.reduceSub]
  have hk2 := hk1.trans hk
  have hb2 := (hk.get hlt).trans hb1
  unfold moneyP at hK
  by_cases hf : lookP hs cs (inB p 1 1000) = 0
  · have hd : (!decide (lookP hs cs (inB p 1 1000) = 0)) = false := by rw [decide_eq_true hf]; rfl
    repeat refine S.seq ?_
    refine S.region ?_
    simp (disch := first | omega | (simp only [add_nx, upd_nx] <;> omega) | decide) only [rUz, ↓reduceIte, Nat.reduceEqDiff, Nat.reduceAdd, hd]
    repeat refine S.seq ?_
    refine S.cond (v := false) (by first | rfl | (simp (disch := first | omega | (simp only [add_nx, upd_nx] <;> omega) | decide) only [rUz, ↓reduceIte, Nat.reduceEqDiff, Nat.reduceAdd] <;> rfl)) (fun e => by cases e) (fun _ => ?_)
    repeat refine S.seq ?_
    refine S.skip ?_
    simp (disch := first | omega | (simp only [add_nx, upd_nx] <;> omega) | decide) only [rUz, ↓reduceIte, Nat.reduceEqDiff, Nat.reduceAdd]
    unfold lookP at hf
    by_cases hz : faultZ hs cs = 0
    · rw [if_pos hz] at hf hK
      have hp : inB p 1 1000 = true := by
        cases h : inB p 1 1000 with
        | true => rfl
        | false => rw [h, cond_false] at hf; omega
      rw [if_pos hp] at hK
      obtain ⟨n, rfl, hn1, hn6, hcl, hv⟩ := Hs.of_fault hz
      simp only [inB, Bool.and_eq_true, decide_eq_true_eq] at hp
      repeat refine S.seq ?_
      refine S.drawnL [(false, 0), (false, 0), (false, 0), (true, 6), (true, 15), (false, 31), (false, 63)] (by kernel_rfl) (by kernel_rfl) (by kernel_rfl) ?_
      simp (disch := first | omega | (simp only [add_nx, upd_nx] <;> omega) | decide) only [rUz, ↓reduceIte, Nat.reduceEqDiff, Nat.reduceAdd, rDz, infoL, Nat.reduceSub, hb2, pB]
      refine drW_brings (fid := 44) (first := #[]) (captured := #[]) (Post := fun v h' => ∃ B, v = .slice (some ⟨B, 0, none⟩) cs.length cs.length ∧ g2.nx ≤ B ∧ Own h' B (pays p cs)) (by first | rfl | (simp (disch := first | omega | (simp only [add_nx, upd_nx] <;> omega) | decide) only [rUz, ↓reduceIte, Nat.reduceEqDiff, Nat.reduceAdd]; rfl) | (simp (disch := first | omega | (simp only [add_nx, upd_nx] <;> omega) | decide) only [rUz, ↓reduceIte, Nat.reduceEqDiff, Nat.reduceAdd])) (hoff _ _ _ rfl) (by simp (disch := first | omega | (simp only [add_nx, upd_nx] <;> omega) | decide) only [rUz, ↓reduceIte, Nat.reduceEqDiff, Nat.reduceAdd]; exact payments_y S g2 n _ cv cs (hc.mono hk2) hsz hv p hp.1 hp.2) (Nat.le_of_ble_eq_true rfl) ?_
      rintro v g3 hk3 ⟨B, rfl, _, hO⟩
      have hb3 := (hk3.get (Nat.lt_of_lt_of_le hlt hk.1)).trans hb2
      refine ⟨?_, ?_⟩
      · try simp (disch := first | decide | rfl) only [again_nil, again_skip, again_free]
        rw [again_same (v := .agg ⟨[iv (n : Int), cv]⟩) (by simp (disch := first | omega | (simp only [add_nx, upd_nx] <;> omega) | decide) only [rUz, ↓reduceIte, Nat.reduceEqDiff, Nat.reduceAdd, rDz, infoL, Nat.reduceSub, hb3, pB]) (by first | assumption | exact veq_int | rfl)]
        try simp (disch := first | decide | rfl) only [again_nil, again_skip, again_free]
      simp (disch := first | omega | (simp only [add_nx, upd_nx] <;> omega) | decide) only [rUz, ↓reduceIte, Nat.reduceEqDiff, Nat.reduceAdd, rDz, infoL, Nat.reduceSub]
      refine drW_brings (fid := 43) (first := #[]) (captured := #[]) (Post := fun v h' => ∃ B, v = .slice (some ⟨B, 0, none⟩) n n ∧ g3.nx ≤ B ∧ Own h' B (bal n cs (pays p cs))) (by first | rfl | (simp (disch := first | omega | (simp only [add_nx, upd_nx] <;> omega) | decide) only [rUz, ↓reduceIte, Nat.reduceEqDiff, Nat.reduceAdd]; rfl) | (simp (disch := first | omega | (simp only [add_nx, upd_nx] <;> omega) | decide) only [rUz, ↓reduceIte, Nat.reduceEqDiff, Nat.reduceAdd])) (hoff _ _ _ rfl) (by simp (disch := first | omega | (simp only [add_nx, upd_nx] <;> omega) | decide) only [rUz, ↓reduceIte, Nat.reduceEqDiff, Nat.reduceAdd]; exact balances_y S hoff g3 n hn6 cv cs (hc.mono (hk2.trans hk3)) hsz hv _ _ (hO.at' (by rw [pays, List.length_map])) (by rw [pays, List.length_map]) (pays_bnd hv hp.1 hp.2)) (Nat.le_of_ble_eq_true rfl) ?_
      rintro v g4 hk4 ⟨B', rfl, _, hO'⟩
      refine ⟨?_, ?_⟩
      · try simp (disch := first | decide | rfl) only [again_nil, again_skip, again_free]
      simp (disch := first | omega | (simp only [add_nx, upd_nx] <;> omega) | decide) only [rUz, ↓reduceIte, Nat.reduceEqDiff, Nat.reduceAdd, rDz, infoL, Nat.reduceSub]
      refine S.ret ?_
      try simp only [seqK_ret, blockK_ret]
      subst hF
      simp only [finish, endMarks]
      rw [show Try.f12.results.toList = [.tmp 4, .tmp 5] from rfl]
      simp (disch := first | omega | (simp only [add_nx, upd_nx] <;> omega) | decide) only [resA, ev_tmp, tget_ne, tget_eq, get_ne, get_eq, upd_eq, upd_ne, ag_eq, ag_ne, result1]
      exact hK _ _ (hk2.trans (hk3.trans hk4)) ⟨_, rfl, hO'.at' (by rw [bal_len])⟩
    · rw [if_neg hz] at hf
      exact absurd hf hz
  · have hd : (!decide (lookP hs cs (inB p 1 1000) = 0)) = true := by rw [decide_eq_false hf]; rfl
    have hl : (if faultZ hs cs = 0 then (if inB p 1 1000 = true then (bal hs.toNat cs (pays p cs), (0 : Int)) else ([], 2)) else ([], faultZ hs cs)) = ([], lookP hs cs (inB p 1 1000)) := by
      unfold lookP at hf ⊢
      by_cases hz : faultZ hs cs = 0
      · rw [if_pos hz] at hf ⊢
        rw [if_pos hz]
        cases h : inB p 1 1000 with
        | true => rw [h, cond_true] at hf; exact absurd rfl hf
        | false => rfl
      · rw [if_neg hz, if_neg hz]
    rw [hl] at hK
    repeat refine S.seq ?_
    refine S.region ?_
    simp (disch := first | omega | (simp only [add_nx, upd_nx] <;> omega) | decide) only [rUz, ↓reduceIte, Nat.reduceEqDiff, Nat.reduceAdd, hd]
    repeat refine S.seq ?_
    refine S.cond (v := true) (by first | rfl | (simp (disch := first | omega | (simp only [add_nx, upd_nx] <;> omega) | decide) only [rUz, ↓reduceIte, Nat.reduceEqDiff, Nat.reduceAdd] <;> rfl)) (fun _ => ?_) (fun e => by cases e)
    repeat refine S.seq ?_
    refine S.region ?_
    simp (disch := first | omega | (simp only [add_nx, upd_nx] <;> omega) | decide) only [rUz, ↓reduceIte, Nat.reduceEqDiff, Nat.reduceAdd]
    refine S.ret ?_
    try simp only [seqK_ret, blockK_ret]
    subst hF
    simp only [finish, endMarks]
    rw [show Try.f12.results.toList = [.tmp 4, .tmp 5] from rfl]
    simp (disch := first | omega | (simp only [add_nx, upd_nx] <;> omega) | decide) only [resA, ev_tmp, tget_ne, tget_eq, get_ne, get_eq, upd_eq, upd_ne, ag_eq, ag_ne, result1]
    exact hK _ _ hk2 ⟨_, rfl, .inl ⟨rfl, .inl rfl⟩⟩

set_option maxHeartbeats 8000000 in
theorem Fails_y (S : Ev.Steps Try.prog pr R) (hoff : Off pr) (h0 : AHeap) (hs : Int) (cv : Value) (cs : List C4) (hc : CAt h0 cv cs) (hsz : cs.length ≤ 12) (k p : Int) :
    Brings Try.prog R 13 [.agg ⟨[iv hs, cv]⟩, iv k, iv p] h0 fun v h => Res v h (failsP hs cs k p) := by
  refine brings_of (fn := Try.f13) (c := (Try.f13.body).getD .skip) (by kernel_rfl) rfl (by kernel_rfl) rfl (fun K hK => ?_)
  generalize hF : finish Try.prog Try.f13 K = KF
  simp only [Try.f13, Option.getD_some, argsT, setArgs, fV1_eq, T.setK_eq, id]
  repeat refine S.seq ?_
  refine S.region ?_
  simp (disch := first | omega | (simp only [add_nx, upd_nx] <;> omega) | decide) only [rUz, ↓reduceIte, Nat.reduceEqDiff, Nat.reduceAdd]
  have hb1 : (h0.add [iv hs, cv]).bl.get h0.nx = some (.cells [iv hs, cv] h0.nx false) := ag_eq rfl
  have hk1 : Kp h0 (h0.add [iv hs, cv]) := Kp.refl.add
  have hlt : h0.nx < (h0.add [iv hs, cv]).nx := Nat.lt_succ_self _
  have hve := veq_book hc hs
  generalize h0.add [iv hs, cv] = H1 at hb1 hk1 hlt ⊢
  unfold failsP at hK
  repeat refine S.seq ?_
  refine S.drawnL [(false, 0), (false, 0), (true, 2), (false, 6), (false, 14), (false, 14), (true, 62), (false, 126), (true, 255), (false, 511)] (by kernel_rfl) (by kernel_rfl) (by kernel_rfl) ?_
  generalize hJJ : (fun (t : T Value) (h : AHeap) => _) = KJ
  have hJ : ∀ (t : T Value) (g : AHeap), Kp H1 g → tget t 1 = iv k → tget t 2 = iv p → tget t 3 = ptr0 h0.nx → tget t 8 = iv (lookP hs cs (inB p 1 1000 && inB k 0 (hs - 1))) → KJ t g = true := by
    intro t g hk t1 t2 t3 t8
    subst hJJ
    simp only [seqK_normal]
    have hk2 := hk1.trans hk
    have hb2 := (hk.get hlt).trans hb1
    by_cases hf : lookP hs cs (inB p 1 1000 && inB k 0 (hs - 1)) = 0
    · have hd : (!decide (lookP hs cs (inB p 1 1000 && inB k 0 (hs - 1)) = 0)) = false := by rw [decide_eq_true hf]; rfl
      repeat refine S.seq ?_
      refine S.region ?_
      simp (disch := first | omega | (simp only [add_nx, upd_nx] <;> omega) | decide) only [rUz, ↓reduceIte, Nat.reduceEqDiff, Nat.reduceAdd, t8, hd]
      repeat refine S.seq ?_
      refine S.cond (v := false) (by first | rfl | (simp (disch := first | omega | (simp only [add_nx, upd_nx] <;> omega) | decide) only [rUz, ↓reduceIte, Nat.reduceEqDiff, Nat.reduceAdd] <;> rfl)) (fun e => by cases e) (fun _ => ?_)
      repeat refine S.seq ?_
      refine S.skip ?_
      simp (disch := first | omega | (simp only [add_nx, upd_nx] <;> omega) | decide) only [rUz, ↓reduceIte, Nat.reduceEqDiff, Nat.reduceAdd]
      unfold lookP at hf
      by_cases hz : faultZ hs cs = 0
      · rw [if_pos hz] at hf hK
        have hp : (inB p 1 1000 && inB k 0 (hs - 1)) = true := by
          cases h : (inB p 1 1000 && inB k 0 (hs - 1)) with
          | true => rfl
          | false => rw [h, cond_false] at hf; omega
        rw [if_pos hp] at hK
        obtain ⟨n, rfl, hn1, hn6, hcl, hv⟩ := Hs.of_fault hz
        simp only [inB, Bool.and_eq_true, decide_eq_true_eq] at hp
        obtain ⟨kh, rfl⟩ : ∃ kh : Nat, k = (kh : Int) := ⟨k.toNat, by omega⟩
        have e1 : ((n : Int)).toNat = n := Int.toNat_natCast n
        have e2 : ((kh : Int)).toNat = kh := Int.toNat_natCast kh
        rw [e1, e2] at hK
        repeat refine S.seq ?_
        refine S.region ?_
        simp (disch := first | omega | (simp only [add_nx, upd_nx] <;> omega) | decide) only [rUz, ↓reduceIte, Nat.reduceEqDiff, Nat.reduceAdd, t1, t2, t3, hb2, pB]
        refine wr_brings (fid := 46) (first := #[]) (captured := #[]) (Post := fun v h' => ∃ B, v = .slice (some ⟨B, 0, none⟩) n n ∧ g.nx ≤ B ∧ Own h' B (lossP n cs kh p)) (by first | rfl | (simp (disch := first | omega | (simp only [add_nx, upd_nx] <;> omega) | decide) only [rUz, ↓reduceIte, Nat.reduceEqDiff, Nat.reduceAdd] <;> rfl)) (hoff _ _ _ rfl) (by simp (disch := first | omega | (simp only [add_nx, upd_nx] <;> omega) | decide) only [rUz, ↓reduceIte, Nat.reduceEqDiff, Nat.reduceAdd]; exact losses_y S hoff g n hn6 cv cs (hc.mono hk2) hsz hv kh (by omega) p hp.1.1 hp.1.2) ?_
        rintro v g2 hk3 ⟨B, rfl, _, hO⟩
        simp (disch := first | omega | (simp only [add_nx, upd_nx] <;> omega) | decide) only [rUz, ↓reduceIte, Nat.reduceEqDiff, Nat.reduceAdd]
        refine S.ret ?_
        try simp only [seqK_ret, blockK_ret]
        subst hF
        simp only [finish, endMarks]
        rw [show Try.f13.results.toList = [.tmp 6, .tmp 7] from rfl]
        simp (disch := first | omega | (simp only [add_nx, upd_nx] <;> omega) | decide) only [resA, ev_tmp, tget_ne, tget_eq, get_ne, get_eq, upd_eq, upd_ne, ag_eq, ag_ne, result1]
        exact hK _ _ (hk2.trans hk3) ⟨_, rfl, hO.at' (by rw [lossP, List.length_map, List.length_set, bal_len])⟩
      · rw [if_neg hz] at hf
        exact absurd hf hz
    · have hd : (!decide (lookP hs cs (inB p 1 1000 && inB k 0 (hs - 1)) = 0)) = true := by rw [decide_eq_false hf]; rfl
      have hl : (if faultZ hs cs = 0 then (if (inB p 1 1000 && inB k 0 (hs - 1)) = true then (lossP hs.toNat cs k.toNat p, (0 : Int)) else ([], 2)) else ([], faultZ hs cs)) = ([], lookP hs cs (inB p 1 1000 && inB k 0 (hs - 1))) := by
        unfold lookP at hf ⊢
        by_cases hz : faultZ hs cs = 0
        · rw [if_pos hz] at hf ⊢
          rw [if_pos hz]
          cases h : (inB p 1 1000 && inB k 0 (hs - 1)) with
          | true => rw [h, cond_true] at hf; exact absurd rfl hf
          | false => rfl
        · rw [if_neg hz, if_neg hz]
      rw [hl] at hK
      repeat refine S.seq ?_
      refine S.region ?_
      simp (disch := first | omega | (simp only [add_nx, upd_nx] <;> omega) | decide) only [rUz, ↓reduceIte, Nat.reduceEqDiff, Nat.reduceAdd, t8, hd]
      repeat refine S.seq ?_
      refine S.cond (v := true) (by first | rfl | (simp (disch := first | omega | (simp only [add_nx, upd_nx] <;> omega) | decide) only [rUz, ↓reduceIte, Nat.reduceEqDiff, Nat.reduceAdd] <;> rfl)) (fun _ => ?_) (fun e => by cases e)
      repeat refine S.seq ?_
      refine S.region ?_
      simp (disch := first | omega | (simp only [add_nx, upd_nx] <;> omega) | decide) only [rUz, ↓reduceIte, Nat.reduceEqDiff, Nat.reduceAdd, t8]
      refine S.ret ?_
      try simp only [seqK_ret, blockK_ret]
      subst hF
      simp only [finish, endMarks]
      rw [show Try.f13.results.toList = [.tmp 6, .tmp 7] from rfl]
      simp (disch := first | omega | (simp only [add_nx, upd_nx] <;> omega) | decide) only [resA, ev_tmp, tget_ne, tget_eq, get_ne, get_eq, upd_eq, upd_ne, ag_eq, ag_ne, result1]
      exact hK _ _ hk2 ⟨_, rfl, .inl ⟨rfl, .inl rfl⟩⟩
  clear hJJ hK
  simp (disch := first | omega | (simp only [add_nx, upd_nx] <;> omega) | decide) only [rUz, ↓reduceIte, Nat.reduceEqDiff, Nat.reduceAdd, rDz, infoL, Nat.reduceSub, hb1, pB]
  refine drW_brings (fid := 42) (first := #[]) (captured := #[]) (Post := fun v h => v = .bool (inB p 1 1000) ∧ h = H1) (by first | rfl | (simp (disch := first | omega | (simp only [add_nx, upd_nx] <;> omega) | decide) only [rUz, ↓reduceIte, Nat.reduceEqDiff, Nat.reduceAdd]; rfl) | (simp (disch := first | omega | (simp only [add_nx, upd_nx] <;> omega) | decide) only [rUz, ↓reduceIte, Nat.reduceEqDiff, Nat.reduceAdd])) (hoff _ _ _ rfl) (by simp (disch := first | omega | (simp only [add_nx, upd_nx] <;> omega) | decide) only [rUz, ↓reduceIte, Nat.reduceEqDiff, Nat.reduceAdd]; exact isPrice_y S _ _) (Nat.le_of_ble_eq_true rfl) ?_
  rintro v g - ⟨rfl, rfl⟩
  refine ⟨?_, ?_⟩
  · try simp (disch := first | decide | rfl) only [again_nil, again_skip, again_free]
    rw [again_same (v := .agg ⟨[iv hs, cv]⟩) (by simp (disch := first | omega | (simp only [add_nx, upd_nx] <;> omega) | decide) only [rUz, ↓reduceIte, Nat.reduceEqDiff, Nat.reduceAdd, rDz, infoL, Nat.reduceSub, hb1, pB]) (by first | assumption | exact veq_int | rfl)]
    try simp (disch := first | decide | rfl) only [again_nil, again_skip, again_free]
  cases hp : inB p 1 1000 with
  | false =>
    rw [hp, Bool.false_and] at hJ
    simp (disch := first | omega | (simp only [add_nx, upd_nx] <;> omega) | decide) only [rUz, ↓reduceIte, Nat.reduceEqDiff, Nat.reduceAdd, rDz, infoL, Nat.reduceSub, hp]
    refine drW_brings (fid := 41) (first := #[]) (captured := #[]) (Post := fun v _ => v = iv (lookP hs cs false)) (by first | rfl | (simp (disch := first | omega | (simp only [add_nx, upd_nx] <;> omega) | decide) only [rUz, ↓reduceIte, Nat.reduceEqDiff, Nat.reduceAdd]; rfl) | (simp (disch := first | omega | (simp only [add_nx, upd_nx] <;> omega) | decide) only [rUz, ↓reduceIte, Nat.reduceEqDiff, Nat.reduceAdd])) (hoff _ _ _ rfl) (by simp (disch := first | omega | (simp only [add_nx, upd_nx] <;> omega) | decide) only [rUz, ↓reduceIte, Nat.reduceEqDiff, Nat.reduceAdd]; exact look_y S hoff _ hs cv cs (hc.mono hk1) (by omega) _) (Nat.le_of_ble_eq_true rfl) ?_
    rintro v g2 hk rfl
    refine ⟨?_, ?_⟩
    · try simp (disch := first | decide | rfl) only [again_nil, again_skip, again_free]
    simp (disch := first | omega | (simp only [add_nx, upd_nx] <;> omega) | decide) only [rUz, ↓reduceIte, Nat.reduceEqDiff, Nat.reduceAdd, rDz, infoL, Nat.reduceSub]
    refine hJ _ _ hk ?_ ?_ ?_ ?_
    all_goals (first | rfl | (simp (disch := first | omega | (simp only [add_nx, upd_nx] <;> omega) | decide) only [rUz, ↓reduceIte, Nat.reduceEqDiff, Nat.reduceAdd]; done) | (simp (disch := first | omega | (simp only [add_nx, upd_nx] <;> omega) | decide) only [rUz, ↓reduceIte, Nat.reduceEqDiff, Nat.reduceAdd]; rfl))
  | true =>
    rw [hp, Bool.true_and] at hJ
    simp (disch := first | omega | (simp only [add_nx, upd_nx] <;> omega) | decide) only [rUz, ↓reduceIte, Nat.reduceEqDiff, Nat.reduceAdd, rDz, infoL, Nat.reduceSub, hp, hb1, pB]
    refine drW_brings (fid := 45) (first := #[]) (captured := #[]) (Post := fun v _ => v = .bool (inB k 0 (hs - 1))) (by first | rfl | (simp (disch := first | omega | (simp only [add_nx, upd_nx] <;> omega) | decide) only [rUz, ↓reduceIte, Nat.reduceEqDiff, Nat.reduceAdd]; rfl) | (simp (disch := first | omega | (simp only [add_nx, upd_nx] <;> omega) | decide) only [rUz, ↓reduceIte, Nat.reduceEqDiff, Nat.reduceAdd])) (hoff _ _ _ rfl) (by simp (disch := first | omega | (simp only [add_nx, upd_nx] <;> omega) | decide) only [rUz, ↓reduceIte, Nat.reduceEqDiff, Nat.reduceAdd]; exact hasHouse_y S _ _ _ _) (Nat.le_of_ble_eq_true rfl) ?_
    rintro v g2 hk rfl
    have hb2 := (hk.get hlt).trans hb1
    refine ⟨?_, ?_⟩
    · try simp (disch := first | decide | rfl) only [again_nil, again_skip, again_free]
      rw [again_same (v := .agg ⟨[iv hs, cv]⟩) (by simp (disch := first | omega | (simp only [add_nx, upd_nx] <;> omega) | decide) only [rUz, ↓reduceIte, Nat.reduceEqDiff, Nat.reduceAdd, rDz, infoL, Nat.reduceSub, hb2, pB]) (by first | assumption | exact veq_int | rfl)]
      try simp (disch := first | decide | rfl) only [again_nil, again_skip, again_free]
    simp (disch := first | omega | (simp only [add_nx, upd_nx] <;> omega) | decide) only [rUz, ↓reduceIte, Nat.reduceEqDiff, Nat.reduceAdd, rDz, infoL, Nat.reduceSub]
    refine drW_brings (fid := 41) (first := #[]) (captured := #[]) (Post := fun v _ => v = iv (lookP hs cs (inB k 0 (hs - 1)))) (by first | rfl | (simp (disch := first | omega | (simp only [add_nx, upd_nx] <;> omega) | decide) only [rUz, ↓reduceIte, Nat.reduceEqDiff, Nat.reduceAdd]; rfl) | (simp (disch := first | omega | (simp only [add_nx, upd_nx] <;> omega) | decide) only [rUz, ↓reduceIte, Nat.reduceEqDiff, Nat.reduceAdd])) (hoff _ _ _ rfl) (by simp (disch := first | omega | (simp only [add_nx, upd_nx] <;> omega) | decide) only [rUz, ↓reduceIte, Nat.reduceEqDiff, Nat.reduceAdd]; exact look_y S hoff _ hs cv cs (hc.mono (hk1.trans hk)) (by omega) _) (Nat.le_of_ble_eq_true rfl) ?_
    rintro v g3 hk3 rfl
    refine ⟨?_, ?_⟩
    · try simp (disch := first | decide | rfl) only [again_nil, again_skip, again_free]
    simp (disch := first | omega | (simp only [add_nx, upd_nx] <;> omega) | decide) only [rUz, ↓reduceIte, Nat.reduceEqDiff, Nat.reduceAdd, rDz, infoL, Nat.reduceSub]
    refine hJ _ _ (hk.trans hk3) ?_ ?_ ?_ ?_
    all_goals (first | rfl | (simp (disch := first | omega | (simp only [add_nx, upd_nx] <;> omega) | decide) only [rUz, ↓reduceIte, Nat.reduceEqDiff, Nat.reduceAdd]; done) | (simp (disch := first | omega | (simp only [add_nx, upd_nx] <;> omega) | decide) only [rUz, ↓reduceIte, Nat.reduceEqDiff, Nat.reduceAdd]; rfl))
end Go.Proofs.Rg
