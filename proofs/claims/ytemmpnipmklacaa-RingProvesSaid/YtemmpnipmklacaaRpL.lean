import Derived.Test.YtemmpnipmklacaaRpK
import Derived.Test.YtemmpnipmklacaaRpD
namespace Go.Proofs.Rg
open Go Go.Ev
set_option linter.unusedSimpArgs false
variable {pr : Prim} {R : ExT}
/-! ## ProveRings -/
def prP (hs : Int) (cs : List C4) (rl : List R2) (total : Int) : Bool :=
  decide (faultZ hs cs = 0) && (rl.all (isRingP cs) && match mu cs (List.replicate cs.length 0) rl with | none => false | some off => decide (total ≤ off.sum))
theorem BO.bnd {off : List Int} (k : BO off) : bnd 10000000 off := fun x hx => by
  obtain ⟨i, hi⟩ := List.mem_iff_getElem?.1 hx
  have := k i
  rw [List.getD_eq_getElem?_getD, hi] at this
  simp only [Option.getD_some] at this
  omega
theorem isRingP_of {cs : List C4} {r : R2} (k : isRingP cs r = true) : 1 ≤ r.2 ∧ r.1.all (inC cs) = true := by
  simp only [isRingP, Bool.and_eq_true, Bool.not_eq_true', Bool.or_eq_false_iff, decide_eq_false_iff_not] at k
  exact ⟨by omega, k.2.1⟩
set_option maxHeartbeats 16000000 in
theorem proveRings_y (S : Ev.Steps Try.prog pr R) (hoff : Off pr) (h0 : AHeap) (hs : Int) (cv : Value) (cs : List C4) (hc : CAt h0 cv cs) (hsz : cs.length ≤ 12) (rv : Value) (rl : List R2) (hr : RA IAt h0 rv rl) (hsr : rl.length ≤ 10) (hr8 : ∀ r, r ∈ rl → r.1.length ≤ 8) (total : Int) :
    Brings Try.prog R 29 [.agg ⟨[iv hs, cv]⟩, rv, iv total] h0 fun u _ => u = .bool (prP hs cs rl total) := by
  refine brings_of (fn := Try.f29) (c := (Try.f29.body).getD .skip) (by kernel_rfl) rfl (by kernel_rfl) rfl (fun K hK => ?_)
  generalize hF : finish Try.prog Try.f29 K = KF
  simp only [Try.f29, Option.getD_some, argsT, setArgs, fV1_eq, T.setK_eq, id]
  repeat refine S.seq ?_
  refine S.region ?_
  simp (disch := first | omega | (simp only [add_nx, upd_nx, res_nx, putAt_nx] <;> omega) | decide) only [rUz, ↓reduceIte, Nat.reduceEqDiff, Nat.reduceAdd]
  have hb1 : (h0.add [iv hs, cv]).bl.get h0.nx = some (.cells [iv hs, cv] h0.nx false) := ag_eq rfl
  have hk1 : Kp h0 (h0.add [iv hs, cv]) := Kp.refl.add
  have hlt : h0.nx < (h0.add [iv hs, cv]).nx := Nat.lt_succ_self _
  generalize h0.add [iv hs, cv] = H1 at hb1 hk1 hlt ⊢
  unfold prP at hK
  repeat refine S.seq ?_
  refine S.region ?_
  simp (disch := first | omega | (simp only [add_nx, upd_nx, res_nx, putAt_nx] <;> omega) | decide) only [rUz, ↓reduceIte, Nat.reduceEqDiff, Nat.reduceAdd, hb1, pB]
  refine wr_brings (fid := 14) (first := #[]) (captured := #[]) (Post := fun v _ => v = iv (faultZ hs cs)) (by first | rfl | (simp (disch := first | omega | (simp only [add_nx, upd_nx, res_nx, putAt_nx] <;> omega) | decide) only [rUz, ↓reduceIte, Nat.reduceEqDiff, Nat.reduceAdd] <;> rfl)) (hoff _ _ _ rfl) (by simp (disch := first | omega | (simp only [add_nx, upd_nx, res_nx, putAt_nx] <;> omega) | decide) only [rUz, ↓reduceIte, Nat.reduceEqDiff, Nat.reduceAdd]; exact check_y S hoff _ hs cv cs (hc.mono hk1) (by omega)) ?_
  rintro v g hk rfl
  have hb2 := (hk.get hlt).trans hb1
  have hk2 := hk1.trans hk
  have hlt2 : h0.nx < g.nx := Nat.lt_of_lt_of_le hlt hk.1
  by_cases hz : faultZ hs cs = 0
  rotate_left
  · rw [decide_eq_false hz, Bool.false_and] at hK
    have hd : (!decide (faultZ hs cs = 0)) = true := by rw [decide_eq_false hz]; rfl
    simp (disch := first | omega | (simp only [add_nx, upd_nx, res_nx, putAt_nx] <;> omega) | decide) only [rUz, ↓reduceIte, Nat.reduceEqDiff, Nat.reduceAdd, hd]
    repeat refine S.seq ?_
    refine S.cond (v := true) (by first | rfl | (simp (disch := first | omega | (simp only [add_nx, upd_nx, res_nx, putAt_nx] <;> omega) | decide) only [rUz, ↓reduceIte, Nat.reduceEqDiff, Nat.reduceAdd] <;> rfl)) (fun _ => ?_) (fun e => by cases e)
    repeat refine S.seq ?_
    refine S.region ?_
    simp (disch := first | omega | (simp only [add_nx, upd_nx, res_nx, putAt_nx] <;> omega) | decide) only [rUz, ↓reduceIte, Nat.reduceEqDiff, Nat.reduceAdd]
    refine S.ret ?_
    try simp only [seqK_ret, blockK_ret]
    subst hF
    simp only [finish, endMarks]
    rw [show Try.f29.results.toList = [.tmp 6] from rfl]
    simp (disch := first | omega | (simp only [add_nx, upd_nx, res_nx, putAt_nx] <;> omega) | decide) only [resA, ev_tmp, tget_ne, tget_eq, get_ne, get_eq, upd_eq, upd_ne, ag_eq, ag_ne, result1]
    exact hK _ _ hk2 rfl
  rw [decide_eq_true hz, Bool.true_and] at hK
  obtain ⟨n, rfl, hn1, hn6, hcl, hv'⟩ := Hs.of_fault hz
  have hd : (!decide (faultZ (n : Int) cs = 0)) = false := by rw [decide_eq_true hz]; rfl
  simp (disch := first | omega | (simp only [add_nx, upd_nx, res_nx, putAt_nx] <;> omega) | decide) only [rUz, ↓reduceIte, Nat.reduceEqDiff, Nat.reduceAdd, hd, hb2, pB]
  refine wr_brings (fid := 53) (first := #[]) (captured := #[]) (Post := fun u _ => u = .bool (rl.all (isRingP cs))) rfl (hoff _ _ _ rfl) (by simp (disch := first | omega | (simp only [add_nx, upd_nx, res_nx, putAt_nx] <;> omega) | decide) only [rUz, ↓reduceIte, Nat.reduceEqDiff, Nat.reduceAdd]; exact allR_y S hoff g rv rl (hr.mono IAt.mono hk2) (by omega) 54 rfl #[.agg ⟨[iv (n : Int), cv]⟩] (isRingP cs) (fun h' hk' s c hcm hic => isRing_y S hoff h' n hn6 cv cs (hc.mono (hk2.trans hk')) hsz hv' s c.1 c.2 hic (hr8 c hcm))) ?_
  rintro u g2 hk3 rfl
  have hb3 := (hk3.get hlt2).trans hb2
  have hk4 := hk2.trans hk3
  cases hp : rl.all (isRingP cs) with
  | false =>
    rw [hp, Bool.false_and] at hK
    simp (disch := first | omega | (simp only [add_nx, upd_nx, res_nx, putAt_nx] <;> omega) | decide) only [rUz, ↓reduceIte, Nat.reduceEqDiff, Nat.reduceAdd, hp, un_not, Bool.not_false]
    repeat refine S.seq ?_
    refine S.cond (v := true) (by first | rfl | (simp (disch := first | omega | (simp only [add_nx, upd_nx, res_nx, putAt_nx] <;> omega) | decide) only [rUz, ↓reduceIte, Nat.reduceEqDiff, Nat.reduceAdd] <;> rfl)) (fun _ => ?_) (fun e => by cases e)
    repeat refine S.seq ?_
    refine S.region ?_
    simp (disch := first | omega | (simp only [add_nx, upd_nx, res_nx, putAt_nx] <;> omega) | decide) only [rUz, ↓reduceIte, Nat.reduceEqDiff, Nat.reduceAdd]
    refine S.ret ?_
    try simp only [seqK_ret, blockK_ret]
    subst hF
    simp only [finish, endMarks]
    rw [show Try.f29.results.toList = [.tmp 6] from rfl]
    simp (disch := first | omega | (simp only [add_nx, upd_nx, res_nx, putAt_nx] <;> omega) | decide) only [resA, ev_tmp, tget_ne, tget_eq, get_ne, get_eq, upd_eq, upd_ne, ag_eq, ag_ne, result1]
    exact hK _ _ hk4 rfl
  | true =>
  rw [hp, Bool.true_and] at hK
  simp (disch := first | omega | (simp only [add_nx, upd_nx, res_nx, putAt_nx] <;> omega) | decide) only [rUz, ↓reduceIte, Nat.reduceEqDiff, Nat.reduceAdd, hp, un_not, Bool.not_true]
  repeat refine S.seq ?_
  refine S.cond (v := false) (by first | rfl | (simp (disch := first | omega | (simp only [add_nx, upd_nx, res_nx, putAt_nx] <;> omega) | decide) only [rUz, ↓reduceIte, Nat.reduceEqDiff, Nat.reduceAdd] <;> rfl)) (fun e => by cases e) (fun _ => ?_)
  repeat refine S.seq ?_
  refine S.skip ?_
  simp (disch := first | omega | (simp only [add_nx, upd_nx, res_nx, putAt_nx] <;> omega) | decide) only [rUz, ↓reduceIte, Nat.reduceEqDiff, Nat.reduceAdd]
  repeat refine S.seq ?_
  refine S.region ?_
  simp (disch := first | omega | (simp only [add_nx, upd_nx, res_nx, putAt_nx] <;> omega) | decide) only [rUz, ↓reduceIte, Nat.reduceEqDiff, Nat.reduceAdd, hb3, pB]
  refine wr_brings (fid := 55) (first := #[]) (captured := #[]) (Post := fun u h => madeP cs rl u h) (by first | rfl | (simp (disch := first | omega | (simp only [add_nx, upd_nx, res_nx, putAt_nx] <;> omega) | decide) only [rUz, ↓reduceIte, Nat.reduceEqDiff, Nat.reduceAdd] <;> rfl)) (hoff _ _ _ rfl) (by simp (disch := first | omega | (simp only [add_nx, upd_nx, res_nx, putAt_nx] <;> omega) | decide) only [rUz, ↓reduceIte, Nat.reduceEqDiff, Nat.reduceAdd]; exact madeUp_y S g2 n cv cs (hc.mono hk4) hsz hv' rv rl (hr.mono IAt.mono hk4) hsr hr8 (fun r hr' => isRingP_of (List.all_eq_true.1 hp r hr'))) ?_
  rintro v g3 hk5 hm
  have hk6 := hk4.trans hk5
  unfold madeP at hm
  cases hmu : mu cs (List.replicate cs.length 0) rl with
  | none =>
    rw [hmu] at hm hK
    obtain ⟨x, rfl⟩ := hm
    simp (disch := first | omega | (simp only [add_nx, upd_nx, res_nx, putAt_nx] <;> omega) | decide) only [rUz, ↓reduceIte, Nat.reduceEqDiff, Nat.reduceAdd]
    repeat refine S.seq ?_
    refine S.region ?_
    simp (disch := first | omega | (simp only [add_nx, upd_nx, res_nx, putAt_nx] <;> omega) | decide) only [rUz, ↓reduceIte, Nat.reduceEqDiff, Nat.reduceAdd]
    refine S.ret ?_
    try simp only [seqK_ret, blockK_ret]
    subst hF
    simp only [finish, endMarks]
    rw [show Try.f29.results.toList = [.tmp 6] from rfl]
    simp (disch := first | omega | (simp only [add_nx, upd_nx, res_nx, putAt_nx] <;> omega) | decide) only [resA, ev_tmp, tget_ne, tget_eq, get_ne, get_eq, upd_eq, upd_ne, ag_eq, ag_ne, result1]
    exact hK _ _ hk6 rfl
  | some off =>
    rw [hmu] at hm hK
    obtain ⟨x, rfl, hx, hol, hbo⟩ := hm
    dsimp only at hK
    simp (disch := first | omega | (simp only [add_nx, upd_nx, res_nx, putAt_nx] <;> omega) | decide) only [rUz, ↓reduceIte, Nat.reduceEqDiff, Nat.reduceAdd]
    repeat refine S.seq ?_
    refine S.region ?_
    simp (disch := first | omega | (simp only [add_nx, upd_nx, res_nx, putAt_nx] <;> omega) | decide) only [rUz, ↓reduceIte, Nat.reduceEqDiff, Nat.reduceAdd]
    refine wr_brings (fid := 52) (first := #[]) (captured := #[]) (Post := fun u h => u = iv off.sum ∧ h = g3) (by first | rfl | (simp (disch := first | omega | (simp only [add_nx, upd_nx, res_nx, putAt_nx] <;> omega) | decide) only [rUz, ↓reduceIte, Nat.reduceEqDiff, Nat.reduceAdd] <;> rfl)) (hoff _ _ _ rfl) (by simp (disch := first | omega | (simp only [add_nx, upd_nx, res_nx, putAt_nx] <;> omega) | decide) only [rUz, ↓reduceIte, Nat.reduceEqDiff, Nat.reduceAdd]; exact sum_y S g3 x off hx (by omega) hbo.bnd) ?_
    rintro u g4 hk7 ⟨rfl, rfl⟩
    simp (disch := first | omega | (simp only [add_nx, upd_nx, res_nx, putAt_nx] <;> omega) | decide) only [rUz, ↓reduceIte, Nat.reduceEqDiff, Nat.reduceAdd]
    refine S.ret ?_
    try simp only [seqK_ret, blockK_ret]
    subst hF
    simp only [finish, endMarks]
    rw [show Try.f29.results.toList = [.tmp 6] from rfl]
    simp (disch := first | omega | (simp only [add_nx, upd_nx, res_nx, putAt_nx] <;> omega) | decide) only [resA, ev_tmp, tget_ne, tget_eq, get_ne, get_eq, upd_eq, upd_ne, ag_eq, ag_ne, result1]
    exact hK _ _ hk6 rfl
end Go.Proofs.Rg
