import Derived.Test.YtfbkgnojdngiiaaMg4
/- The parts, or the error: by the program, and by the words of the document. -/
namespace Go.Proofs.Mg
open Go Go.Ev
set_option linter.unusedSimpArgs false
variable {pr : Prim} {R : ExT}
abbrev nl : Value := .slice none 0 0
theorem tup0 (a b : Value) : (⟨[a, b]⟩ : Array Value)[0]? = some a := rfl
theorem tup1 (a b : Value) : (⟨[a, b]⟩ : Array Value)[1]? = some b := rfl
theorem nlAt (h : AHeap) : IAt h nl [] := .inl ⟨rfl, .inl rfl⟩
def okP (l : List Int) (sum : Int) : Bool := monB l && decide (0 < sumL l) && inB sum 0 (sumL l)
def faultP (l : List Int) (sum : Int) : Int := bif decide (4 < (l.length : Int)) then 3 else bif monB l && decide (0 < sumL l) then (bif inB sum 0 (sumL l) then 0 else 2) else 1
theorem faultP0 {l : List Int} {sum : Int} (h : faultP l sum = 0) : (l.length : Int) ≤ 4 ∧ (∀ x, x ∈ l → 0 ≤ x ∧ x ≤ 100000) ∧ Amts l sum := by
  unfold faultP at h
  cases h1 : decide (4 < (l.length : Int)) with
  | true => rw [h1, cond_true] at h; omega
  | false =>
    rw [h1, cond_false] at h
    have h1' := of_decide_eq_false h1
    cases h2 : monB l with
    | false => rw [h2, Bool.false_and, cond_false] at h; omega
    | true =>
      rw [h2, Bool.true_and] at h
      have hm := monB_iff.1 h2
      cases h3 : decide (0 < sumL l) with
      | false => rw [h3, cond_false] at h; omega
      | true =>
        rw [h3, cond_true] at h
        have h3' := of_decide_eq_true h3
        cases h4 : inB sum 0 (sumL l) with
        | false => rw [h4, cond_false] at h; omega
        | true =>
          obtain ⟨h5, h6⟩ := inB_iff.1 h4
          refine ⟨by omega, hm, ⟨fun i => ?_, h3', h5, h6⟩⟩
          rw [List.getD_eq_getElem?_getD]
          cases e : l[i]? with
          | none => exact Int.le_refl _
          | some x => exact (hm x (List.mem_of_getElem? e)).1
/-- What is returned. -/
def PartsAt (_lo : Nat) (l : List Int) (sum : Int) (u : Value) (h : AHeap) : Prop := ∃ v, u = .tuple ⟨[v, iv (faultP l sum)]⟩ ∧ IAt h v (if faultP l sum = 0 then partsP l sum else [])
set_option maxHeartbeats 8000000 in
theorem Parts_y (S : Ev.Steps Try.prog pr R) (hoff : Off pr) (h0 : AHeap) (cv : Value) (cs : List Int) (hc : IAt h0 cv cs) (sum : Int) :
    Brings Try.prog R 10 [cv, iv sum] h0 fun u h => PartsAt 0 cs sum u h := by
  refine brings_of (fn := Try.f10) (c := (Try.f10.body).getD .skip) (by kernel_rfl) rfl (by kernel_rfl) rfl (fun K hK => ?_)
  generalize hF : finish Try.prog Try.f10 K = KF
  simp only [Try.f10, Option.getD_some, argsT, setArgs, fV1_eq, T.setK_eq, id]
  have hlen := fun t h1 o => iv_len hc t h1 o
  have hbad : ∀ n : Int, faultP cs sum = n → n ≠ 0 → ∀ g, Kp h0 g → K (.tuple ⟨[nl, iv n]⟩) g = true := fun n hn hz g hk => hK _ _ hk ⟨nl, by rw [hn], by rw [if_neg (by omega)]; exact nlAt g⟩
  have hgood : faultP cs sum = 0 → ∀ v g, Kp h0 g → IAt g v (partsP cs sum) → K (.tuple ⟨[v, iv 0]⟩) g = true := fun hz v g hk hv => hK _ _ hk ⟨v, by rw [hz], by rw [if_pos hz]; exact hv⟩
  clear hK
  repeat refine S.seq ?_
  refine S.region ?_
  simp (disch := first | omega | (simp only [add_nx, upd_nx] <;> omega) | decide) only [rUz, ↓reduceIte, Nat.reduceEqDiff, Nat.reduceAdd]
  cases h1 : decide (4 < (cs.length : Int)) with
  | true =>
    repeat refine S.seq ?_
    refine S.region ?_
    simp (disch := first | omega | (simp only [add_nx, upd_nx] <;> omega) | decide) only [rUz, ↓reduceIte, Nat.reduceEqDiff, Nat.reduceAdd, hlen, h1]
    repeat refine S.seq ?_
    refine S.cond (v := true) (by first | rfl | (simp (disch := first | omega | (simp only [add_nx, upd_nx] <;> omega) | decide) only [rUz, ↓reduceIte, Nat.reduceEqDiff, Nat.reduceAdd] <;> rfl)) (fun _ => ?_) (fun e => by cases e)
    repeat refine S.seq ?_
    refine S.region ?_
    simp (disch := first | omega | (simp only [add_nx, upd_nx] <;> omega) | decide) only [rUz, ↓reduceIte, Nat.reduceEqDiff, Nat.reduceAdd]
    refine S.ret ?_
    try simp only [seqK_ret, blockK_ret]
    subst hF
    simp only [finish, endMarks]
    rw [show Try.f10.results.toList = [.tmp 4, .tmp 5] from rfl]
    simp (disch := first | omega | (simp only [add_nx, upd_nx] <;> omega) | decide) only [resA, ev_tmp, tget_ne, tget_eq, get_ne, get_eq, upd_eq, upd_ne, ag_eq, ag_ne, result1]
    exact hbad 3 (by rw [faultP, h1]; rfl) (by omega) _ Kp.refl
  | false =>
  have h1' := of_decide_eq_false h1
  repeat refine S.seq ?_
  refine S.region ?_
  simp (disch := first | omega | (simp only [add_nx, upd_nx] <;> omega) | decide) only [rUz, ↓reduceIte, Nat.reduceEqDiff, Nat.reduceAdd, hlen, h1]
  repeat refine S.seq ?_
  refine S.cond (v := false) (by first | rfl | (simp (disch := first | omega | (simp only [add_nx, upd_nx] <;> omega) | decide) only [rUz, ↓reduceIte, Nat.reduceEqDiff, Nat.reduceAdd] <;> rfl)) (fun e => by cases e) (fun _ => ?_)
  repeat refine S.seq ?_
  refine S.skip ?_
  simp (disch := first | omega | (simp only [add_nx, upd_nx] <;> omega) | decide) only [rUz, ↓reduceIte, Nat.reduceEqDiff, Nat.reduceAdd]
  repeat refine S.seq ?_
  refine S.region ?_
  simp (disch := first | omega | (simp only [add_nx, upd_nx] <;> omega) | decide) only [rUz, ↓reduceIte, Nat.reduceEqDiff, Nat.reduceAdd]
  refine wr_brings (fid := 33) (first := #[]) (captured := #[]) (Post := fun u _ => u = .bool (monB cs && decide (0 < sumL cs))) rfl (hoff _ _ _ rfl) (by simp (disch := first | omega | (simp only [add_nx, upd_nx] <;> omega) | decide) only [rUz, ↓reduceIte, Nat.reduceEqDiff, Nat.reduceAdd]; exact areAmounts_y S hoff h0 cv cs hc (by omega)) ?_
  rintro u g hk rfl
  cases h2 : (monB cs && decide (0 < sumL cs)) with
  | false =>
    simp (disch := first | omega | (simp only [add_nx, upd_nx] <;> omega) | decide) only [rUz, ↓reduceIte, Nat.reduceEqDiff, Nat.reduceAdd, un_not, h2, Bool.not_false]
    repeat refine S.seq ?_
    refine S.cond (v := true) (by first | rfl | (simp (disch := first | omega | (simp only [add_nx, upd_nx] <;> omega) | decide) only [rUz, ↓reduceIte, Nat.reduceEqDiff, Nat.reduceAdd] <;> rfl)) (fun _ => ?_) (fun e => by cases e)
    repeat refine S.seq ?_
    refine S.region ?_
    simp (disch := first | omega | (simp only [add_nx, upd_nx] <;> omega) | decide) only [rUz, ↓reduceIte, Nat.reduceEqDiff, Nat.reduceAdd]
    refine S.ret ?_
    try simp only [seqK_ret, blockK_ret]
    subst hF
    simp only [finish, endMarks]
    rw [show Try.f10.results.toList = [.tmp 4, .tmp 5] from rfl]
    simp (disch := first | omega | (simp only [add_nx, upd_nx] <;> omega) | decide) only [resA, ev_tmp, tget_ne, tget_eq, get_ne, get_eq, upd_eq, upd_ne, ag_eq, ag_ne, result1]
    exact hbad 1 (by rw [faultP, h1, h2]; rfl) (by omega) _ hk
  | true =>
  have h2' := h2
  rw [Bool.and_eq_true, decide_eq_true_eq] at h2'
  have hm := monB_iff.1 h2'.1
  simp (disch := first | omega | (simp only [add_nx, upd_nx] <;> omega) | decide) only [rUz, ↓reduceIte, Nat.reduceEqDiff, Nat.reduceAdd, un_not, h2, Bool.not_true]
  repeat refine S.seq ?_
  refine S.cond (v := false) (by first | rfl | (simp (disch := first | omega | (simp only [add_nx, upd_nx] <;> omega) | decide) only [rUz, ↓reduceIte, Nat.reduceEqDiff, Nat.reduceAdd] <;> rfl)) (fun e => by cases e) (fun _ => ?_)
  repeat refine S.seq ?_
  refine S.skip ?_
  simp (disch := first | omega | (simp only [add_nx, upd_nx] <;> omega) | decide) only [rUz, ↓reduceIte, Nat.reduceEqDiff, Nat.reduceAdd]
  by_cases h3 : sum < 0
  · have hd : decide (sum < 0) = true := decide_eq_true h3
    repeat refine S.seq ?_
    refine S.region ?_
    simp (disch := first | omega | (simp only [add_nx, upd_nx] <;> omega) | decide) only [rUz, ↓reduceIte, Nat.reduceEqDiff, Nat.reduceAdd, hd]
    repeat refine S.seq ?_
    refine S.cond (v := true) (by first | rfl | (simp (disch := first | omega | (simp only [add_nx, upd_nx] <;> omega) | decide) only [rUz, ↓reduceIte, Nat.reduceEqDiff, Nat.reduceAdd] <;> rfl)) (fun _ => ?_) (fun e => by cases e)
    repeat refine S.seq ?_
    refine S.region ?_
    simp (disch := first | omega | (simp only [add_nx, upd_nx] <;> omega) | decide) only [rUz, ↓reduceIte, Nat.reduceEqDiff, Nat.reduceAdd]
    refine S.ret ?_
    try simp only [seqK_ret, blockK_ret]
    subst hF
    simp only [finish, endMarks]
    rw [show Try.f10.results.toList = [.tmp 4, .tmp 5] from rfl]
    simp (disch := first | omega | (simp only [add_nx, upd_nx] <;> omega) | decide) only [resA, ev_tmp, tget_ne, tget_eq, get_ne, get_eq, upd_eq, upd_ne, ag_eq, ag_ne, result1]
    refine hbad 2 ?_ (by omega) _ hk
    rw [faultP, h1, h2, inB, decide_eq_false (by omega : ¬ 0 ≤ sum)]; rfl
  have hd : decide (sum < 0) = false := decide_eq_false h3
  repeat refine S.seq ?_
  refine S.region ?_
  simp (disch := first | omega | (simp only [add_nx, upd_nx] <;> omega) | decide) only [rUz, ↓reduceIte, Nat.reduceEqDiff, Nat.reduceAdd, hd]
  refine wr_brings (fid := 34) (first := #[]) (captured := #[]) (Post := fun u h => u = iv (sumL cs) ∧ h = g) rfl (hoff _ _ _ rfl) (by simp (disch := first | omega | (simp only [add_nx, upd_nx] <;> omega) | decide) only [rUz, ↓reduceIte, Nat.reduceEqDiff, Nat.reduceAdd]; exact total_y S g cv cs (hc.mono hk) (by omega) (fun x hx => by have := hm x hx; omega)) ?_
  rintro u g2 - ⟨rfl, rfl⟩
  by_cases h4 : sumL cs < sum
  · have hd2 : decide (sumL cs < sum) = true := decide_eq_true h4
    simp (disch := first | omega | (simp only [add_nx, upd_nx] <;> omega) | decide) only [rUz, ↓reduceIte, Nat.reduceEqDiff, Nat.reduceAdd, hd2]
    repeat refine S.seq ?_
    refine S.cond (v := true) (by first | rfl | (simp (disch := first | omega | (simp only [add_nx, upd_nx] <;> omega) | decide) only [rUz, ↓reduceIte, Nat.reduceEqDiff, Nat.reduceAdd] <;> rfl)) (fun _ => ?_) (fun e => by cases e)
    repeat refine S.seq ?_
    refine S.region ?_
    simp (disch := first | omega | (simp only [add_nx, upd_nx] <;> omega) | decide) only [rUz, ↓reduceIte, Nat.reduceEqDiff, Nat.reduceAdd]
    refine S.ret ?_
    try simp only [seqK_ret, blockK_ret]
    subst hF
    simp only [finish, endMarks]
    rw [show Try.f10.results.toList = [.tmp 4, .tmp 5] from rfl]
    simp (disch := first | omega | (simp only [add_nx, upd_nx] <;> omega) | decide) only [resA, ev_tmp, tget_ne, tget_eq, get_ne, get_eq, upd_eq, upd_ne, ag_eq, ag_ne, result1]
    refine hbad 2 ?_ (by omega) _ hk
    rw [faultP, h1, h2, inB, decide_eq_false (by omega : ¬ sum ≤ sumL cs), Bool.and_false]; rfl
  have hd2 : decide (sumL cs < sum) = false := decide_eq_false h4
  have hz : faultP cs sum = 0 := by
    rw [faultP, h1, h2, inB, decide_eq_true (by omega : 0 ≤ sum), decide_eq_true (by omega : sum ≤ sumL cs)]; rfl
  obtain ⟨_, _, ha⟩ := faultP0 hz
  simp (disch := first | omega | (simp only [add_nx, upd_nx] <;> omega) | decide) only [rUz, ↓reduceIte, Nat.reduceEqDiff, Nat.reduceAdd, hd2]
  repeat refine S.seq ?_
  refine S.cond (v := false) (by first | rfl | (simp (disch := first | omega | (simp only [add_nx, upd_nx] <;> omega) | decide) only [rUz, ↓reduceIte, Nat.reduceEqDiff, Nat.reduceAdd] <;> rfl)) (fun e => by cases e) (fun _ => ?_)
  repeat refine S.seq ?_
  refine S.skip ?_
  simp (disch := first | omega | (simp only [add_nx, upd_nx] <;> omega) | decide) only [rUz, ↓reduceIte, Nat.reduceEqDiff, Nat.reduceAdd]
  repeat refine S.seq ?_
  refine S.region ?_
  simp (disch := first | omega | (simp only [add_nx, upd_nx] <;> omega) | decide) only [rUz, ↓reduceIte, Nat.reduceEqDiff, Nat.reduceAdd]
  refine wr_brings (fid := 35) (first := #[]) (captured := #[]) (Post := fun u h => ∃ B, u = .slice (some ⟨B, 0, none⟩) cs.length cs.length ∧ g2.nx ≤ B ∧ Own h B (partsP cs sum)) rfl (hoff _ _ _ rfl) (by simp (disch := first | omega | (simp only [add_nx, upd_nx] <;> omega) | decide) only [rUz, ↓reduceIte, Nat.reduceEqDiff, Nat.reduceAdd]; exact parts_y S hoff g2 cv cs (hc.mono hk) (by omega) hm sum ha) ?_
  rintro u g3 hk3 ⟨B, rfl, hB, ho⟩
  simp (disch := first | omega | (simp only [add_nx, upd_nx] <;> omega) | decide) only [rUz, ↓reduceIte, Nat.reduceEqDiff, Nat.reduceAdd]
  refine S.ret ?_
  try simp only [seqK_ret, blockK_ret]
  subst hF
  simp only [finish, endMarks]
  rw [show Try.f10.results.toList = [.tmp 4, .tmp 5] from rfl]
  simp (disch := first | omega | (simp only [add_nx, upd_nx] <;> omega) | decide) only [resA, ev_tmp, tget_ne, tget_eq, get_ne, get_eq, upd_eq, upd_ne, ag_eq, ag_ne, result1]
  refine hgood hz _ _ (hk.trans hk3) ?_
  exact ho.at' (parts_ok ha).len.symm
end Go.Proofs.Mg
