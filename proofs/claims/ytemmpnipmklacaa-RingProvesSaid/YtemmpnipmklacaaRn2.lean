import Derived.Test.YtemmpnipmklacaaRn1
namespace Go.Proofs.Rg
open Go Go.Ev
set_option linter.unusedSimpArgs false

/-! ## The pure side -/
def inB (i lo hi : Int) : Bool := decide (lo ≤ i) && decide (i ≤ hi)
def okC (hs : Int) (c : C4) : Bool := inB c.1 0 (hs - 1) && (inB c.2.1 0 (hs - 1) && (!decide (c.1 = c.2.1) && (inB c.2.2.1 1 100 && inB c.2.2.2 1 1000)))
def faultZ (hs : Int) (cs : List C4) : Int := bif decide (6 < hs) || decide (8 < (cs.length : Int)) then 3 else bif decide (hs < 1) then 1 else bif cs.all (okC hs) then 0 else 1

def offB (g : FuncId) : Bool := !(Nat.beq g 9)
def Off (pr : Prim) : Prop := ∀ g l h, offB g = true → pr g l h = none

variable {pr : Prim} {R : ExT}
set_option maxHeartbeats 4000000 in
theorem in_y (S : Ev.Steps Try.prog pr R) (h0 : AHeap) (i lo hi : Int) : Brings Try.prog R 19 [.int .i64 i, .int .i64 lo, .int .i64 hi] h0 fun v h => v = .bool (inB i lo hi) ∧ h = h0 := by
  refine brings_of (fn := Try.f19) (c := (Try.f19.body).getD .skip) (by kernel_rfl) rfl (by kernel_rfl) rfl (fun K hK => ?_)
  generalize hF : finish Try.prog Try.f19 K = KF
  simp only [Try.f19, Option.getD_some, argsT, setArgs, fV1_eq, T.setK_eq, id]
  repeat refine S.seq ?_
  refine S.region ?_
  simp (disch := first | omega | (simp only [add_nx, upd_nx] <;> omega) | decide) only [rUz, ↓reduceIte, Nat.reduceEqDiff, Nat.reduceAdd]
  unfold inB at hK
  by_cases h1 : lo ≤ i
  · have hd : decide (lo ≤ i) = true := decide_eq_true h1
    rw [hd, Bool.true_and] at hK
    repeat refine S.seq ?_
    refine S.region ?_
    simp (disch := first | omega | (simp only [add_nx, upd_nx] <;> omega) | decide) only [rUz, ↓reduceIte, Nat.reduceEqDiff, Nat.reduceAdd, hd]
    refine S.ret ?_
    try simp only [seqK_ret, blockK_ret]
    subst hF
    simp only [finish, endMarks]
    rw [show Try.f19.results.toList = [.tmp 6] from rfl]
    simp (disch := first | omega | (simp only [add_nx, upd_nx] <;> omega) | decide) only [resA, ev_tmp, tget_ne, tget_eq, get_ne, get_eq, upd_eq, upd_ne, ag_eq, ag_ne, result1]
    exact hK _ _ Kp.refl ⟨rfl, rfl⟩
  · have hd : decide (lo ≤ i) = false := decide_eq_false h1
    rw [hd, Bool.false_and] at hK
    repeat refine S.seq ?_
    refine S.region ?_
    simp (disch := first | omega | (simp only [add_nx, upd_nx] <;> omega) | decide) only [rUz, ↓reduceIte, Nat.reduceEqDiff, Nat.reduceAdd, hd]
    refine S.ret ?_
    try simp only [seqK_ret, blockK_ret]
    subst hF
    simp only [finish, endMarks]
    rw [show Try.f19.results.toList = [.tmp 6] from rfl]
    simp (disch := first | omega | (simp only [add_nx, upd_nx] <;> omega) | decide) only [resA, ev_tmp, tget_ne, tget_eq, get_ne, get_eq, upd_eq, upd_ne, ag_eq, ag_ne, result1]
    exact hK _ _ Kp.refl ⟨rfl, rfl⟩

set_option maxHeartbeats 4000000 in
theorem thin_y (S : Ev.Steps Try.prog pr R) (h0 : AHeap) (hs : Int) (cv : Value) (cs : List C4) (hc : CAt h0 cv cs) : Brings Try.prog R 8 [.agg ⟨[iv hs, cv]⟩] h0 fun v _ => v = .bool (decide ((cs.length : Int) ≤ 12)) := by
  refine brings_of (fn := Try.f8) (c := (Try.f8.body).getD .skip) (by kernel_rfl) rfl (by kernel_rfl) rfl (fun K hK => ?_)
  generalize hF : finish Try.prog Try.f8 K = KF
  simp only [Try.f8, Option.getD_some, argsT, setArgs, fV1_eq, T.setK_eq, id]
  have hlen := fun t h1 o => hc.len isA t h1 o
  repeat refine S.seq ?_
  refine S.region ?_
  simp (disch := first | omega | (simp only [add_nx, upd_nx] <;> omega) | decide) only [rUz, ↓reduceIte, Nat.reduceEqDiff, Nat.reduceAdd]
  repeat refine S.seq ?_
  refine S.region ?_
  simp (disch := first | omega | (simp only [add_nx, upd_nx] <;> omega) | decide) only [rUz, ↓reduceIte, Nat.reduceEqDiff, Nat.reduceAdd, fieldAddr_ptr fA1 sAc, pAc, hlen]
  refine S.ret ?_
  try simp only [seqK_ret, blockK_ret]
  subst hF
  simp only [finish, endMarks]
  rw [show Try.f8.results.toList = [.tmp 2] from rfl]
  simp (disch := first | omega | (simp only [add_nx, upd_nx] <;> omega) | decide) only [resA, ev_tmp, tget_ne, tget_eq, get_ne, get_eq, upd_eq, upd_ne, ag_eq, ag_ne, result1]
  exact hK _ _ Kp.refl.add rfl

/-- The loop of Fault: from k on all are as they must be, or not. -/
def IF (hs : Int) (cs : List C4) (H : AHeap) (B1 : Nat) (k : Nat) (t : T Value) (h : AHeap) : Prop :=
  k ≤ cs.length ∧ cs.all (okC hs) = (cs.drop k).all (okC hs) ∧ Kp H h ∧ tget t 1 = ptr0 B1 ∧ tget t 3 = iv (k : Int)

set_option maxHeartbeats 16000000 in
theorem fault_y (S : Ev.Steps Try.prog pr R) (hoff : Off pr) (h0 : AHeap) (hs : Int) (cv : Value) (cs : List C4) (hc : CAt h0 cv cs) (hsz : (cs.length : Int) ≤ 9223372036854775807) : Brings Try.prog R 24 [.agg ⟨[iv hs, cv]⟩] h0 fun v _ => v = iv (faultZ hs cs) := by
  refine brings_of (fn := Try.f24) (c := (Try.f24.body).getD .skip) (by kernel_rfl) rfl (by kernel_rfl) rfl (fun K hK => ?_)
  generalize hF : finish Try.prog Try.f24 K = KF
  simp only [Try.f24, Option.getD_some, argsT, setArgs, fV1_eq, T.setK_eq, id]
  have hKr : ∀ h, Kp (h0.add [iv hs, cv]) h → K (iv (faultZ hs cs)) h = true := fun h hk => hK _ _ (Kp.refl.add.trans hk) rfl
  clear hK
  have hlen := fun t h1 o => hc.len isA t h1 o
  repeat refine S.seq ?_
  refine S.region ?_
  simp (disch := first | omega | (simp only [add_nx, upd_nx] <;> omega) | decide) only [rUz, ↓reduceIte, Nat.reduceEqDiff, Nat.reduceAdd]
  have hb1 : (h0.add [iv hs, cv]).bl.get h0.nx = some (.cells [iv hs, cv] h0.nx false) := ag_eq rfl
  have hc1 : CAt (h0.add [iv hs, cv]) cv cs := hc.mono Kp.refl.add
  have hn1 : h0.nx < (h0.add [iv hs, cv]).nx := Nat.lt_succ_self _
  generalize h0.add [iv hs, cv] = H1 at hKr hb1 hc1 hn1 ⊢
  generalize h0.nx = B1 at hb1 hn1 ⊢
  unfold faultZ at hKr
  by_cases h6 : 6 < hs
  · rw [decide_eq_true h6, Bool.true_or, cond_true] at hKr
    repeat refine S.seq ?_
    refine S.region ?_
    simp (disch := first | omega | (simp only [add_nx, upd_nx] <;> omega) | decide) only [rUz, ↓reduceIte, Nat.reduceEqDiff, Nat.reduceAdd, fieldAddr_ptr fA0 s3, p3, hb1, decide_eq_true h6]
    repeat refine S.seq ?_
    refine S.cond (v := true) (by first | rfl | (simp (disch := first | omega | (simp only [add_nx, upd_nx] <;> omega) | decide) only [rUz, ↓reduceIte, Nat.reduceEqDiff, Nat.reduceAdd] <;> rfl)) (fun _ => ?_) (fun e => by cases e)
    repeat refine S.seq ?_
    refine S.region ?_
    simp (disch := first | omega | (simp only [add_nx, upd_nx] <;> omega) | decide) only [rUz, ↓reduceIte, Nat.reduceEqDiff, Nat.reduceAdd]
    refine S.ret ?_
    try simp only [seqK_ret, blockK_ret]
    subst hF
    simp only [finish, endMarks]
    rw [show Try.f24.results.toList = [.tmp 2] from rfl]
    simp (disch := first | omega | (simp only [add_nx, upd_nx] <;> omega) | decide) only [resA, ev_tmp, tget_ne, tget_eq, get_ne, get_eq, upd_eq, upd_ne, ag_eq, ag_ne, result1]
    exact hKr _ Kp.refl
  rw [decide_eq_false h6, Bool.false_or] at hKr
  repeat refine S.seq ?_
  refine S.region ?_
  simp (disch := first | omega | (simp only [add_nx, upd_nx] <;> omega) | decide) only [rUz, ↓reduceIte, Nat.reduceEqDiff, Nat.reduceAdd, fieldAddr_ptr fA0 s3, fieldAddr_ptr fA1 sAc, p3, pAc, hb1, decide_eq_false h6, hlen]
  by_cases h8 : 8 < (cs.length : Int)
  · rw [decide_eq_true h8, cond_true] at hKr
    rw [decide_eq_true h8]
    repeat refine S.seq ?_
    refine S.cond (v := true) (by first | rfl | (simp (disch := first | omega | (simp only [add_nx, upd_nx] <;> omega) | decide) only [rUz, ↓reduceIte, Nat.reduceEqDiff, Nat.reduceAdd] <;> rfl)) (fun _ => ?_) (fun e => by cases e)
    repeat refine S.seq ?_
    refine S.region ?_
    simp (disch := first | omega | (simp only [add_nx, upd_nx] <;> omega) | decide) only [rUz, ↓reduceIte, Nat.reduceEqDiff, Nat.reduceAdd]
    refine S.ret ?_
    try simp only [seqK_ret, blockK_ret]
    subst hF
    simp only [finish, endMarks]
    rw [show Try.f24.results.toList = [.tmp 2] from rfl]
    simp (disch := first | omega | (simp only [add_nx, upd_nx] <;> omega) | decide) only [resA, ev_tmp, tget_ne, tget_eq, get_ne, get_eq, upd_eq, upd_ne, ag_eq, ag_ne, result1]
    exact hKr _ Kp.refl
  rw [decide_eq_false h8, cond_false] at hKr
  rw [decide_eq_false h8]
  repeat refine S.seq ?_
  refine S.cond (v := false) (by first | rfl | (simp (disch := first | omega | (simp only [add_nx, upd_nx] <;> omega) | decide) only [rUz, ↓reduceIte, Nat.reduceEqDiff, Nat.reduceAdd] <;> rfl)) (fun e => by cases e) (fun _ => ?_)
  repeat refine S.seq ?_
  refine S.skip ?_
  simp (disch := first | omega | (simp only [add_nx, upd_nx] <;> omega) | decide) only [rUz, ↓reduceIte, Nat.reduceEqDiff, Nat.reduceAdd]
  repeat refine S.seq ?_
  refine S.region ?_
  simp (disch := first | omega | (simp only [add_nx, upd_nx] <;> omega) | decide) only [rUz, ↓reduceIte, Nat.reduceEqDiff, Nat.reduceAdd, fieldAddr_ptr fA0 s3, p3, hb1]
  by_cases hl1 : hs < 1
  · rw [decide_eq_true hl1, cond_true] at hKr
    rw [decide_eq_true hl1]
    repeat refine S.seq ?_
    refine S.cond (v := true) (by first | rfl | (simp (disch := first | omega | (simp only [add_nx, upd_nx] <;> omega) | decide) only [rUz, ↓reduceIte, Nat.reduceEqDiff, Nat.reduceAdd] <;> rfl)) (fun _ => ?_) (fun e => by cases e)
    repeat refine S.seq ?_
    refine S.region ?_
    simp (disch := first | omega | (simp only [add_nx, upd_nx] <;> omega) | decide) only [rUz, ↓reduceIte, Nat.reduceEqDiff, Nat.reduceAdd]
    refine S.ret ?_
    try simp only [seqK_ret, blockK_ret]
    subst hF
    simp only [finish, endMarks]
    rw [show Try.f24.results.toList = [.tmp 2] from rfl]
    simp (disch := first | omega | (simp only [add_nx, upd_nx] <;> omega) | decide) only [resA, ev_tmp, tget_ne, tget_eq, get_ne, get_eq, upd_eq, upd_ne, ag_eq, ag_ne, result1]
    exact hKr _ Kp.refl
  rw [decide_eq_false hl1, cond_false] at hKr
  rw [decide_eq_false hl1]
  repeat refine S.seq ?_
  refine S.cond (v := false) (by first | rfl | (simp (disch := first | omega | (simp only [add_nx, upd_nx] <;> omega) | decide) only [rUz, ↓reduceIte, Nat.reduceEqDiff, Nat.reduceAdd] <;> rfl)) (fun e => by cases e) (fun _ => ?_)
  repeat refine S.seq ?_
  refine S.skip ?_
  simp (disch := first | omega | (simp only [add_nx, upd_nx] <;> omega) | decide) only [rUz, ↓reduceIte, Nat.reduceEqDiff, Nat.reduceAdd]
  repeat refine S.seq ?_
  refine S.region ?_
  simp (disch := first | omega | (simp only [add_nx, upd_nx] <;> omega) | decide) only [rUz, ↓reduceIte, Nat.reduceEqDiff, Nat.reduceAdd]
  repeat refine S.seq ?_
  refine S.block ?_
  have hh6 : hs ≤ 6 := by omega
  have hh1 : 1 ≤ hs := by omega
  clear h6 h8 hl1
  refine S.loop (ι := Nat) (IF hs cs H1 B1) (fun k => cs.length - k) ?_ 0 _ _ ?_
  · intro k t h ⟨hk, hall, hkp, t1, t3⟩ K' hn he
    have hb := (hkp.get hn1).trans hb1
    have hnx := hkp.1
    have hc2 := hc1.mono hkp
    repeat refine S.seq ?_
    refine S.region ?_
    simp (disch := first | omega | (simp only [add_nx, upd_nx] <;> omega) | decide) only [rUz, ↓reduceIte, Nat.reduceEqDiff, Nat.reduceAdd, t1, t3, fieldAddr_ptr fA1 sAc, pAc, hlen, hb]
    repeat refine S.seq ?_
    refine S.cond (v := decide ((k : Int) < (cs.length : Int))) (by first | rfl | (simp (disch := first | omega | (simp only [add_nx, upd_nx] <;> omega) | decide) only [rUz, ↓reduceIte, Nat.reduceEqDiff, Nat.reduceAdd] <;> rfl)) (fun e => ?_) (fun e => ?_)
    · have hkn : k < cs.length := by have := of_decide_eq_true e; omega
      clear e
      have hps : cs[k]? = some cs[k] := List.getElem?_eq_getElem hkn
      rw [List.drop_eq_getElem_cons hkn, List.all_cons] at hall
      generalize cs[k] = c at hps hall
      obtain ⟨b, f, ro, cells, q1, q2, q3, q4, q5, _⟩ := hc2.idx slA sK hps
      have qp := part_cc pK q4 q5
      repeat refine S.seq ?_
      refine S.skip ?_
      simp (disch := first | omega | (simp only [add_nx, upd_nx] <;> omega) | decide) only [rUz, ↓reduceIte, Nat.reduceEqDiff, Nat.reduceAdd]
      repeat refine S.seq ?_
      refine S.block ?_
      repeat refine S.seq ?_
      refine S.region ?_
      simp (disch := first | omega | (simp only [add_nx, upd_nx] <;> omega) | decide) only [rUz, ↓reduceIte, Nat.reduceEqDiff, Nat.reduceAdd, t1, t3, fieldAddr_ptr fA1 sAc, pAc, hb, q1, q3, qp, wr_alloc zK]
      refine wr_storeN (B := h.nx) (c := [iv 0, iv 0, iv 0, iv 0]) (fam := h.nx) (k := h.nx) (l := cc c) (by simp (disch := first | omega | (simp only [add_nx, upd_nx] <;> omega) | decide) only [rUz, ↓reduceIte, Nat.reduceEqDiff, Nat.reduceAdd]) (by simp (disch := first | omega | (simp only [add_nx, upd_nx] <;> omega) | decide) only [rUz, ↓reduceIte, Nat.reduceEqDiff, Nat.reduceAdd]) sK (by omega) rfl (ag_eq rfl) (af_eq rfl) rfl ?_
      have hk4 : Kp H1 ((h.add [iv 0, iv 0, iv 0, iv 0]).upd h.nx (cc c) h.nx) := hkp.add.upd hnx
      have hg4 : ((h.add [iv 0, iv 0, iv 0, iv 0]).upd h.nx (cc c) h.nx).bl.get h.nx = some (.cells (cc c) h.nx false) := upd_eq _ _ _
      have hb4 := (hk4.get hn1).trans hb1
      simp (disch := first | omega | (simp only [add_nx, upd_nx] <;> omega) | decide) only [rUz, ↓reduceIte, Nat.reduceEqDiff, Nat.reduceAdd]
      generalize (h.add [iv 0, iv 0, iv 0, iv 0]).upd h.nx (cc c) h.nx = h4 at hk4 hg4 hb4 ⊢
      generalize h.nx = B4 at hg4 ⊢
      clear q1 q2 q3 q4 q5 qp hb hnx hc2 hkp
      repeat refine S.seq ?_
      refine S.region ?_
      generalize hJJ : (fun (t : T Value) (h : AHeap) => _) = KJ
      have hJ : ∀ (t : T Value), tget t 1 = ptr0 B1 → tget t 3 = iv (k : Int) → tget t 63 = .bool (!okC hs c) → KJ t h4 = true := by
        intro t t1 t3 t63
        subst hJJ
        simp only [seqK_normal]
        cases hok : okC hs c with
        | false =>
          rw [hok, Bool.false_and] at hall
          rw [hall, cond_false] at hKr
          repeat refine S.seq ?_
          refine S.cond (v := true) (by first | rfl | (simp (disch := first | omega | (simp only [add_nx, upd_nx] <;> omega) | decide) only [rUz, ↓reduceIte, Nat.reduceEqDiff, Nat.reduceAdd, t63, hok, Bool.not_false] <;> rfl)) (fun _ => ?_) (fun e => by cases e)
          repeat refine S.seq ?_
          refine S.region ?_
          simp (disch := first | omega | (simp only [add_nx, upd_nx] <;> omega) | decide) only [rUz, ↓reduceIte, Nat.reduceEqDiff, Nat.reduceAdd]
          refine S.ret ?_
          simp only [seqK_ret, blockK_ret]
          refine he _ _ _ _ (fun e => by cases e) ?_
          simp only [seqK_ret, blockK_ret]
          subst hF
          simp only [finish, endMarks]
          rw [show Try.f24.results.toList = [.tmp 2] from rfl]
          simp (disch := omega) only [resA, ev_tmp, tget_ne, tget_eq, result1]
          exact hKr _ hk4
        | true =>
          rw [hok, Bool.true_and] at hall
          repeat refine S.seq ?_
          refine S.cond (v := false) (by first | rfl | (simp (disch := first | omega | (simp only [add_nx, upd_nx] <;> omega) | decide) only [rUz, ↓reduceIte, Nat.reduceEqDiff, Nat.reduceAdd, t63, hok, Bool.not_true] <;> rfl)) (fun e => by cases e) (fun _ => ?_)
          repeat refine S.seq ?_
          refine S.skip ?_
          simp (disch := first | omega | (simp only [add_nx, upd_nx] <;> omega) | decide) only [rUz, ↓reduceIte, Nat.reduceEqDiff, Nat.reduceAdd]
          repeat refine S.seq ?_
          refine S.region ?_
          simp (disch := first | omega | (simp only [add_nx, upd_nx] <;> omega) | decide) only [rUz, ↓reduceIte, Nat.reduceEqDiff, Nat.reduceAdd, t3]
          refine hn (k + 1) _ _ (by omega) ⟨by omega, hall, hk4, ?_, ?_⟩
          all_goals (first | rfl | (simp (disch := first | omega | (simp only [add_nx, upd_nx] <;> omega) | decide) only [rUz, ↓reduceIte, Nat.reduceEqDiff, Nat.reduceAdd, t1, t3]; done) | (simp (disch := first | omega | (simp only [add_nx, upd_nx] <;> omega) | decide) only [rUz, ↓reduceIte, Nat.reduceEqDiff, Nat.reduceAdd, t1, t3]; rfl))
      clear hJJ hn he hKr
      simp (disch := first | omega | (simp only [add_nx, upd_nx] <;> omega) | decide) only [rUz, ↓reduceIte, Nat.reduceEqDiff, Nat.reduceAdd, t1, fieldAddr_ptr fK0 s3, fieldAddr_ptr fK1 s3, fieldAddr_ptr fA0 s3, p3, hg4, hb4, cc0]
      refine wr_brings (fid := 19) (first := #[]) (captured := #[]) (Post := fun v g => v = .bool (inB c.1 0 (hs - 1)) ∧ g = h4) (by first | rfl | (simp (disch := first | omega | (simp only [add_nx, upd_nx] <;> omega) | decide) only [rUz, ↓reduceIte, Nat.reduceEqDiff, Nat.reduceAdd] <;> rfl)) (hoff _ _ _ rfl) (by simp (disch := first | omega | (simp only [add_nx, upd_nx] <;> omega) | decide) only [rUz, ↓reduceIte, Nat.reduceEqDiff, Nat.reduceAdd]; exact in_y S _ _ _ _) ?_
      rintro v g - ⟨rfl, rfl⟩
      unfold okC at hJ
      cases h1 : inB c.1 0 (hs - 1) with
      | false =>
        simp (disch := first | omega | (simp only [add_nx, upd_nx] <;> omega) | decide) only [rUz, ↓reduceIte, Nat.reduceEqDiff, Nat.reduceAdd, h1, Bool.not_false]
        refine hJ _ ?_ ?_ ?_
        all_goals (first | rfl | (simp (disch := first | omega | (simp only [add_nx, upd_nx] <;> omega) | decide) only [rUz, ↓reduceIte, Nat.reduceEqDiff, Nat.reduceAdd, t1, t3, h1, Bool.false_and, Bool.not_false]; done) | (simp (disch := first | omega | (simp only [add_nx, upd_nx] <;> omega) | decide) only [rUz, ↓reduceIte, Nat.reduceEqDiff, Nat.reduceAdd, t1, t3, h1, Bool.false_and, Bool.not_false]; rfl))
      | true =>
      simp (disch := first | omega | (simp only [add_nx, upd_nx] <;> omega) | decide) only [rUz, ↓reduceIte, Nat.reduceEqDiff, Nat.reduceAdd, h1, Bool.not_true, t1, fieldAddr_ptr fK1 s3, fieldAddr_ptr fA0 s3, p3, hg4, hb4, cc1]
      refine wr_brings (fid := 19) (first := #[]) (captured := #[]) (Post := fun v g' => v = .bool (inB c.2.1 0 (hs - 1)) ∧ g' = g) (by first | rfl | (simp (disch := first | omega | (simp only [add_nx, upd_nx] <;> omega) | decide) only [rUz, ↓reduceIte, Nat.reduceEqDiff, Nat.reduceAdd] <;> rfl)) (hoff _ _ _ rfl) (by simp (disch := first | omega | (simp only [add_nx, upd_nx] <;> omega) | decide) only [rUz, ↓reduceIte, Nat.reduceEqDiff, Nat.reduceAdd]; exact in_y S _ _ _ _) ?_
      rintro v g2 - ⟨rfl, rfl⟩
      cases h2 : inB c.2.1 0 (hs - 1) with
      | false =>
        simp (disch := first | omega | (simp only [add_nx, upd_nx] <;> omega) | decide) only [rUz, ↓reduceIte, Nat.reduceEqDiff, Nat.reduceAdd, h2, Bool.not_false]
        refine hJ _ ?_ ?_ ?_
        all_goals (first | rfl | (simp (disch := first | omega | (simp only [add_nx, upd_nx] <;> omega) | decide) only [rUz, ↓reduceIte, Nat.reduceEqDiff, Nat.reduceAdd, t1, t3, h1, h2, Bool.false_and, Bool.true_and, Bool.not_false]; done) | (simp (disch := first | omega | (simp only [add_nx, upd_nx] <;> omega) | decide) only [rUz, ↓reduceIte, Nat.reduceEqDiff, Nat.reduceAdd, t1, t3, h1, h2, Bool.false_and, Bool.true_and, Bool.not_false]; rfl))
      | true =>
      simp (disch := first | omega | (simp only [add_nx, upd_nx] <;> omega) | decide) only [rUz, ↓reduceIte, Nat.reduceEqDiff, Nat.reduceAdd, h2, Bool.not_true, t1, fieldAddr_ptr fK0 s3, fieldAddr_ptr fK1 s3, p3, hg4, cc0, cc1]
      cases h3 : decide (c.1 = c.2.1) with
      | true =>
        simp (disch := first | omega | (simp only [add_nx, upd_nx] <;> omega) | decide) only [rUz, ↓reduceIte, Nat.reduceEqDiff, Nat.reduceAdd, h3]
        refine hJ _ ?_ ?_ ?_
        all_goals (first | rfl | (simp (disch := first | omega | (simp only [add_nx, upd_nx] <;> omega) | decide) only [rUz, ↓reduceIte, Nat.reduceEqDiff, Nat.reduceAdd, t1, t3, h1, h2, h3, Bool.false_and, Bool.true_and, Bool.not_true, Bool.not_false]; done) | (simp (disch := first | omega | (simp only [add_nx, upd_nx] <;> omega) | decide) only [rUz, ↓reduceIte, Nat.reduceEqDiff, Nat.reduceAdd, t1, t3, h1, h2, h3, Bool.false_and, Bool.true_and, Bool.not_true, Bool.not_false]; rfl))
      | false =>
      simp (disch := first | omega | (simp only [add_nx, upd_nx] <;> omega) | decide) only [rUz, ↓reduceIte, Nat.reduceEqDiff, Nat.reduceAdd, h3, t1, fieldAddr_ptr fK2 s3, p3, hg4, cc2]
      refine wr_brings (fid := 19) (first := #[]) (captured := #[]) (Post := fun v g' => v = .bool (inB c.2.2.1 1 100) ∧ g' = g2) (by first | rfl | (simp (disch := first | omega | (simp only [add_nx, upd_nx] <;> omega) | decide) only [rUz, ↓reduceIte, Nat.reduceEqDiff, Nat.reduceAdd] <;> rfl)) (hoff _ _ _ rfl) (by simp (disch := first | omega | (simp only [add_nx, upd_nx] <;> omega) | decide) only [rUz, ↓reduceIte, Nat.reduceEqDiff, Nat.reduceAdd]; exact in_y S _ _ _ _) ?_
      rintro v g3 - ⟨rfl, rfl⟩
      cases h4 : inB c.2.2.1 1 100 with
      | false =>
        simp (disch := first | omega | (simp only [add_nx, upd_nx] <;> omega) | decide) only [rUz, ↓reduceIte, Nat.reduceEqDiff, Nat.reduceAdd, h4, Bool.not_false]
        refine hJ _ ?_ ?_ ?_
        all_goals (first | rfl | (simp (disch := first | omega | (simp only [add_nx, upd_nx] <;> omega) | decide) only [rUz, ↓reduceIte, Nat.reduceEqDiff, Nat.reduceAdd, t1, t3, h1, h2, h3, h4, Bool.false_and, Bool.true_and, Bool.not_true, Bool.not_false]; done) | (simp (disch := first | omega | (simp only [add_nx, upd_nx] <;> omega) | decide) only [rUz, ↓reduceIte, Nat.reduceEqDiff, Nat.reduceAdd, t1, t3, h1, h2, h3, h4, Bool.false_and, Bool.true_and, Bool.not_true, Bool.not_false]; rfl))
      | true =>
      simp (disch := first | omega | (simp only [add_nx, upd_nx] <;> omega) | decide) only [rUz, ↓reduceIte, Nat.reduceEqDiff, Nat.reduceAdd, h4, Bool.not_true, t1, fieldAddr_ptr fK3 s3, p3, hg4, cc3]
      refine wr_brings (fid := 19) (first := #[]) (captured := #[]) (Post := fun v g' => v = .bool (inB c.2.2.2 1 1000) ∧ g' = g3) (by first | rfl | (simp (disch := first | omega | (simp only [add_nx, upd_nx] <;> omega) | decide) only [rUz, ↓reduceIte, Nat.reduceEqDiff, Nat.reduceAdd] <;> rfl)) (hoff _ _ _ rfl) (by simp (disch := first | omega | (simp only [add_nx, upd_nx] <;> omega) | decide) only [rUz, ↓reduceIte, Nat.reduceEqDiff, Nat.reduceAdd]; exact in_y S _ _ _ _) ?_
      rintro v g4 - ⟨rfl, rfl⟩
      simp (disch := first | omega | (simp only [add_nx, upd_nx] <;> omega) | decide) only [rUz, ↓reduceIte, Nat.reduceEqDiff, Nat.reduceAdd]
      refine hJ _ ?_ ?_ ?_
      all_goals (first | rfl | (simp (disch := first | omega | (simp only [add_nx, upd_nx] <;> omega) | decide) only [rUz, ↓reduceIte, Nat.reduceEqDiff, Nat.reduceAdd, t1, t3, h1, h2, h3, h4, Bool.false_and, Bool.true_and, Bool.not_true, Bool.not_false]; done) | (simp (disch := first | omega | (simp only [add_nx, upd_nx] <;> omega) | decide) only [rUz, ↓reduceIte, Nat.reduceEqDiff, Nat.reduceAdd, t1, t3, h1, h2, h3, h4, Bool.false_and, Bool.true_and, Bool.not_true, Bool.not_false]; rfl))
    · have hkn : k = cs.length := by have := of_decide_eq_false e; omega
      subst hkn
      rw [List.drop_of_length_le (Nat.le_refl _), List.all_nil] at hall
      rw [hall, cond_true] at hKr
      refine S.exit (he _ _ _ _ (fun e => by cases e) ?_)
      simp (disch := first | omega | (simp only [add_nx, upd_nx] <;> omega) | decide) only [rUz, ↓reduceIte, Nat.reduceEqDiff, Nat.reduceAdd]
      repeat refine S.seq ?_
      refine S.region ?_
      simp (disch := first | omega | (simp only [add_nx, upd_nx] <;> omega) | decide) only [rUz, ↓reduceIte, Nat.reduceEqDiff, Nat.reduceAdd]
      refine S.ret ?_
      try simp only [seqK_ret, blockK_ret]
      subst hF
      simp only [finish, endMarks]
      rw [show Try.f24.results.toList = [.tmp 2] from rfl]
      simp (disch := first | omega | (simp only [add_nx, upd_nx] <;> omega) | decide) only [resA, ev_tmp, tget_ne, tget_eq, get_ne, get_eq, upd_eq, upd_ne, ag_eq, ag_ne, result1]
      exact hKr _ hkp
  · refine ⟨Nat.zero_le _, by rw [List.drop_zero], Kp.refl, ?_, ?_⟩
    all_goals (first | rfl | (simp (disch := first | omega | (simp only [add_nx, upd_nx] <;> omega) | decide) only [rUz, ↓reduceIte, Nat.reduceEqDiff, Nat.reduceAdd]; done) | (simp (disch := first | omega | (simp only [add_nx, upd_nx] <;> omega) | decide) only [rUz, ↓reduceIte, Nat.reduceEqDiff, Nat.reduceAdd]; rfl))

set_option maxHeartbeats 4000000 in
theorem faultw_y (S : Ev.Steps Try.prog pr R) (hoff : Off pr) (h0 : AHeap) (hs : Int) (cv : Value) (cs : List C4) (hc : CAt h0 cv cs) (hsz : (cs.length : Int) ≤ 9223372036854775807) : Brings Try.prog R 15 [.agg ⟨[iv hs, cv]⟩] h0 fun v _ => v = iv (faultZ hs cs) := by
  refine brings_of (fn := Try.f15) (c := (Try.f15.body).getD .skip) (by kernel_rfl) rfl (by kernel_rfl) rfl (fun K hK => ?_)
  generalize hF : finish Try.prog Try.f15 K = KF
  simp only [Try.f15, Option.getD_some, argsT, setArgs, fV1_eq, T.setK_eq, id]
  repeat refine S.seq ?_
  refine S.region ?_
  simp (disch := first | omega | (simp only [add_nx, upd_nx] <;> omega) | decide) only [rUz, ↓reduceIte, Nat.reduceEqDiff, Nat.reduceAdd]
  repeat refine S.seq ?_
  refine S.region ?_
  simp (disch := first | omega | (simp only [add_nx, upd_nx] <;> omega) | decide) only [rUz, ↓reduceIte, Nat.reduceEqDiff, Nat.reduceAdd, pA]
  refine wr_brings (fid := 24) (first := #[]) (captured := #[]) (Post := fun v _ => v = iv (faultZ hs cs)) (by first | rfl | (simp (disch := first | omega | (simp only [add_nx, upd_nx] <;> omega) | decide) only [rUz, ↓reduceIte, Nat.reduceEqDiff, Nat.reduceAdd] <;> rfl)) (hoff _ _ _ rfl) (by simp (disch := first | omega | (simp only [add_nx, upd_nx] <;> omega) | decide) only [rUz, ↓reduceIte, Nat.reduceEqDiff, Nat.reduceAdd]; exact fault_y S hoff _ hs cv cs (hc.mono Kp.refl.add) hsz) ?_
  rintro v g hk rfl
  simp (disch := first | omega | (simp only [add_nx, upd_nx] <;> omega) | decide) only [rUz, ↓reduceIte, Nat.reduceEqDiff, Nat.reduceAdd]
  refine S.ret ?_
  try simp only [seqK_ret, blockK_ret]
  subst hF
  simp only [finish, endMarks]
  rw [show Try.f15.results.toList = [.tmp 2] from rfl]
  simp (disch := first | omega | (simp only [add_nx, upd_nx] <;> omega) | decide) only [resA, ev_tmp, tget_ne, tget_eq, get_ne, get_eq, upd_eq, upd_ne, ag_eq, ag_ne, result1]
  exact hK _ _ (Kp.refl.add.trans hk) rfl
end Go.Proofs.Rg
