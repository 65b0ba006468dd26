import Derived.Test.YtfbkgnojdngiiaaMhC
/- The program's debts, calls, prices and values. -/
namespace Go.Proofs.Mg
open Go Go.Ev Go.RowKit
set_option linter.unusedSimpArgs false
variable {pr : Prim} {R : ExT}
structure StOk (x : N3) : Prop where
  o0 : 0 ≤ x.1
  o1 : x.1 ≤ 120000
  v0 : 0 ≤ x.2.1
  v1 : x.2.1 ≤ 400000
  g0 : 0 ≤ x.2.2
  g1 : x.2.2 ≤ 100
def dueZ (x : N3) : Int := min2 x.1 (capZ x.2.1 x.2.2)
theorem due_bnd {x : N3} (h : StOk x) : 0 ≤ dueZ x ∧ dueZ x ≤ x.1 := by
  have hc := cap_bnd h.v0 h.v1 h.g0 h.g1
  have := h.o0
  unfold dueZ min2
  split <;> omega
theorem veq_c3 (x : N3) : veq (.agg ⟨c3 x⟩) (.agg ⟨c3 x⟩) = true := by
  simp only [c3, veq, veqA, veqL, beqKind, beqI_eq, decide_true, Bool.and_self]
set_option maxHeartbeats 4000000 in
theorem due_y (S : Ev.Steps Try.prog pr R) (hoff : Off pr) (h0 : AHeap) (x : N3) (hx : StOk x) : Brings Try.prog R 55 [.agg ⟨c3 x⟩] h0 fun u _ => u = iv (dueZ x) := by
  refine brings_of (fn := Try.f55) (c := (Try.f55.body).getD .skip) (by kernel_rfl) rfl (by kernel_rfl) rfl (fun K hK => ?_)
  generalize hF : finish Try.prog Try.f55 K = KF
  simp only [Try.f55, Option.getD_some, argsT, setArgs, fV1_eq, T.setK_eq, id]
  repeat refine S.seq ?_
  refine S.region ?_
  simp (disch := first | omega | (simp only [add_nx, upd_nx] <;> omega) | decide) only [rUz, ↓reduceIte, Nat.reduceEqDiff, Nat.reduceAdd]
  have hb1 : (h0.add (c3 x)).bl.get h0.nx = some (.cells (c3 x) h0.nx false) := ag_eq rfl
  have hn1 : h0.nx < (h0.add (c3 x)).nx := Nat.lt_succ_self _
  have hk1 : Kp h0 (h0.add (c3 x)) := Kp.refl.add
  generalize h0.add (c3 x) = H at hb1 hn1 hk1 ⊢
  generalize h0.nx = B1 at hb1 hn1 ⊢
  repeat refine S.seq ?_
  refine S.drawnL [(false, 0), (false, 1), (false, 0), (true, 4), (true, 12), (true, 31), (false, 63)] (by kernel_rfl) (by kernel_rfl) (by kernel_rfl) ?_
  simp (disch := first | omega | (simp only [add_nx, upd_nx] <;> omega) | decide) only [rUz, ↓reduceIte, Nat.reduceEqDiff, Nat.reduceAdd, rDz, infoL, Nat.reduceSub, hb1, fieldAddr_ptr fN0 s3, p3, c30, part_0 pN (c3_len x)]
  refine drW_brings (fid := 79) (first := #[]) (captured := #[]) (Post := fun u _ => u = iv (capZ x.2.1 x.2.2)) rfl (hoff _ _ _ rfl) (by simp (disch := first | omega | (simp only [add_nx, upd_nx] <;> omega) | decide) only [rUz, ↓reduceIte, Nat.reduceEqDiff, Nat.reduceAdd]; exact cap_y S H x hx.v0 hx.v1 hx.g0 hx.g1) (Nat.le_of_ble_eq_true rfl) ?_
  rintro u g hkg rfl
  have hb1g := (hkg.get hn1).trans hb1
  refine ⟨?_, ?_⟩
  · try simp (disch := first | decide | rfl) only [again_nil, again_skip, again_free]
    rw [again_same (v := iv x.1) (by simp (disch := first | omega | (simp only [add_nx, upd_nx] <;> omega) | decide) only [rUz, ↓reduceIte, Nat.reduceEqDiff, Nat.reduceAdd, rDz, infoL, Nat.reduceSub, hb1g, fieldAddr_ptr fN0 s3, p3, c30]) (by first | assumption | exact veq_int | rfl)]
    try simp (disch := first | decide | rfl) only [again_nil, again_skip, again_free]
  simp (disch := first | omega | (simp only [add_nx, upd_nx] <;> omega) | decide) only [rUz, ↓reduceIte, Nat.reduceEqDiff, Nat.reduceAdd, rDz, infoL, Nat.reduceSub]
  refine drW_give (aw_lit1 slI s3' z3 rfl (by omega) (u := iv (capZ x.2.1 x.2.2)) (l := [iv (capZ x.2.1 x.2.2)]) (by simp (disch := first | omega | (simp only [add_nx, upd_nx] <;> omega) | decide) only [rUz, ↓reduceIte, Nat.reduceEqDiff, Nat.reduceAdd, rDz, infoL, Nat.reduceSub]) rfl rfl) (Nat.le_of_ble_eq_true rfl) ?_ ?_
  · try simp (disch := first | decide | rfl) only [again_nil, again_skip, again_free]
    have hB : B1 < g.nx := Nat.lt_of_lt_of_le hn1 hkg.1
    rw [again_same (v := iv x.1) (by simp (disch := first | omega | (simp only [add_nx, upd_nx] <;> omega) | decide) only [rUz, ↓reduceIte, Nat.reduceEqDiff, Nat.reduceAdd, rDz, infoL, Nat.reduceSub, ag_ne, hb1g, fieldAddr_ptr fN0 s3, p3, c30]) (by first | assumption | exact veq_int | rfl)]
    try simp (disch := first | decide | rfl) only [again_nil, again_skip, again_free]
  simp (disch := first | omega | (simp only [add_nx, upd_nx] <;> omega) | decide) only [rUz, ↓reduceIte, Nat.reduceEqDiff, Nat.reduceAdd, rDz, infoL, Nat.reduceSub]
  have hia : IAt (g.add [iv (capZ x.2.1 x.2.2)]) (.slice (some ⟨g.nx, 0, none⟩) 1 1) [capZ x.2.1 x.2.2] := .inr ⟨g.nx, 1, g.nx, false, rfl, Nat.lt_succ_self _, ag_eq rfl⟩
  refine drW_brings (fid := 78) (first := #[]) (captured := #[]) (Post := fun u h => u = iv (([capZ x.2.1 x.2.2] : List Int).foldl min2 x.1) ∧ h = g.add [iv (capZ x.2.1 x.2.2)]) rfl (hoff _ _ _ rfl) (by simp (disch := first | omega | (simp only [add_nx, upd_nx] <;> omega) | decide) only [rUz, ↓reduceIte, Nat.reduceEqDiff, Nat.reduceAdd]; exact least_y S _ x.1 _ [capZ x.2.1 x.2.2] hia (by show 1 ≤ 1000; omega)) (Nat.le_of_ble_eq_true rfl) ?_
  rintro u g2 - ⟨rfl, rfl⟩
  refine ⟨?_, ?_⟩
  · try simp (disch := first | decide | rfl) only [again_nil, again_skip, again_free]
  simp (disch := first | omega | (simp only [add_nx, upd_nx] <;> omega) | decide) only [rUz, ↓reduceIte, Nat.reduceEqDiff, Nat.reduceAdd, rDz, infoL, Nat.reduceSub]
  refine S.ret ?_
  try simp only [seqK_ret, blockK_ret]
  subst hF
  simp only [finish, endMarks]
  rw [show Try.f55.results.toList = [.tmp 2] from rfl]
  simp (disch := first | omega | (simp only [add_nx, upd_nx] <;> omega) | decide) only [resA, ev_tmp, tget_ne, tget_eq, get_ne, get_eq, upd_eq, upd_ne, ag_eq, ag_ne, result1]
  exact hK _ _ (hk1.trans hkg.add) rfl
set_option maxHeartbeats 4000000 in
theorem call_y (S : Ev.Steps Try.prog pr R) (hoff : Off pr) (h0 : AHeap) (x : N3) (hx : StOk x) : Brings Try.prog R 56 [.agg ⟨c3 x⟩] h0 fun u _ => u = iv (x.1 - dueZ x) := by
  refine brings_of (fn := Try.f56) (c := (Try.f56.body).getD .skip) (by kernel_rfl) rfl (by kernel_rfl) rfl (fun K hK => ?_)
  generalize hF : finish Try.prog Try.f56 K = KF
  simp only [Try.f56, Option.getD_some, argsT, setArgs, fV1_eq, T.setK_eq, id]
  have hd := due_bnd hx
  have ho := hx.o1
  repeat refine S.seq ?_
  refine S.region ?_
  simp (disch := first | omega | (simp only [add_nx, upd_nx] <;> omega) | decide) only [rUz, ↓reduceIte, Nat.reduceEqDiff, Nat.reduceAdd]
  have hb1 : (h0.add (c3 x)).bl.get h0.nx = some (.cells (c3 x) h0.nx false) := ag_eq rfl
  have hn1 : h0.nx < (h0.add (c3 x)).nx := Nat.lt_succ_self _
  have hk1 : Kp h0 (h0.add (c3 x)) := Kp.refl.add
  generalize h0.add (c3 x) = H at hb1 hn1 hk1 ⊢
  generalize h0.nx = B1 at hb1 hn1 ⊢
  repeat refine S.seq ?_
  refine S.drawnL [(false, 0), (false, 1), (false, 0), (true, 4), (false, 15), (false, 31)] (by kernel_rfl) (by kernel_rfl) (by kernel_rfl) ?_
  simp (disch := first | omega | (simp only [add_nx, upd_nx] <;> omega) | decide) only [rUz, ↓reduceIte, Nat.reduceEqDiff, Nat.reduceAdd, rDz, infoL, Nat.reduceSub, hb1, fieldAddr_ptr fN0 s3, p3, c30, part_0 pN (c3_len x)]
  refine drW_brings (fid := 55) (first := #[]) (captured := #[]) (Post := fun u _ => u = iv (dueZ x)) rfl (hoff _ _ _ rfl) (by simp (disch := first | omega | (simp only [add_nx, upd_nx] <;> omega) | decide) only [rUz, ↓reduceIte, Nat.reduceEqDiff, Nat.reduceAdd]; exact due_y S hoff H x hx) (Nat.le_of_ble_eq_true rfl) ?_
  rintro u g hkg rfl
  have hb1g := (hkg.get hn1).trans hb1
  refine ⟨?_, ?_⟩
  · try simp (disch := first | decide | rfl) only [again_nil, again_skip, again_free]
    rw [again_same (v := iv x.1) (by simp (disch := first | omega | (simp only [add_nx, upd_nx] <;> omega) | decide) only [rUz, ↓reduceIte, Nat.reduceEqDiff, Nat.reduceAdd, rDz, infoL, Nat.reduceSub, hb1g, fieldAddr_ptr fN0 s3, p3, c30]) (by first | assumption | exact veq_int | rfl)]
    try simp (disch := first | decide | rfl) only [again_nil, again_skip, again_free]
  simp (disch := first | omega | (simp only [add_nx, upd_nx] <;> omega) | decide) only [rUz, ↓reduceIte, Nat.reduceEqDiff, Nat.reduceAdd, rDz, infoL, Nat.reduceSub]
  refine S.ret ?_
  try simp only [seqK_ret, blockK_ret]
  subst hF
  simp only [finish, endMarks]
  rw [show Try.f56.results.toList = [.tmp 2] from rfl]
  simp (disch := first | omega | (simp only [add_nx, upd_nx] <;> omega) | decide) only [resA, ev_tmp, tget_ne, tget_eq, get_ne, get_eq, upd_eq, upd_ne, ag_eq, ag_ne, result1]
  exact hK _ _ (hk1.trans hkg) rfl
/-! ## Prices of a day, and the value of shares -/
def pad4 (p : List Int) : List Value := p.map iv ++ ([iv 0, iv 0, iv 0, iv 0] : List Value).drop p.length
theorem pad4_len {p : List Int} (h : p.length ≤ 4) : (pad4 p).length = 4 := by
  unfold pad4
  rw [List.length_append, List.length_map, List.length_drop]
  show p.length + (4 - p.length) = 4
  omega
theorem pad4_get {p : List Int} {k : Nat} (h : k < p.length) : (pad4 p)[k]? = some (iv p[k]) := by
  unfold pad4
  rw [List.getElem?_append_left (by rw [List.length_map]; exact h), List.getElem?_map, List.getElem?_eq_getElem h]
  rfl
theorem sliceA4 {t : T Value} {h : AHeap} {o : Oper} {B : Nat} : rSlice Try.prog t h o 110 none none (.pointer (some ⟨B, 0, none⟩)) = some (.slice (some ⟨B, 0, none⟩) 4 4) := by kernel_rfl
theorem aA4 : arrOf Try.prog 110 = some (4, 3) := by kernel_rfl
structure IWo (sv : Value) (s p : List Int) (H : AHeap) (B2 : Nat) (k : Nat) (t : T Value) (h : AHeap) : Prop where
  hh : h = H
  t2 : tget t 2 = ptr0 B2
  t5 : tget t 5 = iv (sumL ((List.zipWith (· * ·) s p).take k))
  t8 : tget t 8 = sv
  t9 : tget t 9 = iv (s.length : Int)
  t10 : tget t 10 = iv (k : Int)
  hk : k ≤ s.length
set_option maxHeartbeats 8000000 in
theorem worth_y (S : Ev.Steps Try.prog pr R) (h0 : AHeap) (sv : Value) (s p : List Int) (hs : IAt h0 sv s) (hl : (s.length : Int) ≤ 4) (hlp : s.length = p.length) (hsb : ∀ n, n ∈ s → 0 ≤ n ∧ n ≤ 100) (hpb : ∀ n, n ∈ p → 0 ≤ n ∧ n ≤ 1000) :
    Brings Try.prog R 52 [.agg ⟨pad4 p⟩, sv] h0 fun u _ => u = iv (valS s p) := by
  refine brings_of (fn := Try.f52) (c := (Try.f52.body).getD .skip) (by kernel_rfl) rfl (by kernel_rfl) rfl (fun K hK => ?_)
  generalize hF : finish Try.prog Try.f52 K = KF
  simp only [Try.f52, Option.getD_some, argsT, setArgs, fV1_eq, T.setK_eq, id]
  have hpz := prod_bnd hsb hpb
  have hzl : (List.zipWith (· * ·) s p).length = s.length := by rw [List.length_zipWith]; omega
  repeat refine S.seq ?_
  refine S.region ?_
  simp (disch := first | omega | (simp only [add_nx, upd_nx] <;> omega) | decide) only [rUz, ↓reduceIte, Nat.reduceEqDiff, Nat.reduceAdd]
  have hb2 : (h0.add (pad4 p)).bl.get h0.nx = some (.cells (pad4 p) h0.nx false) := ag_eq rfl
  have hk1 : Kp h0 (h0.add (pad4 p)) := Kp.refl.add
  generalize h0.add (pad4 p) = H at hb2 hk1 ⊢
  generalize h0.nx = B2 at hb2 ⊢
  have hsH := hs.mono hk1
  have ls := fun t h1 o => iv_len hsH t h1 o
  repeat refine S.seq ?_
  refine S.region ?_
  simp (disch := first | omega | (simp only [add_nx, upd_nx] <;> omega) | decide) only [rUz, ↓reduceIte, Nat.reduceEqDiff, Nat.reduceAdd]
  repeat refine S.seq ?_
  refine S.region ?_
  simp (disch := first | omega | (simp only [add_nx, upd_nx] <;> omega) | decide) only [rUz, ↓reduceIte, Nat.reduceEqDiff, Nat.reduceAdd, ls]
  repeat refine S.seq ?_
  refine S.block ?_
  refine S.loop (ι := Nat) (IWo sv s p H B2) (fun k => s.length - k) ?_ 0 _ _ ?_
  rotate_left
  · refine ⟨rfl, ?_, ?_, ?_, ?_, ?_, Nat.zero_le _⟩
    all_goals (first | rfl | (simp (disch := first | omega | (simp only [add_nx, upd_nx] <;> omega) | decide) only [rUz, ↓reduceIte, Nat.reduceEqDiff, Nat.reduceAdd]; done) | (simp (disch := first | omega | (simp only [add_nx, upd_nx] <;> omega) | decide) only [rUz, ↓reduceIte, Nat.reduceEqDiff, Nat.reduceAdd]; rfl))
  intro k t h ⟨hh, t2, t5, t8, t9, t10, hk⟩ K' hn he
  subst hh
  repeat refine S.seq ?_
  refine S.region ?_
  simp (disch := first | omega | (simp only [add_nx, upd_nx] <;> omega) | decide) only [rUz, ↓reduceIte, Nat.reduceEqDiff, Nat.reduceAdd, t9, t10]
  repeat refine S.seq ?_
  refine S.cond (v := decide ((k : Int) < (s.length : Int))) (by first | rfl | (simp (disch := first | omega | (simp only [add_nx, upd_nx] <;> omega) | decide) only [rUz, ↓reduceIte, Nat.reduceEqDiff, Nat.reduceAdd] <;> rfl)) (fun e => ?_) (fun e => ?_)
  · have hkn : k < s.length := by have := of_decide_eq_true e; omega
    have hkp : k < p.length := by omega
    have hkz : k < (List.zipWith (· * ·) s p).length := by omega
    have hk4 : k < 4 := by omega
    obtain ⟨b1, f1, w1, q1, q2, q3, q4⟩ := hsH.idx slI s3' hkn
    have hpk := pad4_get hkp
    have hst := sumL_take _ hkz
    have hzk : (List.zipWith (· * ·) s p)[k] = s[k] * p[k] := List.getElem_zipWith
    have hxb := hpz _ (List.getElem_mem hkz)
    have hb1 := sumL_bnd (by omega) (take_bnd hpz k)
    have hl1 : (((List.zipWith (· * ·) s p).take k).length : Int) ≤ 4 := by rw [List.length_take]; omega
    rw [hzk] at hst hxb
    clear hzk
    generalize s[k] = x at q4 hst hxb
    generalize p[k] = y at hpk hst hxb
    generalize hX : x * y = X at hst hxb
    generalize sumL ((List.zipWith (· * ·) s p).take k) = a at t5 hst hb1
    have ia : rIndexAddr Try.prog 110 (.pointer (some ⟨B2, 0, none⟩)) (iv (k : Int)) = some (.pointer (some ⟨B2, k, none⟩)) := by
      rw [indexAddr_arr aA4 s3' hk4, Nat.zero_add, Nat.mul_one]
    repeat refine S.seq ?_
    refine S.skip ?_
    simp (disch := first | omega | (simp only [add_nx, upd_nx] <;> omega) | decide) only [rUz, ↓reduceIte, Nat.reduceEqDiff, Nat.reduceAdd]
    repeat refine S.seq ?_
    refine S.block ?_
    repeat refine S.seq ?_
    refine S.region ?_
    simp (disch := first | omega | (simp only [add_nx, upd_nx] <;> omega) | decide) only [rUz, ↓reduceIte, Nat.reduceEqDiff, Nat.reduceAdd, t8, t10, q1, q3, p3, q4]
    repeat refine S.seq ?_
    refine S.region ?_
    simp (disch := first | omega | (simp only [add_nx, upd_nx] <;> omega) | decide) only [rUz, ↓reduceIte, Nat.reduceEqDiff, Nat.reduceAdd, t2, t5, ia, hb2, p3, hpk, hX]
    repeat refine S.seq ?_
    refine S.region ?_
    simp (disch := first | omega | (simp only [add_nx, upd_nx] <;> omega) | decide) only [rUz, ↓reduceIte, Nat.reduceEqDiff, Nat.reduceAdd, t10]
    refine hn (k + 1) _ _ (by omega) ⟨rfl, ?_, ?_, ?_, ?_, ?_, by omega⟩
    all_goals (first | rfl | (simp (disch := first | omega | (simp only [add_nx, upd_nx] <;> omega) | decide) only [rUz, ↓reduceIte, Nat.reduceEqDiff, Nat.reduceAdd, t2, t8, t9, hst]; done) | (simp (disch := first | omega | (simp only [add_nx, upd_nx] <;> omega) | decide) only [rUz, ↓reduceIte, Nat.reduceEqDiff, Nat.reduceAdd, t2, t8, t9, hst]; rfl))
  have hkn : k = s.length := by have := of_decide_eq_false e; omega
  subst hkn
  rw [List.take_of_length_le (Nat.le_of_eq hzl)] at t5
  refine S.exit (he _ _ _ _ (fun e => by cases e) ?_)
  simp (disch := first | omega | (simp only [add_nx, upd_nx] <;> omega) | decide) only [rUz, ↓reduceIte, Nat.reduceEqDiff, Nat.reduceAdd]
  repeat refine S.seq ?_
  refine S.region ?_
  simp (disch := first | omega | (simp only [add_nx, upd_nx] <;> omega) | decide) only [rUz, ↓reduceIte, Nat.reduceEqDiff, Nat.reduceAdd, t5]
  refine S.ret ?_
  try simp only [seqK_ret, blockK_ret]
  subst hF
  simp only [finish, endMarks]
  rw [show Try.f52.results.toList = [.tmp 4] from rfl]
  simp (disch := first | omega | (simp only [add_nx, upd_nx] <;> omega) | decide) only [resA, ev_tmp, tget_ne, tget_eq, get_ne, get_eq, upd_eq, upd_ne, ag_eq, ag_ne, result1]
  exact hK _ _ hk1 rfl
set_option maxHeartbeats 8000000 in
theorem prices_y (S : Ev.Steps Try.prog pr R) (h0 : AHeap) (Bw r : Nat) (st : Int) (dv lv pv rv : Value) (hw : h0.bl.get Bw = some (.cells (wkV st dv lv pv rv r) Bw false)) (lw : Bw < h0.nx) (Ts : List PT) (hT : SlAt h0 1 pv (Ts.map cT)) (hP : ∀ x, x ∈ Ts → IAt h0 x.1 x.2) (k : Nat) (p : PT) (hp : Ts[k]? = some p) (hne : p.2 ≠ []) (h4 : p.2.length ≤ 4) :
    Brings Try.prog R 51 [ptr0 Bw, iv (k : Int)] h0 fun u _ => u = .agg ⟨pad4 p.2⟩ := by
  refine brings_of (fn := Try.f51) (c := (Try.f51.body).getD .skip) (by kernel_rfl) rfl (by kernel_rfl) rfl (fun K hK => ?_)
  generalize hF : finish Try.prog Try.f51 K = KF
  simp only [Try.f51, Option.getD_some, argsT, setArgs, fV1_eq, T.setK_eq, id]
  repeat refine S.seq ?_
  refine S.region ?_
  simp (disch := first | omega | (simp only [add_nx, upd_nx] <;> omega) | decide) only [rUz, ↓reduceIte, Nat.reduceEqDiff, Nat.reduceAdd, wr_alloc zA4]
  repeat refine S.seq ?_
  refine S.region ?_
  simp (disch := first | omega | (simp only [add_nx, upd_nx] <;> omega) | decide) only [rUz, ↓reduceIte, Nat.reduceEqDiff, Nat.reduceAdd, wr_alloc zA4]
  have hb4 : ((h0.add [iv 0, iv 0, iv 0, iv 0]).add [iv 0, iv 0, iv 0, iv 0]).bl.get h0.nx = some (.cells [iv 0, iv 0, iv 0, iv 0] h0.nx false) := by rw [ag_ne (by show h0.nx ≠ h0.nx + 1; omega)]; exact ag_eq rfl
  have hf4 : ((h0.add [iv 0, iv 0, iv 0, iv 0]).add [iv 0, iv 0, iv 0, iv 0]).fams.get h0.nx = some [h0.nx] := by rw [af_ne (by show h0.nx ≠ h0.nx + 1; omega)]; exact af_eq rfl
  have hb5 : ((h0.add [iv 0, iv 0, iv 0, iv 0]).add [iv 0, iv 0, iv 0, iv 0]).bl.get (h0.nx + 1) = some (.cells [iv 0, iv 0, iv 0, iv 0] (h0.nx + 1) false) := ag_eq rfl
  have hf5 : ((h0.add [iv 0, iv 0, iv 0, iv 0]).add [iv 0, iv 0, iv 0, iv 0]).fams.get (h0.nx + 1) = some [h0.nx + 1] := af_eq rfl
  have hk1 : Kp h0 ((h0.add [iv 0, iv 0, iv 0, iv 0]).add [iv 0, iv 0, iv 0, iv 0]) := Kp.refl.add.add
  obtain ⟨B4, hB4⟩ : ∃ x, x = h0.nx := ⟨_, rfl⟩
  obtain ⟨B5, hB5⟩ : ∃ x, x = h0.nx + 1 := ⟨_, rfl⟩
  rw [← hB5, ← hB4]
  rw [← hB5] at hb5 hf5
  rw [← hB4] at hb4 hf4
  have o4 : h0.nx ≤ B4 := by omega
  have o45 : B4 < B5 := by omega
  clear hB4 hB5
  generalize (h0.add [iv 0, iv 0, iv 0, iv 0]).add [iv 0, iv 0, iv 0, iv 0] = H at hb4 hf4 hb5 hf5 hk1 ⊢
  have hwH := (hk1.get lw).trans hw
  obtain ⟨b2, f2, o2, ce2, v1, v2, v3, v4, v5, v6⟩ := row_idx (SlAt.mono hT hk1) slII lI' hp
  have v6 := v6 0 _ (cT0 p)
  rw [Nat.mul_one] at v1
  rw [Nat.mul_one, Nat.add_zero] at v6
  have hpm := (hP p (List.mem_of_getElem? hp)).mono hk1
  have hpv := hpm.veq
  repeat refine S.seq ?_
  refine S.drawnL [(false, 0), (false, 0), (false, 2), (false, 6), (false, 14), (false, 30), (false, 0), (false, 126), (false, 254), (true, 511)] (by kernel_rfl) (by kernel_rfl) (by kernel_rfl) ?_
  simp (disch := first | omega | (simp only [add_nx, upd_nx] <;> omega) | decide) only [rUz, ↓reduceIte, Nat.reduceEqDiff, Nat.reduceAdd, rDz, infoL, Nat.reduceSub, sliceA4, hwH, fieldAddr_ptr fW1 ScU, fieldAddr_ptr fcU0 lII, qII, qI, wk3, v1, v3, v6]
  refine drW_give (aw_copyI (B := B5) (N := 4) (cap := 4) (v := p.1) (l := p.2) slI s3' ⟨_, uI⟩ (by simp (disch := first | omega | (simp only [add_nx, upd_nx] <;> omega) | decide) only [rUz, ↓reduceIte, Nat.reduceEqDiff, Nat.reduceAdd, rDz, infoL, Nat.reduceSub]) (by simp (disch := first | omega | (simp only [add_nx, upd_nx] <;> omega) | decide) only [rUz, ↓reduceIte, Nat.reduceEqDiff, Nat.reduceAdd, rDz, infoL, Nat.reduceSub]) hpm hne h4 hb5 hf5 (by show 4 ≤ 4; omega)) (Nat.le_of_ble_eq_true rfl) ?_ ?_
  · try simp (disch := first | decide | rfl) only [again_nil, again_skip, again_free]
  simp (disch := first | omega | (simp only [add_nx, upd_nx] <;> omega) | decide) only [rUz, ↓reduceIte, Nat.reduceEqDiff, Nat.reduceAdd, rDz, infoL, Nat.reduceSub]
  have hb5' : (H.upd B5 (pad4 p.2) B5).bl.get B5 = some (.cells (pad4 p.2) B5 false) := upd_eq _ _ _
  have hb4' : (H.upd B5 (pad4 p.2) B5).bl.get B4 = some (.cells [iv 0, iv 0, iv 0, iv 0] B4 false) := by rw [upd_ne _ _ _ (by omega)]; exact hb4
  have hf4' : (H.upd B5 (pad4 p.2) B5).fams.get B4 = some [B4] := by rw [upd_fams]; exact hf4
  have hk2 : Kp h0 (H.upd B5 (pad4 p.2) B5) := hk1.upd (by omega)
  rw [show (p.2.map iv ++ ([iv 0, iv 0, iv 0, iv 0] : List Value).drop p.2.length) = pad4 p.2 from rfl]
  generalize H.upd B5 (pad4 p.2) B5 = G at hb5' hb4' hf4' hk2 ⊢
  repeat refine S.seq ?_
  refine S.region ?_
  simp (disch := first | omega | (simp only [add_nx, upd_nx] <;> omega) | decide) only [rUz, ↓reduceIte, Nat.reduceEqDiff, Nat.reduceAdd, hb5', part_0 pA4 (pad4_len h4)]
  refine wr_storeN (B := B4) (c := [iv 0, iv 0, iv 0, iv 0]) (fam := B4) (k := B4) (l := pad4 p.2) (by simp (disch := first | omega | (simp only [add_nx, upd_nx] <;> omega) | decide) only [rUz, ↓reduceIte, Nat.reduceEqDiff, Nat.reduceAdd]) (by simp (disch := first | omega | (simp only [add_nx, upd_nx] <;> omega) | decide) only [rUz, ↓reduceIte, Nat.reduceEqDiff, Nat.reduceAdd]) sA4 (by omega) (pad4_len h4) hb4' hf4' rfl ?_
  simp (disch := first | omega | (simp only [add_nx, upd_nx] <;> omega) | decide) only [rUz, ↓reduceIte, Nat.reduceEqDiff, Nat.reduceAdd]
  refine S.ret ?_
  try simp only [seqK_ret, blockK_ret]
  subst hF
  simp only [finish, endMarks]
  rw [show Try.f51.results.toList = [.cell 4 110] from rfl]
  simp (disch := first | omega | (simp only [add_nx, upd_nx] <;> omega) | decide) only [resA, ev_tmp, tget_ne, tget_eq, get_ne, get_eq, upd_eq, upd_ne, ag_eq, ag_ne, result1, part_0 pA4 (pad4_len h4)]
  exact hK _ _ (hk2.upd o4) rfl
end Go.Proofs.Mg
