import Derived.Test.YtfbkgnojdngiiaaMhB
import Derived.Test.YtfbkgnojdngiiaaEvE
/- The program's values, caps, debts and calls. -/
namespace Go.Proofs.Mg
open Go Go.Ev Go.RowKit
set_option linter.unusedSimpArgs false
variable {pr : Prim} {R : ExT}
/-! ## A bank at work -/
abbrev N3 := Int × Int × Int
def c3 (x : N3) : List Value := [iv x.1, iv x.2.1, iv x.2.2]
theorem c3_len (x : N3) : (c3 x).length = 3 := rfl
theorem c30 (x : N3) : (c3 x)[0]? = some (iv x.1) := rfl
theorem c31 (x : N3) : (c3 x)[1]? = some (iv x.2.1) := rfl
theorem c32 (x : N3) : (c3 x)[2]? = some (iv x.2.2) := rfl
theorem mMap : mapOf Try.prog 127 = some (98, 107) := by kernel_rfl
theorem kSpot : intKey Try.prog 98 = some 2 := by kernel_rfl
theorem lMap : sizeB Try.prog 127 = some (0 + 1) := by kernel_rfl
theorem qMap (c : List Value) (o : Nat) : partL Try.prog 127 c o = c[o]? := by kernel_rfl
theorem sA4 : sizeB Try.prog 110 = some 4 := by kernel_rfl
theorem zA4 : zeroOf Try.prog 110 = some (.agg ⟨[iv 0, iv 0, iv 0, iv 0]⟩) := by kernel_rfl
theorem pA4 (c : List Value) (o : Nat) : partL Try.prog 110 c o = bif Nat.ble (Nat.add o 4) c.length then some (.agg ⟨(c.drop o).take 4⟩) else none := by kernel_rfl
def wkV (st : Int) (dv lv pv rv : Value) (r : Nat) : List Value := [iv st, dv, lv, pv, rv, .map (some r)]
section
variable (st : Int) (dv lv pv rv : Value) (r : Nat)
theorem wk1 : (wkV st dv lv pv rv r)[1]? = some dv := rfl
theorem wk2 : (wkV st dv lv pv rv r)[2]? = some lv := rfl
theorem wk3 : (wkV st dv lv pv rv r)[3]? = some pv := rfl
theorem wk4 : (wkV st dv lv pv rv r)[4]? = some rv := rfl
theorem wk5 : (wkV st dv lv pv rv r)[5]? = some (.map (some r)) := rfl
end
/-! ## Single functions -/
set_option maxHeartbeats 4000000 in
theorem grown_y (S : Ev.Steps Try.prog pr R) (h0 : AHeap) (d r : Int) (d0 : 0 ≤ d) (d1 : d ≤ 110000) (r0 : 0 ≤ r) (r1 : r ≤ 100) : Brings Try.prog R 75 [iv d, iv r] h0 fun u h => u = iv (grownZ d r) ∧ h = h0 := by
  refine brings_of (fn := Try.f75) (c := (Try.f75.body).getD .skip) (by kernel_rfl) rfl (by kernel_rfl) rfl (fun K hK => ?_)
  generalize hF : finish Try.prog Try.f75 K = KF
  simp only [Try.f75, Option.getD_some, argsT, setArgs, fV1_eq, T.setK_eq, id]
  obtain ⟨⟨e1, e2⟩, e3, e4⟩ := grown_bnd d0 d1 r0 r1
  have hz : grownZ d r = d + (d * r).tdiv 10000 := rfl
  generalize hX : d * r = X at e1 e2 e3 e4 hz
  obtain ⟨Q, hQ⟩ : ∃ Q, Q = X.tdiv 10000 := ⟨_, rfl⟩
  rw [← hQ] at e3 e4 hz
  repeat refine S.seq ?_
  refine S.region ?_
  simp (disch := first | omega | (simp only [add_nx, upd_nx] <;> omega) | decide) only [rUz, ↓reduceIte, Nat.reduceEqDiff, Nat.reduceAdd]
  repeat refine S.seq ?_
  refine S.region ?_
  simp (disch := first | omega | (simp only [add_nx, upd_nx] <;> omega) | decide) only [rUz, ↓reduceIte, Nat.reduceEqDiff, Nat.reduceAdd, hX]
  refine optR_of' (bin_quo (i := X) (j := 10000) (by simp (disch := first | omega | (simp only [add_nx, upd_nx] <;> omega) | decide) only [rUz, ↓reduceIte, Nat.reduceEqDiff, Nat.reduceAdd]) (by simp (disch := first | omega | (simp only [add_nx, upd_nx] <;> omega) | decide) only [rUz, ↓reduceIte, Nat.reduceEqDiff, Nat.reduceAdd]) (by omega) (by omega) (by omega)) ?_
  rw [← hQ]
  simp (disch := first | omega | (simp only [add_nx, upd_nx] <;> omega) | decide) only [rUz, ↓reduceIte, Nat.reduceEqDiff, Nat.reduceAdd]
  refine S.ret ?_
  try simp only [seqK_ret, blockK_ret]
  subst hF
  simp only [finish, endMarks]
  rw [show Try.f75.results.toList = [.tmp 4] from rfl]
  simp (disch := first | omega | (simp only [add_nx, upd_nx] <;> omega) | decide) only [resA, ev_tmp, tget_ne, tget_eq, get_ne, get_eq, upd_eq, upd_ne, ag_eq, ag_ne, result1]
  exact hK _ _ Kp.refl ⟨by rw [hz], rfl⟩
set_option maxHeartbeats 4000000 in
theorem cap_y (S : Ev.Steps Try.prog pr R) (h0 : AHeap) (x : N3) (v0 : 0 ≤ x.2.1) (v1 : x.2.1 ≤ 400000) (g0 : 0 ≤ x.2.2) (g1 : x.2.2 ≤ 100) : Brings Try.prog R 79 [.agg ⟨c3 x⟩] h0 fun u _ => u = iv (capZ x.2.1 x.2.2) := by
  refine brings_of (fn := Try.f79) (c := (Try.f79.body).getD .skip) (by kernel_rfl) rfl (by kernel_rfl) rfl (fun K hK => ?_)
  generalize hF : finish Try.prog Try.f79 K = KF
  simp only [Try.f79, Option.getD_some, argsT, setArgs, fV1_eq, T.setK_eq, id]
  have hc := cap_bnd v0 v1 g0 g1
  unfold capZ at hc hK
  repeat refine S.seq ?_
  refine S.region ?_
  simp (disch := first | omega | (simp only [add_nx, upd_nx] <;> omega) | decide) only [rUz, ↓reduceIte, Nat.reduceEqDiff, Nat.reduceAdd]
  repeat refine S.seq ?_
  refine S.region ?_
  simp (disch := first | omega | (simp only [add_nx, upd_nx] <;> omega) | decide) only [rUz, ↓reduceIte, Nat.reduceEqDiff, Nat.reduceAdd, fieldAddr_ptr fN1 s3, fieldAddr_ptr fN2 s3, p3, c31, c32]
  refine optR_of' (bin_quo (i := 100 * x.2.1) (j := 100 + x.2.2) (by simp (disch := first | omega | (simp only [add_nx, upd_nx] <;> omega) | decide) only [rUz, ↓reduceIte, Nat.reduceEqDiff, Nat.reduceAdd]) (by simp (disch := first | omega | (simp only [add_nx, upd_nx] <;> omega) | decide) only [rUz, ↓reduceIte, Nat.reduceEqDiff, Nat.reduceAdd]) (by omega) (by omega) (by omega)) ?_
  simp (disch := first | omega | (simp only [add_nx, upd_nx] <;> omega) | decide) only [rUz, ↓reduceIte, Nat.reduceEqDiff, Nat.reduceAdd]
  refine S.ret ?_
  try simp only [seqK_ret, blockK_ret]
  subst hF
  simp only [finish, endMarks]
  rw [show Try.f79.results.toList = [.tmp 2] from rfl]
  simp (disch := first | omega | (simp only [add_nx, upd_nx] <;> omega) | decide) only [resA, ev_tmp, tget_ne, tget_eq, get_ne, get_eq, upd_eq, upd_ne, ag_eq, ag_ne, result1]
  exact hK _ _ Kp.refl.add rfl
theorem least_eq (a : Int) (l : List Int) (k : Nat) (hk : k < l.length) : (l.take (k + 1)).foldl min2 a = min2 ((l.take k).foldl min2 a) l[k] := by
  rw [List.take_add_one, List.getElem?_eq_getElem hk, Option.toList_some, List.foldl_append]
  rfl
structure ILe (cv : Value) (cs : List Int) (a : Int) (H : AHeap) (k : Nat) (t : T Value) (h : AHeap) : Prop where
  hh : h = H
  t0 : tget t 0 = iv ((cs.take k).foldl min2 a)
  t7 : tget t 7 = cv
  t8 : tget t 8 = iv (cs.length : Int)
  t9 : tget t 9 = iv (k : Int)
  hk : k ≤ cs.length
set_option maxHeartbeats 4000000 in
theorem least_y (S : Ev.Steps Try.prog pr R) (h0 : AHeap) (a : Int) (cv : Value) (cs : List Int) (hc : IAt h0 cv cs) (hsz : cs.length ≤ 1000) : Brings Try.prog R 78 [iv a, cv] h0 fun u h => u = iv (cs.foldl min2 a) ∧ h = h0 := by
  refine brings_of (fn := Try.f78) (c := (Try.f78.body).getD .skip) (by kernel_rfl) rfl (by kernel_rfl) rfl (fun K hK => ?_)
  generalize hF : finish Try.prog Try.f78 K = KF
  simp only [Try.f78, Option.getD_some, argsT, setArgs, fV1_eq, T.setK_eq, id]
  have hlen := fun t h1 o => iv_len hc t h1 o
  repeat refine S.seq ?_
  refine S.region ?_
  simp (disch := first | omega | (simp only [add_nx, upd_nx] <;> omega) | decide) only [rUz, ↓reduceIte, Nat.reduceEqDiff, Nat.reduceAdd]
  repeat refine S.seq ?_
  refine S.region ?_
  simp (disch := first | omega | (simp only [add_nx, upd_nx] <;> omega) | decide) only [rUz, ↓reduceIte, Nat.reduceEqDiff, Nat.reduceAdd, hlen]
  repeat refine S.seq ?_
  refine S.block ?_
  refine S.loop (ι := Nat) (ILe cv cs a h0) (fun k => cs.length - k) ?_ 0 _ _ ?_
  rotate_left
  · refine ⟨rfl, ?_, ?_, ?_, ?_, Nat.zero_le _⟩
    all_goals (first | rfl | (simp (disch := first | omega | (simp only [add_nx, upd_nx] <;> omega) | decide) only [rUz, ↓reduceIte, Nat.reduceEqDiff, Nat.reduceAdd, List.take_zero, List.foldl_nil]; done) | (simp (disch := first | omega | (simp only [add_nx, upd_nx] <;> omega) | decide) only [rUz, ↓reduceIte, Nat.reduceEqDiff, Nat.reduceAdd, List.take_zero, List.foldl_nil]; rfl))
  intro k t h ⟨hh, t0, t7, t8, t9, hk⟩ K' hn he
  subst hh
  repeat refine S.seq ?_
  refine S.region ?_
  simp (disch := first | omega | (simp only [add_nx, upd_nx] <;> omega) | decide) only [rUz, ↓reduceIte, Nat.reduceEqDiff, Nat.reduceAdd, t8, t9]
  repeat refine S.seq ?_
  refine S.cond (v := decide ((k : Int) < (cs.length : Int))) (by first | rfl | (simp (disch := first | omega | (simp only [add_nx, upd_nx] <;> omega) | decide) only [rUz, ↓reduceIte, Nat.reduceEqDiff, Nat.reduceAdd] <;> rfl)) (fun e => ?_) (fun e => ?_)
  · have hkn : k < cs.length := by have := of_decide_eq_true e; omega
    obtain ⟨b1, f1, o1, q1, q2, q3, q4⟩ := hc.idx slI s3' hkn
    have hle := least_eq a cs k hkn
    generalize cs[k] = z at q4 hle
    generalize (cs.take k).foldl min2 a = m at t0 hle
    repeat refine S.seq ?_
    refine S.skip ?_
    simp (disch := first | omega | (simp only [add_nx, upd_nx] <;> omega) | decide) only [rUz, ↓reduceIte, Nat.reduceEqDiff, Nat.reduceAdd]
    repeat refine S.seq ?_
    refine S.block ?_
    repeat refine S.seq ?_
    refine S.region ?_
    simp (disch := first | omega | (simp only [add_nx, upd_nx] <;> omega) | decide) only [rUz, ↓reduceIte, Nat.reduceEqDiff, Nat.reduceAdd, t7, t9, q1, q3, p3, q4]
    repeat refine S.seq ?_
    refine S.region ?_
    simp (disch := first | omega | (simp only [add_nx, upd_nx] <;> omega) | decide) only [rUz, ↓reduceIte, Nat.reduceEqDiff, Nat.reduceAdd, t0, w_min, rd_min]
    refine optR_of' (v := iv (min2 m z)) (call2_congr (t' := T.set 15 (T.set 14 .leaf 13 (iv m)) 14 (iv z)) (u := iv m) (v := iv z) (by simp (disch := first | omega | (simp only [add_nx, upd_nx] <;> omega) | decide) only [rUz, ↓reduceIte, Nat.reduceEqDiff, Nat.reduceAdd]) (by simp (disch := first | omega | (simp only [add_nx, upd_nx] <;> omega) | decide) only [rUz, ↓reduceIte, Nat.reduceEqDiff, Nat.reduceAdd]) (by simp (disch := first | omega | (simp only [add_nx, upd_nx] <;> omega) | decide) only [rUz, ↓reduceIte, Nat.reduceEqDiff, Nat.reduceAdd]) (by simp (disch := first | omega | (simp only [add_nx, upd_nx] <;> omega) | decide) only [rUz, ↓reduceIte, Nat.reduceEqDiff, Nat.reduceAdd]) (by kernel_rfl)) ?_
    simp (disch := first | omega | (simp only [add_nx, upd_nx] <;> omega) | decide) only [rUz, ↓reduceIte, Nat.reduceEqDiff, Nat.reduceAdd]
    repeat refine S.seq ?_
    refine S.region ?_
    simp (disch := first | omega | (simp only [add_nx, upd_nx] <;> omega) | decide) only [rUz, ↓reduceIte, Nat.reduceEqDiff, Nat.reduceAdd, t9]
    refine hn (k + 1) _ _ (by omega) ⟨rfl, ?_, ?_, ?_, ?_, by omega⟩
    all_goals (first | rfl | (simp (disch := first | omega | (simp only [add_nx, upd_nx] <;> omega) | decide) only [rUz, ↓reduceIte, Nat.reduceEqDiff, Nat.reduceAdd, t7, t8, hle]; done) | (simp (disch := first | omega | (simp only [add_nx, upd_nx] <;> omega) | decide) only [rUz, ↓reduceIte, Nat.reduceEqDiff, Nat.reduceAdd, t7, t8, hle]; rfl))
  have hkn : k = cs.length := by have := of_decide_eq_false e; omega
  subst hkn
  rw [List.take_of_length_le (Nat.le_refl _)] at t0
  refine S.exit (he _ _ _ _ (fun e => by cases e) ?_)
  simp (disch := first | omega | (simp only [add_nx, upd_nx] <;> omega) | decide) only [rUz, ↓reduceIte, Nat.reduceEqDiff, Nat.reduceAdd]
  repeat refine S.seq ?_
  refine S.region ?_
  simp (disch := first | omega | (simp only [add_nx, upd_nx] <;> omega) | decide) only [rUz, ↓reduceIte, Nat.reduceEqDiff, Nat.reduceAdd, t0]
  refine S.ret ?_
  try simp only [seqK_ret, blockK_ret]
  subst hF
  simp only [finish, endMarks]
  rw [show Try.f78.results.toList = [.tmp 4] from rfl]
  simp (disch := first | omega | (simp only [add_nx, upd_nx] <;> omega) | decide) only [resA, ev_tmp, tget_ne, tget_eq, get_ne, get_eq, upd_eq, upd_ne, ag_eq, ag_ne, result1]
  exact hK _ _ Kp.refl ⟨rfl, rfl⟩
end Go.Proofs.Mg
