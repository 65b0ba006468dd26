import Derived.Test.YtljjooaplpkmcacGreatDoorU3
import Derived.Test.YtljjooaplpkmcacGreatDoorTJ
import Derived.Test.YtljjooaplpkmcacGreatDoorEv28
import Derived.Shelf.Strings.OnBuilder
import Derived.Test.YtljjooaplpkmcacGreatDoorProg
import Derived.Test.YtljjooaplpkmcacGreatDoorChecked
namespace Go.Proofs
open Go Go.Ev
set_option linter.unusedSimpArgs false

theorem ty79 : isSlTy Tryz.prog 30 = true := by kernel_rfl
theorem sl79 : slOf Tryz.prog 30 = some 3 := by kernel_rfl
theorem s3' : sizeB Tryz.prog 3 = some 1 := by kernel_rfl

def mxk (xs : List Int) (k : Nat) : Int := match xs.take k with | [] => 0 | x :: r => r.foldl max2 x
theorem mxk_succ (xs : List Int) (k : Nat) (hk : 1 ≤ k) (x : Int) (hx : xs[k]? = some x) : mxk xs (k + 1) = max2 (mxk xs k) x := by
  have ht : xs.take (k + 1) = xs.take k ++ [x] := by rw [List.take_add_one, hx]; rfl
  unfold mxk
  rw [ht]
  cases hq : xs.take k with
  | nil =>
    have h1 : (xs.take k).length = 0 := by rw [hq]; rfl
    have h2 := (List.getElem?_eq_some_iff.1 hx).1
    rw [List.length_take] at h1
    omega
  | cons y r => simp only [List.cons_append, List.foldl_append, List.foldl_cons, List.foldl_nil]

def IMx (xs : List Int) (sv : Value) (H : AHeap) (k : Nat) (t : T Value) (h : AHeap) : Prop :=
  1 ≤ k ∧ k ≤ xs.length ∧ h = H ∧ tget t 0 = sv ∧ tget t 3 = .int .i64 (mxk xs k) ∧ tget t 4 = .int .i64 (k : Int)

variable {pr : Prim} {R : ExT}
set_option maxHeartbeats 4000000 in
theorem max_run (S : Ev.Steps Tryz.prog pr R) (xs : List Int) (hn1 : 1 ≤ xs.length) (hn : xs.length ≤ 100000) (b off cap fam : Nat) (cs : List Value) (H : AHeap) (hb : H.bl.get b = some (.cells cs fam true))
    (hc : ∀ (k : Nat) (x : Int), xs[k]? = some x → cs[off + k]? = some (.int .i64 x)) (K : KV) (hK : ∀ h, K (.int .i64 (mxk xs xs.length)) h = true) :
    R 25 none ((Tryz.f53.body).getD .skip) (argsT [.slice (some ⟨b, off, none⟩) xs.length cap]) H [] (finish Tryz.prog Tryz.f53 K) = true := by
  generalize hF : finish Tryz.prog Tryz.f53 K = KF
  simp only [Tryz.f53, Option.getD_some, argsT, setArgs, fV1_eq, T.setK_eq, id]
  generalize hnl : xs.length = n at *
  obtain ⟨x0, hx0⟩ : ∃ x, xs[0]? = some x := ⟨_, List.getElem?_eq_getElem (by omega)⟩
  have hc0 := hc 0 x0 hx0
  rw [Nat.add_zero] at hc0
  refine S.seq (S.region ?_)
  simp (disch := omega) only [run_cons, want_guard, want1_some, want2_bool, want2_undef, beqB_tt, beqB_tf, beqB_ft, beqB_ff, List.getElem?_toArray, List.getElem?_cons_succ, List.getElem?_cons_zero, Int.natCast_add, Int.natCast_one,  run_nil, want_none, opR_read, opR_no, opR_write, putR_some, putR_none, optR_some, seqK_normal, seqK_exit, seqK_ret, blockK_normal, blockK_ret, blockK_exit, w_move, w_assign, w_pick, w_load, w_nilCheck, w_fieldAddr, w_field, w_indexAddr, w_index, w_extract, w_bin, w_un, w_makeFunc, w_alloc, w_box, w_store, w_call, ev_tmp, ev_int, ev_bool, ev_str, ev_func, tget_eq, tget_ne, get_eq, get_ne, rd_move, rd_assign, rd_pick, rd_load, rd_nilCheck, rd_fieldAddr, rd_field, rd_indexAddr, rd_extract, rd_bin, rd_not, rd_makeFunc, rd_slice, rd_len, rd_build, w_len, w_slice, w_build, un_not, pick_t, pick_f, load_ptr, cellsOf_some, partO_some, nilCheck_ptr, extract_tuple, add_nx, add_get, add_fget, ↓reduceIte, Nat.reduceEqDiff,  upd_nx, upd_fams, upd_eq, upd_ne, wr_box, boxR_agg, boxR_int, boxR_str, boxR_func, cells_agg, stR_int, stR_bool, stR_str, st0_some, st1_some, bin_add, bin_sub, bin_mul, bin_lss, bin_leq, bin_gtr, bin_geq, bin_eql, bin_neq, Nat.reduceAdd, Nat.succ_eq_add_one, Nat.zero_add, Nat.add_zero, Nat.mul_one, Nat.zero_mul]
  refine S.seq (S.seq (S.region ?_))
  simp (disch := omega) only [run_cons, want_guard, want1_some, want2_bool, want2_undef, beqB_tt, beqB_tf, beqB_ft, beqB_ff, List.getElem?_toArray, List.getElem?_cons_succ, List.getElem?_cons_zero, Int.natCast_add, Int.natCast_one,  run_nil, want_none, opR_read, opR_no, opR_write, putR_some, putR_none, optR_some, seqK_normal, seqK_exit, seqK_ret, blockK_normal, blockK_ret, blockK_exit, w_move, w_assign, w_pick, w_load, w_nilCheck, w_fieldAddr, w_field, w_indexAddr, w_index, w_extract, w_bin, w_un, w_makeFunc, w_alloc, w_box, w_store, w_call, ev_tmp, ev_int, ev_bool, ev_str, ev_func, tget_eq, tget_ne, get_eq, get_ne, rd_move, rd_assign, rd_pick, rd_load, rd_nilCheck, rd_fieldAddr, rd_field, rd_indexAddr, rd_extract, rd_bin, rd_not, rd_makeFunc, rd_slice, rd_len, rd_build, w_len, w_slice, w_build, un_not, pick_t, pick_f, load_ptr, cellsOf_some, partO_some, nilCheck_ptr, extract_tuple, add_nx, add_get, add_fget, ↓reduceIte, Nat.reduceEqDiff,  upd_nx, upd_fams, upd_eq, upd_ne, wr_box, boxR_agg, boxR_int, boxR_str, boxR_func, cells_agg, stR_int, stR_bool, stR_str, st0_some, st1_some, bin_add, bin_sub, bin_mul, bin_lss, bin_leq, bin_gtr, bin_geq, bin_eql, bin_neq, Nat.reduceAdd, Nat.succ_eq_add_one, Nat.zero_add, Nat.add_zero, Nat.mul_one, Nat.zero_mul, len_sl ty79]
  refine S.cond (v := decide ((n : Int) < 1)) (by simp (disch := omega) only [run_cons, want_guard, want1_some, want2_bool, want2_undef, beqB_tt, beqB_tf, beqB_ft, beqB_ff, List.getElem?_toArray, List.getElem?_cons_succ, List.getElem?_cons_zero, Int.natCast_add, Int.natCast_one,  run_nil, want_none, opR_read, opR_no, opR_write, putR_some, putR_none, optR_some, seqK_normal, seqK_exit, seqK_ret, blockK_normal, blockK_ret, blockK_exit, w_move, w_assign, w_pick, w_load, w_nilCheck, w_fieldAddr, w_field, w_indexAddr, w_index, w_extract, w_bin, w_un, w_makeFunc, w_alloc, w_box, w_store, w_call, ev_tmp, ev_int, ev_bool, ev_str, ev_func, tget_eq, tget_ne, get_eq, get_ne, rd_move, rd_assign, rd_pick, rd_load, rd_nilCheck, rd_fieldAddr, rd_field, rd_indexAddr, rd_extract, rd_bin, rd_not, rd_makeFunc, rd_slice, rd_len, rd_build, w_len, w_slice, w_build, un_not, pick_t, pick_f, load_ptr, cellsOf_some, partO_some, nilCheck_ptr, extract_tuple, add_nx, add_get, add_fget, ↓reduceIte, Nat.reduceEqDiff,  upd_nx, upd_fams, upd_eq, upd_ne, wr_box, boxR_agg, boxR_int, boxR_str, boxR_func, cells_agg, stR_int, stR_bool, stR_str, st0_some, st1_some, bin_add, bin_sub, bin_mul, bin_lss, bin_leq, bin_gtr, bin_geq, bin_eql, bin_neq, Nat.reduceAdd, Nat.succ_eq_add_one, Nat.zero_add, Nat.add_zero, Nat.mul_one, Nat.zero_mul]) (fun e => ?_) (fun e => ?_)
  · have := of_decide_eq_true e; omega
  refine S.skip ?_
  simp (disch := omega) only [run_cons, want_guard, want1_some, want2_bool, want2_undef, beqB_tt, beqB_tf, beqB_ft, beqB_ff, List.getElem?_toArray, List.getElem?_cons_succ, List.getElem?_cons_zero, Int.natCast_add, Int.natCast_one,  run_nil, want_none, opR_read, opR_no, opR_write, putR_some, putR_none, optR_some, seqK_normal, seqK_exit, seqK_ret, blockK_normal, blockK_ret, blockK_exit, w_move, w_assign, w_pick, w_load, w_nilCheck, w_fieldAddr, w_field, w_indexAddr, w_index, w_extract, w_bin, w_un, w_makeFunc, w_alloc, w_box, w_store, w_call, ev_tmp, ev_int, ev_bool, ev_str, ev_func, tget_eq, tget_ne, get_eq, get_ne, rd_move, rd_assign, rd_pick, rd_load, rd_nilCheck, rd_fieldAddr, rd_field, rd_indexAddr, rd_extract, rd_bin, rd_not, rd_makeFunc, rd_slice, rd_len, rd_build, w_len, w_slice, w_build, un_not, pick_t, pick_f, load_ptr, cellsOf_some, partO_some, nilCheck_ptr, extract_tuple, add_nx, add_get, add_fget, ↓reduceIte, Nat.reduceEqDiff,  upd_nx, upd_fams, upd_eq, upd_ne, wr_box, boxR_agg, boxR_int, boxR_str, boxR_func, cells_agg, stR_int, stR_bool, stR_str, st0_some, st1_some, bin_add, bin_sub, bin_mul, bin_lss, bin_leq, bin_gtr, bin_geq, bin_eql, bin_neq, Nat.reduceAdd, Nat.succ_eq_add_one, Nat.zero_add, Nat.add_zero, Nat.mul_one, Nat.zero_mul]
  refine S.seq (S.region ?_)
  simp (disch := omega) only [run_cons, want_guard, want1_some, want2_bool, want2_undef, beqB_tt, beqB_tf, beqB_ft, beqB_ff, List.getElem?_toArray, List.getElem?_cons_succ, List.getElem?_cons_zero, Int.natCast_add, Int.natCast_one,  run_nil, want_none, opR_read, opR_no, opR_write, putR_some, putR_none, optR_some, seqK_normal, seqK_exit, seqK_ret, blockK_normal, blockK_ret, blockK_exit, w_move, w_assign, w_pick, w_load, w_nilCheck, w_fieldAddr, w_field, w_indexAddr, w_index, w_extract, w_bin, w_un, w_makeFunc, w_alloc, w_box, w_store, w_call, ev_tmp, ev_int, ev_bool, ev_str, ev_func, tget_eq, tget_ne, get_eq, get_ne, rd_move, rd_assign, rd_pick, rd_load, rd_nilCheck, rd_fieldAddr, rd_field, rd_indexAddr, rd_extract, rd_bin, rd_not, rd_makeFunc, rd_slice, rd_len, rd_build, w_len, w_slice, w_build, un_not, pick_t, pick_f, load_ptr, cellsOf_some, partO_some, nilCheck_ptr, extract_tuple, add_nx, add_get, add_fget, ↓reduceIte, Nat.reduceEqDiff,  upd_nx, upd_fams, upd_eq, upd_ne, wr_box, boxR_agg, boxR_int, boxR_str, boxR_func, cells_agg, stR_int, stR_bool, stR_str, st0_some, st1_some, bin_add, bin_sub, bin_mul, bin_lss, bin_leq, bin_gtr, bin_geq, bin_eql, bin_neq, Nat.reduceAdd, Nat.succ_eq_add_one, Nat.zero_add, Nat.add_zero, Nat.mul_one, Nat.zero_mul, indexAddr_sl0 sl79 s3', hb, p3, hc0]
  refine S.seq (S.seq (S.region ?_))
  simp (disch := omega) only [run_cons, want_guard, want1_some, want2_bool, want2_undef, beqB_tt, beqB_tf, beqB_ft, beqB_ff, List.getElem?_toArray, List.getElem?_cons_succ, List.getElem?_cons_zero, Int.natCast_add, Int.natCast_one,  run_nil, want_none, opR_read, opR_no, opR_write, putR_some, putR_none, optR_some, seqK_normal, seqK_exit, seqK_ret, blockK_normal, blockK_ret, blockK_exit, w_move, w_assign, w_pick, w_load, w_nilCheck, w_fieldAddr, w_field, w_indexAddr, w_index, w_extract, w_bin, w_un, w_makeFunc, w_alloc, w_box, w_store, w_call, ev_tmp, ev_int, ev_bool, ev_str, ev_func, tget_eq, tget_ne, get_eq, get_ne, rd_move, rd_assign, rd_pick, rd_load, rd_nilCheck, rd_fieldAddr, rd_field, rd_indexAddr, rd_extract, rd_bin, rd_not, rd_makeFunc, rd_slice, rd_len, rd_build, w_len, w_slice, w_build, un_not, pick_t, pick_f, load_ptr, cellsOf_some, partO_some, nilCheck_ptr, extract_tuple, add_nx, add_get, add_fget, ↓reduceIte, Nat.reduceEqDiff,  upd_nx, upd_fams, upd_eq, upd_ne, wr_box, boxR_agg, boxR_int, boxR_str, boxR_func, cells_agg, stR_int, stR_bool, stR_str, st0_some, st1_some, bin_add, bin_sub, bin_mul, bin_lss, bin_leq, bin_gtr, bin_geq, bin_eql, bin_neq, Nat.reduceAdd, Nat.succ_eq_add_one, Nat.zero_add, Nat.add_zero, Nat.mul_one, Nat.zero_mul]
  refine S.block ?_
  refine S.loop (ι := Nat) (IMx xs (.slice (some ⟨b, off, none⟩) n cap) H) (fun k => n - k) ?_ 1 _ _ ?_
  · intro k t h ⟨hk1, hk, hh, h0, h3, h4⟩ K' hn' he
    subst hh
    refine S.seq (S.seq (S.region ?_))
    simp (disch := omega) only [run_cons, want_guard, want1_some, want2_bool, want2_undef, beqB_tt, beqB_tf, beqB_ft, beqB_ff, List.getElem?_toArray, List.getElem?_cons_succ, List.getElem?_cons_zero, Int.natCast_add, Int.natCast_one,  run_nil, want_none, opR_read, opR_no, opR_write, putR_some, putR_none, optR_some, seqK_normal, seqK_exit, seqK_ret, blockK_normal, blockK_ret, blockK_exit, w_move, w_assign, w_pick, w_load, w_nilCheck, w_fieldAddr, w_field, w_indexAddr, w_index, w_extract, w_bin, w_un, w_makeFunc, w_alloc, w_box, w_store, w_call, ev_tmp, ev_int, ev_bool, ev_str, ev_func, tget_eq, tget_ne, get_eq, get_ne, rd_move, rd_assign, rd_pick, rd_load, rd_nilCheck, rd_fieldAddr, rd_field, rd_indexAddr, rd_extract, rd_bin, rd_not, rd_makeFunc, rd_slice, rd_len, rd_build, w_len, w_slice, w_build, un_not, pick_t, pick_f, load_ptr, cellsOf_some, partO_some, nilCheck_ptr, extract_tuple, add_nx, add_get, add_fget, ↓reduceIte, Nat.reduceEqDiff,  upd_nx, upd_fams, upd_eq, upd_ne, wr_box, boxR_agg, boxR_int, boxR_str, boxR_func, cells_agg, stR_int, stR_bool, stR_str, st0_some, st1_some, bin_add, bin_sub, bin_mul, bin_lss, bin_leq, bin_gtr, bin_geq, bin_eql, bin_neq, Nat.reduceAdd, Nat.succ_eq_add_one, Nat.zero_add, Nat.add_zero, Nat.mul_one, Nat.zero_mul, h0, h4, len_sl ty79]
    refine S.cond (v := decide ((k : Int) < (n : Int))) (by simp (disch := omega) only [run_cons, want_guard, want1_some, want2_bool, want2_undef, beqB_tt, beqB_tf, beqB_ft, beqB_ff, List.getElem?_toArray, List.getElem?_cons_succ, List.getElem?_cons_zero, Int.natCast_add, Int.natCast_one,  run_nil, want_none, opR_read, opR_no, opR_write, putR_some, putR_none, optR_some, seqK_normal, seqK_exit, seqK_ret, blockK_normal, blockK_ret, blockK_exit, w_move, w_assign, w_pick, w_load, w_nilCheck, w_fieldAddr, w_field, w_indexAddr, w_index, w_extract, w_bin, w_un, w_makeFunc, w_alloc, w_box, w_store, w_call, ev_tmp, ev_int, ev_bool, ev_str, ev_func, tget_eq, tget_ne, get_eq, get_ne, rd_move, rd_assign, rd_pick, rd_load, rd_nilCheck, rd_fieldAddr, rd_field, rd_indexAddr, rd_extract, rd_bin, rd_not, rd_makeFunc, rd_slice, rd_len, rd_build, w_len, w_slice, w_build, un_not, pick_t, pick_f, load_ptr, cellsOf_some, partO_some, nilCheck_ptr, extract_tuple, add_nx, add_get, add_fget, ↓reduceIte, Nat.reduceEqDiff,  upd_nx, upd_fams, upd_eq, upd_ne, wr_box, boxR_agg, boxR_int, boxR_str, boxR_func, cells_agg, stR_int, stR_bool, stR_str, st0_some, st1_some, bin_add, bin_sub, bin_mul, bin_lss, bin_leq, bin_gtr, bin_geq, bin_eql, bin_neq, Nat.reduceAdd, Nat.succ_eq_add_one, Nat.zero_add, Nat.add_zero, Nat.mul_one, Nat.zero_mul, h4]) (fun e => ?_) (fun e => ?_)
    · have hkn : k < n := by have := of_decide_eq_true e; omega
      clear e
      obtain ⟨x, hx⟩ : ∃ x, xs[k]? = some x := ⟨_, List.getElem?_eq_getElem (by omega)⟩
      have hck := hc k x hx
      have hs := mxk_succ xs k hk1 x hx
      clear hx hx0 hc0
      refine S.skip ?_
      simp (disch := omega) only [run_cons, want_guard, want1_some, want2_bool, want2_undef, beqB_tt, beqB_tf, beqB_ft, beqB_ff, List.getElem?_toArray, List.getElem?_cons_succ, List.getElem?_cons_zero, Int.natCast_add, Int.natCast_one,  run_nil, want_none, opR_read, opR_no, opR_write, putR_some, putR_none, optR_some, seqK_normal, seqK_exit, seqK_ret, blockK_normal, blockK_ret, blockK_exit, w_move, w_assign, w_pick, w_load, w_nilCheck, w_fieldAddr, w_field, w_indexAddr, w_index, w_extract, w_bin, w_un, w_makeFunc, w_alloc, w_box, w_store, w_call, ev_tmp, ev_int, ev_bool, ev_str, ev_func, tget_eq, tget_ne, get_eq, get_ne, rd_move, rd_assign, rd_pick, rd_load, rd_nilCheck, rd_fieldAddr, rd_field, rd_indexAddr, rd_extract, rd_bin, rd_not, rd_makeFunc, rd_slice, rd_len, rd_build, w_len, w_slice, w_build, un_not, pick_t, pick_f, load_ptr, cellsOf_some, partO_some, nilCheck_ptr, extract_tuple, add_nx, add_get, add_fget, ↓reduceIte, Nat.reduceEqDiff,  upd_nx, upd_fams, upd_eq, upd_ne, wr_box, boxR_agg, boxR_int, boxR_str, boxR_func, cells_agg, stR_int, stR_bool, stR_str, st0_some, st1_some, bin_add, bin_sub, bin_mul, bin_lss, bin_leq, bin_gtr, bin_geq, bin_eql, bin_neq, Nat.reduceAdd, Nat.succ_eq_add_one, Nat.zero_add, Nat.add_zero, Nat.mul_one, Nat.zero_mul]
      refine S.seq (S.block (S.region ?_))
      simp (disch := omega) only [run_cons, want_guard, want1_some, want2_bool, want2_undef, beqB_tt, beqB_tf, beqB_ft, beqB_ff, List.getElem?_toArray, List.getElem?_cons_succ, List.getElem?_cons_zero, Int.natCast_add, Int.natCast_one,  run_nil, want_none, opR_read, opR_no, opR_write, putR_some, putR_none, optR_some, seqK_normal, seqK_exit, seqK_ret, blockK_normal, blockK_ret, blockK_exit, w_move, w_assign, w_pick, w_load, w_nilCheck, w_fieldAddr, w_field, w_indexAddr, w_index, w_extract, w_bin, w_un, w_makeFunc, w_alloc, w_box, w_store, w_call, ev_tmp, ev_int, ev_bool, ev_str, ev_func, tget_eq, tget_ne, get_eq, get_ne, rd_move, rd_assign, rd_pick, rd_load, rd_nilCheck, rd_fieldAddr, rd_field, rd_indexAddr, rd_extract, rd_bin, rd_not, rd_makeFunc, rd_slice, rd_len, rd_build, w_len, w_slice, w_build, un_not, pick_t, pick_f, load_ptr, cellsOf_some, partO_some, nilCheck_ptr, extract_tuple, add_nx, add_get, add_fget, ↓reduceIte, Nat.reduceEqDiff,  upd_nx, upd_fams, upd_eq, upd_ne, wr_box, boxR_agg, boxR_int, boxR_str, boxR_func, cells_agg, stR_int, stR_bool, stR_str, st0_some, st1_some, bin_add, bin_sub, bin_mul, bin_lss, bin_leq, bin_gtr, bin_geq, bin_eql, bin_neq, Nat.reduceAdd, Nat.succ_eq_add_one, Nat.zero_add, Nat.add_zero, Nat.mul_one, Nat.zero_mul, h0, h3, h4, indexAddr_sl sl79 s3', hb, p3, hck, rd_max, w_max]
      refine optR_of' (v := .int .i64 (max2 (mxk xs k) x)) (call2_congr (t' := T.set 23 (T.set 19 .leaf 18 (.int .i64 (mxk xs k))) 22 (.int .i64 x)) (u := .int .i64 (mxk xs k)) (v := .int .i64 x) ?_ ?_ (by kernel_rfl) (by kernel_rfl) (by kernel_rfl)) ?_
      · simp (disch := omega) only [run_cons, want_guard, want1_some, want2_bool, want2_undef, beqB_tt, beqB_tf, beqB_ft, beqB_ff, List.getElem?_toArray, List.getElem?_cons_succ, List.getElem?_cons_zero, Int.natCast_add, Int.natCast_one,  run_nil, want_none, opR_read, opR_no, opR_write, putR_some, putR_none, optR_some, seqK_normal, seqK_exit, seqK_ret, blockK_normal, blockK_ret, blockK_exit, w_move, w_assign, w_pick, w_load, w_nilCheck, w_fieldAddr, w_field, w_indexAddr, w_index, w_extract, w_bin, w_un, w_makeFunc, w_alloc, w_box, w_store, w_call, ev_tmp, ev_int, ev_bool, ev_str, ev_func, tget_eq, tget_ne, get_eq, get_ne, rd_move, rd_assign, rd_pick, rd_load, rd_nilCheck, rd_fieldAddr, rd_field, rd_indexAddr, rd_extract, rd_bin, rd_not, rd_makeFunc, rd_slice, rd_len, rd_build, w_len, w_slice, w_build, un_not, pick_t, pick_f, load_ptr, cellsOf_some, partO_some, nilCheck_ptr, extract_tuple, add_nx, add_get, add_fget, ↓reduceIte, Nat.reduceEqDiff,  upd_nx, upd_fams, upd_eq, upd_ne, wr_box, boxR_agg, boxR_int, boxR_str, boxR_func, cells_agg, stR_int, stR_bool, stR_str, st0_some, st1_some, bin_add, bin_sub, bin_mul, bin_lss, bin_leq, bin_gtr, bin_geq, bin_eql, bin_neq, Nat.reduceAdd, Nat.succ_eq_add_one, Nat.zero_add, Nat.add_zero, Nat.mul_one, Nat.zero_mul, h3]
      · simp (disch := omega) only [run_cons, want_guard, want1_some, want2_bool, want2_undef, beqB_tt, beqB_tf, beqB_ft, beqB_ff, List.getElem?_toArray, List.getElem?_cons_succ, List.getElem?_cons_zero, Int.natCast_add, Int.natCast_one,  run_nil, want_none, opR_read, opR_no, opR_write, putR_some, putR_none, optR_some, seqK_normal, seqK_exit, seqK_ret, blockK_normal, blockK_ret, blockK_exit, w_move, w_assign, w_pick, w_load, w_nilCheck, w_fieldAddr, w_field, w_indexAddr, w_index, w_extract, w_bin, w_un, w_makeFunc, w_alloc, w_box, w_store, w_call, ev_tmp, ev_int, ev_bool, ev_str, ev_func, tget_eq, tget_ne, get_eq, get_ne, rd_move, rd_assign, rd_pick, rd_load, rd_nilCheck, rd_fieldAddr, rd_field, rd_indexAddr, rd_extract, rd_bin, rd_not, rd_makeFunc, rd_slice, rd_len, rd_build, w_len, w_slice, w_build, un_not, pick_t, pick_f, load_ptr, cellsOf_some, partO_some, nilCheck_ptr, extract_tuple, add_nx, add_get, add_fget, ↓reduceIte, Nat.reduceEqDiff,  upd_nx, upd_fams, upd_eq, upd_ne, wr_box, boxR_agg, boxR_int, boxR_str, boxR_func, cells_agg, stR_int, stR_bool, stR_str, st0_some, st1_some, bin_add, bin_sub, bin_mul, bin_lss, bin_leq, bin_gtr, bin_geq, bin_eql, bin_neq, Nat.reduceAdd, Nat.succ_eq_add_one, Nat.zero_add, Nat.add_zero, Nat.mul_one, Nat.zero_mul]
      simp (disch := omega) only [run_cons, want_guard, want1_some, want2_bool, want2_undef, beqB_tt, beqB_tf, beqB_ft, beqB_ff, List.getElem?_toArray, List.getElem?_cons_succ, List.getElem?_cons_zero, Int.natCast_add, Int.natCast_one,  run_nil, want_none, opR_read, opR_no, opR_write, putR_some, putR_none, optR_some, seqK_normal, seqK_exit, seqK_ret, blockK_normal, blockK_ret, blockK_exit, w_move, w_assign, w_pick, w_load, w_nilCheck, w_fieldAddr, w_field, w_indexAddr, w_index, w_extract, w_bin, w_un, w_makeFunc, w_alloc, w_box, w_store, w_call, ev_tmp, ev_int, ev_bool, ev_str, ev_func, tget_eq, tget_ne, get_eq, get_ne, rd_move, rd_assign, rd_pick, rd_load, rd_nilCheck, rd_fieldAddr, rd_field, rd_indexAddr, rd_extract, rd_bin, rd_not, rd_makeFunc, rd_slice, rd_len, rd_build, w_len, w_slice, w_build, un_not, pick_t, pick_f, load_ptr, cellsOf_some, partO_some, nilCheck_ptr, extract_tuple, add_nx, add_get, add_fget, ↓reduceIte, Nat.reduceEqDiff,  upd_nx, upd_fams, upd_eq, upd_ne, wr_box, boxR_agg, boxR_int, boxR_str, boxR_func, cells_agg, stR_int, stR_bool, stR_str, st0_some, st1_some, bin_add, bin_sub, bin_mul, bin_lss, bin_leq, bin_gtr, bin_geq, bin_eql, bin_neq, Nat.reduceAdd, Nat.succ_eq_add_one, Nat.zero_add, Nat.add_zero, Nat.mul_one, Nat.zero_mul, h4]
      refine S.region ?_
      simp (disch := omega) only [run_cons, want_guard, want1_some, want2_bool, want2_undef, beqB_tt, beqB_tf, beqB_ft, beqB_ff, List.getElem?_toArray, List.getElem?_cons_succ, List.getElem?_cons_zero, Int.natCast_add, Int.natCast_one,  run_nil, want_none, opR_read, opR_no, opR_write, putR_some, putR_none, optR_some, seqK_normal, seqK_exit, seqK_ret, blockK_normal, blockK_ret, blockK_exit, w_move, w_assign, w_pick, w_load, w_nilCheck, w_fieldAddr, w_field, w_indexAddr, w_index, w_extract, w_bin, w_un, w_makeFunc, w_alloc, w_box, w_store, w_call, ev_tmp, ev_int, ev_bool, ev_str, ev_func, tget_eq, tget_ne, get_eq, get_ne, rd_move, rd_assign, rd_pick, rd_load, rd_nilCheck, rd_fieldAddr, rd_field, rd_indexAddr, rd_extract, rd_bin, rd_not, rd_makeFunc, rd_slice, rd_len, rd_build, w_len, w_slice, w_build, un_not, pick_t, pick_f, load_ptr, cellsOf_some, partO_some, nilCheck_ptr, extract_tuple, add_nx, add_get, add_fget, ↓reduceIte, Nat.reduceEqDiff,  upd_nx, upd_fams, upd_eq, upd_ne, wr_box, boxR_agg, boxR_int, boxR_str, boxR_func, cells_agg, stR_int, stR_bool, stR_str, st0_some, st1_some, bin_add, bin_sub, bin_mul, bin_lss, bin_leq, bin_gtr, bin_geq, bin_eql, bin_neq, Nat.reduceAdd, Nat.succ_eq_add_one, Nat.zero_add, Nat.add_zero, Nat.mul_one, Nat.zero_mul, h4]
      refine hn' (k + 1) _ _ (by omega) ⟨by omega, by omega, rfl, ?_, ?_, ?_⟩
      all_goals (simp (disch := omega) only [run_cons, want_guard, want1_some, want2_bool, want2_undef, beqB_tt, beqB_tf, beqB_ft, beqB_ff, List.getElem?_toArray, List.getElem?_cons_succ, List.getElem?_cons_zero, Int.natCast_add, Int.natCast_one,  run_nil, want_none, opR_read, opR_no, opR_write, putR_some, putR_none, optR_some, seqK_normal, seqK_exit, seqK_ret, blockK_normal, blockK_ret, blockK_exit, w_move, w_assign, w_pick, w_load, w_nilCheck, w_fieldAddr, w_field, w_indexAddr, w_index, w_extract, w_bin, w_un, w_makeFunc, w_alloc, w_box, w_store, w_call, ev_tmp, ev_int, ev_bool, ev_str, ev_func, tget_eq, tget_ne, get_eq, get_ne, rd_move, rd_assign, rd_pick, rd_load, rd_nilCheck, rd_fieldAddr, rd_field, rd_indexAddr, rd_extract, rd_bin, rd_not, rd_makeFunc, rd_slice, rd_len, rd_build, w_len, w_slice, w_build, un_not, pick_t, pick_f, load_ptr, cellsOf_some, partO_some, nilCheck_ptr, extract_tuple, add_nx, add_get, add_fget, ↓reduceIte, Nat.reduceEqDiff,  upd_nx, upd_fams, upd_eq, upd_ne, wr_box, boxR_agg, boxR_int, boxR_str, boxR_func, cells_agg, stR_int, stR_bool, stR_str, st0_some, st1_some, bin_add, bin_sub, bin_mul, bin_lss, bin_leq, bin_gtr, bin_geq, bin_eql, bin_neq, Nat.reduceAdd, Nat.succ_eq_add_one, Nat.zero_add, Nat.add_zero, Nat.mul_one, Nat.zero_mul, h0, h3, h4, hs]; done)
    · have hkn : k = n := by have := of_decide_eq_false e; omega
      subst hkn
      refine S.exit ?_
      simp (disch := omega) only [run_cons, want_guard, want1_some, want2_bool, want2_undef, beqB_tt, beqB_tf, beqB_ft, beqB_ff, List.getElem?_toArray, List.getElem?_cons_succ, List.getElem?_cons_zero, Int.natCast_add, Int.natCast_one,  run_nil, want_none, opR_read, opR_no, opR_write, putR_some, putR_none, optR_some, seqK_normal, seqK_exit, seqK_ret, blockK_normal, blockK_ret, blockK_exit, w_move, w_assign, w_pick, w_load, w_nilCheck, w_fieldAddr, w_field, w_indexAddr, w_index, w_extract, w_bin, w_un, w_makeFunc, w_alloc, w_box, w_store, w_call, ev_tmp, ev_int, ev_bool, ev_str, ev_func, tget_eq, tget_ne, get_eq, get_ne, rd_move, rd_assign, rd_pick, rd_load, rd_nilCheck, rd_fieldAddr, rd_field, rd_indexAddr, rd_extract, rd_bin, rd_not, rd_makeFunc, rd_slice, rd_len, rd_build, w_len, w_slice, w_build, un_not, pick_t, pick_f, load_ptr, cellsOf_some, partO_some, nilCheck_ptr, extract_tuple, add_nx, add_get, add_fget, ↓reduceIte, Nat.reduceEqDiff,  upd_nx, upd_fams, upd_eq, upd_ne, wr_box, boxR_agg, boxR_int, boxR_str, boxR_func, cells_agg, stR_int, stR_bool, stR_str, st0_some, st1_some, bin_add, bin_sub, bin_mul, bin_lss, bin_leq, bin_gtr, bin_geq, bin_eql, bin_neq, Nat.reduceAdd, Nat.succ_eq_add_one, Nat.zero_add, Nat.add_zero, Nat.mul_one, Nat.zero_mul]
      refine he _ _ _ _ (fun e => by cases e) ?_
      simp (disch := omega) only [run_cons, want_guard, want1_some, want2_bool, want2_undef, beqB_tt, beqB_tf, beqB_ft, beqB_ff, List.getElem?_toArray, List.getElem?_cons_succ, List.getElem?_cons_zero, Int.natCast_add, Int.natCast_one,  run_nil, want_none, opR_read, opR_no, opR_write, putR_some, putR_none, optR_some, seqK_normal, seqK_exit, seqK_ret, blockK_normal, blockK_ret, blockK_exit, w_move, w_assign, w_pick, w_load, w_nilCheck, w_fieldAddr, w_field, w_indexAddr, w_index, w_extract, w_bin, w_un, w_makeFunc, w_alloc, w_box, w_store, w_call, ev_tmp, ev_int, ev_bool, ev_str, ev_func, tget_eq, tget_ne, get_eq, get_ne, rd_move, rd_assign, rd_pick, rd_load, rd_nilCheck, rd_fieldAddr, rd_field, rd_indexAddr, rd_extract, rd_bin, rd_not, rd_makeFunc, rd_slice, rd_len, rd_build, w_len, w_slice, w_build, un_not, pick_t, pick_f, load_ptr, cellsOf_some, partO_some, nilCheck_ptr, extract_tuple, add_nx, add_get, add_fget, ↓reduceIte, Nat.reduceEqDiff,  upd_nx, upd_fams, upd_eq, upd_ne, wr_box, boxR_agg, boxR_int, boxR_str, boxR_func, cells_agg, stR_int, stR_bool, stR_str, st0_some, st1_some, bin_add, bin_sub, bin_mul, bin_lss, bin_leq, bin_gtr, bin_geq, bin_eql, bin_neq, Nat.reduceAdd, Nat.succ_eq_add_one, Nat.zero_add, Nat.add_zero, Nat.mul_one, Nat.zero_mul]
      refine S.seq (S.region ?_)
      simp (disch := omega) only [run_cons, want_guard, want1_some, want2_bool, want2_undef, beqB_tt, beqB_tf, beqB_ft, beqB_ff, List.getElem?_toArray, List.getElem?_cons_succ, List.getElem?_cons_zero, Int.natCast_add, Int.natCast_one,  run_nil, want_none, opR_read, opR_no, opR_write, putR_some, putR_none, optR_some, seqK_normal, seqK_exit, seqK_ret, blockK_normal, blockK_ret, blockK_exit, w_move, w_assign, w_pick, w_load, w_nilCheck, w_fieldAddr, w_field, w_indexAddr, w_index, w_extract, w_bin, w_un, w_makeFunc, w_alloc, w_box, w_store, w_call, ev_tmp, ev_int, ev_bool, ev_str, ev_func, tget_eq, tget_ne, get_eq, get_ne, rd_move, rd_assign, rd_pick, rd_load, rd_nilCheck, rd_fieldAddr, rd_field, rd_indexAddr, rd_extract, rd_bin, rd_not, rd_makeFunc, rd_slice, rd_len, rd_build, w_len, w_slice, w_build, un_not, pick_t, pick_f, load_ptr, cellsOf_some, partO_some, nilCheck_ptr, extract_tuple, add_nx, add_get, add_fget, ↓reduceIte, Nat.reduceEqDiff,  upd_nx, upd_fams, upd_eq, upd_ne, wr_box, boxR_agg, boxR_int, boxR_str, boxR_func, cells_agg, stR_int, stR_bool, stR_str, st0_some, st1_some, bin_add, bin_sub, bin_mul, bin_lss, bin_leq, bin_gtr, bin_geq, bin_eql, bin_neq, Nat.reduceAdd, Nat.succ_eq_add_one, Nat.zero_add, Nat.add_zero, Nat.mul_one, Nat.zero_mul, h3]
      refine S.ret ?_
      subst hF
      simp only [finish, endMarks]
      rw [show Tryz.f53.results.toList = [.tmp 2] from rfl]
      simp (disch := omega) only [resA, ev_tmp, tget_ne, tget_eq, result1]
      exact hK _
  · refine ⟨by omega, by omega, rfl, ?_, ?_, ?_⟩
    · simp (disch := omega) only [run_cons, want_guard, want1_some, want2_bool, want2_undef, beqB_tt, beqB_tf, beqB_ft, beqB_ff, List.getElem?_toArray, List.getElem?_cons_succ, List.getElem?_cons_zero, Int.natCast_add, Int.natCast_one,  run_nil, want_none, opR_read, opR_no, opR_write, putR_some, putR_none, optR_some, seqK_normal, seqK_exit, seqK_ret, blockK_normal, blockK_ret, blockK_exit, w_move, w_assign, w_pick, w_load, w_nilCheck, w_fieldAddr, w_field, w_indexAddr, w_index, w_extract, w_bin, w_un, w_makeFunc, w_alloc, w_box, w_store, w_call, ev_tmp, ev_int, ev_bool, ev_str, ev_func, tget_eq, tget_ne, get_eq, get_ne, rd_move, rd_assign, rd_pick, rd_load, rd_nilCheck, rd_fieldAddr, rd_field, rd_indexAddr, rd_extract, rd_bin, rd_not, rd_makeFunc, rd_slice, rd_len, rd_build, w_len, w_slice, w_build, un_not, pick_t, pick_f, load_ptr, cellsOf_some, partO_some, nilCheck_ptr, extract_tuple, add_nx, add_get, add_fget, ↓reduceIte, Nat.reduceEqDiff,  upd_nx, upd_fams, upd_eq, upd_ne, wr_box, boxR_agg, boxR_int, boxR_str, boxR_func, cells_agg, stR_int, stR_bool, stR_str, st0_some, st1_some, bin_add, bin_sub, bin_mul, bin_lss, bin_leq, bin_gtr, bin_geq, bin_eql, bin_neq, Nat.reduceAdd, Nat.succ_eq_add_one, Nat.zero_add, Nat.add_zero, Nat.mul_one, Nat.zero_mul]
    · have : mxk xs 1 = x0 := by
        unfold mxk
        rw [show (1 : Nat) = 0 + 1 from rfl, List.take_add_one, hx0, List.take_zero]; rfl
      rw [this]
      simp (disch := omega) only [run_cons, want_guard, want1_some, want2_bool, want2_undef, beqB_tt, beqB_tf, beqB_ft, beqB_ff, List.getElem?_toArray, List.getElem?_cons_succ, List.getElem?_cons_zero, Int.natCast_add, Int.natCast_one,  run_nil, want_none, opR_read, opR_no, opR_write, putR_some, putR_none, optR_some, seqK_normal, seqK_exit, seqK_ret, blockK_normal, blockK_ret, blockK_exit, w_move, w_assign, w_pick, w_load, w_nilCheck, w_fieldAddr, w_field, w_indexAddr, w_index, w_extract, w_bin, w_un, w_makeFunc, w_alloc, w_box, w_store, w_call, ev_tmp, ev_int, ev_bool, ev_str, ev_func, tget_eq, tget_ne, get_eq, get_ne, rd_move, rd_assign, rd_pick, rd_load, rd_nilCheck, rd_fieldAddr, rd_field, rd_indexAddr, rd_extract, rd_bin, rd_not, rd_makeFunc, rd_slice, rd_len, rd_build, w_len, w_slice, w_build, un_not, pick_t, pick_f, load_ptr, cellsOf_some, partO_some, nilCheck_ptr, extract_tuple, add_nx, add_get, add_fget, ↓reduceIte, Nat.reduceEqDiff,  upd_nx, upd_fams, upd_eq, upd_ne, wr_box, boxR_agg, boxR_int, boxR_str, boxR_func, cells_agg, stR_int, stR_bool, stR_str, st0_some, st1_some, bin_add, bin_sub, bin_mul, bin_lss, bin_leq, bin_gtr, bin_geq, bin_eql, bin_neq, Nat.reduceAdd, Nat.succ_eq_add_one, Nat.zero_add, Nat.add_zero, Nat.mul_one, Nat.zero_mul]
    · first | (simp (disch := omega) only [run_cons, want_guard, want1_some, want2_bool, want2_undef, beqB_tt, beqB_tf, beqB_ft, beqB_ff, List.getElem?_toArray, List.getElem?_cons_succ, List.getElem?_cons_zero, Int.natCast_add, Int.natCast_one,  run_nil, want_none, opR_read, opR_no, opR_write, putR_some, putR_none, optR_some, seqK_normal, seqK_exit, seqK_ret, blockK_normal, blockK_ret, blockK_exit, w_move, w_assign, w_pick, w_load, w_nilCheck, w_fieldAddr, w_field, w_indexAddr, w_index, w_extract, w_bin, w_un, w_makeFunc, w_alloc, w_box, w_store, w_call, ev_tmp, ev_int, ev_bool, ev_str, ev_func, tget_eq, tget_ne, get_eq, get_ne, rd_move, rd_assign, rd_pick, rd_load, rd_nilCheck, rd_fieldAddr, rd_field, rd_indexAddr, rd_extract, rd_bin, rd_not, rd_makeFunc, rd_slice, rd_len, rd_build, w_len, w_slice, w_build, un_not, pick_t, pick_f, load_ptr, cellsOf_some, partO_some, nilCheck_ptr, extract_tuple, add_nx, add_get, add_fget, ↓reduceIte, Nat.reduceEqDiff,  upd_nx, upd_fams, upd_eq, upd_ne, wr_box, boxR_agg, boxR_int, boxR_str, boxR_func, cells_agg, stR_int, stR_bool, stR_str, st0_some, st1_some, bin_add, bin_sub, bin_mul, bin_lss, bin_leq, bin_gtr, bin_geq, bin_eql, bin_neq, Nat.reduceAdd, Nat.succ_eq_add_one, Nat.zero_add, Nat.add_zero, Nat.mul_one, Nat.zero_mul]; done) | (simp (disch := omega) only [run_cons, want_guard, want1_some, want2_bool, want2_undef, beqB_tt, beqB_tf, beqB_ft, beqB_ff, List.getElem?_toArray, List.getElem?_cons_succ, List.getElem?_cons_zero, Int.natCast_add, Int.natCast_one,  run_nil, want_none, opR_read, opR_no, opR_write, putR_some, putR_none, optR_some, seqK_normal, seqK_exit, seqK_ret, blockK_normal, blockK_ret, blockK_exit, w_move, w_assign, w_pick, w_load, w_nilCheck, w_fieldAddr, w_field, w_indexAddr, w_index, w_extract, w_bin, w_un, w_makeFunc, w_alloc, w_box, w_store, w_call, ev_tmp, ev_int, ev_bool, ev_str, ev_func, tget_eq, tget_ne, get_eq, get_ne, rd_move, rd_assign, rd_pick, rd_load, rd_nilCheck, rd_fieldAddr, rd_field, rd_indexAddr, rd_extract, rd_bin, rd_not, rd_makeFunc, rd_slice, rd_len, rd_build, w_len, w_slice, w_build, un_not, pick_t, pick_f, load_ptr, cellsOf_some, partO_some, nilCheck_ptr, extract_tuple, add_nx, add_get, add_fget, ↓reduceIte, Nat.reduceEqDiff,  upd_nx, upd_fams, upd_eq, upd_ne, wr_box, boxR_agg, boxR_int, boxR_str, boxR_func, cells_agg, stR_int, stR_bool, stR_str, st0_some, st1_some, bin_add, bin_sub, bin_mul, bin_lss, bin_leq, bin_gtr, bin_geq, bin_eql, bin_neq, Nat.reduceAdd, Nat.succ_eq_add_one, Nat.zero_add, Nat.add_zero, Nat.mul_one, Nat.zero_mul]; rfl)

def ILs (xs : List Int) (x0 : Int) (sv : Value) (H : AHeap) (k : Nat) (t : T Value) (h : AHeap) : Prop :=
  k ≤ xs.length ∧ h = H ∧ tget t 7 = sv ∧ tget t 0 = .int .i64 ((xs.take k).foldl min2 x0) ∧ tget t 8 = .int .i64 (xs.length : Int) ∧ tget t 9 = .int .i64 (k : Int)

set_option maxHeartbeats 4000000 in
theorem least_run (S : Ev.Steps Tryz.prog pr R) (x0 : Int) (xs : List Int) (hn : xs.length ≤ 100000) (sv : Value) (H : AHeap) (hsv : (∃ b off cap fam cs, sv = .slice (some ⟨b, off, none⟩) xs.length cap ∧ H.bl.get b = some (.cells cs fam true) ∧
    ∀ (k : Nat) (x : Int), xs[k]? = some x → cs[off + k]? = some (.int .i64 x)) ∨ (sv = .slice none 0 1 ∧ xs = [])) (K : KV) (hK : ∀ h, K (.int .i64 (xs.foldl min2 x0)) h = true) :
    R 18 none ((Tryz.f54.body).getD .skip) (argsT [.int .i64 x0, sv]) H [] (finish Tryz.prog Tryz.f54 K) = true := by
  generalize hF : finish Tryz.prog Tryz.f54 K = KF
  simp only [Tryz.f54, Option.getD_some, argsT, setArgs, fV1_eq, T.setK_eq, id]
  obtain ⟨q, cap, hq⟩ : ∃ (q : Option Addr) (cap : Nat), sv = .slice q xs.length cap := by
    rcases hsv with ⟨b, off, cap, fam, cs, rfl, _⟩ | ⟨rfl, rfl⟩
    · exact ⟨_, _, rfl⟩
    · exact ⟨none, 1, rfl⟩
  refine S.seq (S.region ?_)
  simp (disch := omega) only [run_cons, want_guard, want1_some, want2_bool, want2_undef, beqB_tt, beqB_tf, beqB_ft, beqB_ff, List.getElem?_toArray, List.getElem?_cons_succ, List.getElem?_cons_zero, Int.natCast_add, Int.natCast_one,  run_nil, want_none, opR_read, opR_no, opR_write, putR_some, putR_none, optR_some, seqK_normal, seqK_exit, seqK_ret, blockK_normal, blockK_ret, blockK_exit, w_move, w_assign, w_pick, w_load, w_nilCheck, w_fieldAddr, w_field, w_indexAddr, w_index, w_extract, w_bin, w_un, w_makeFunc, w_alloc, w_box, w_store, w_call, ev_tmp, ev_int, ev_bool, ev_str, ev_func, tget_eq, tget_ne, get_eq, get_ne, rd_move, rd_assign, rd_pick, rd_load, rd_nilCheck, rd_fieldAddr, rd_field, rd_indexAddr, rd_extract, rd_bin, rd_not, rd_makeFunc, rd_slice, rd_len, rd_build, w_len, w_slice, w_build, un_not, pick_t, pick_f, load_ptr, cellsOf_some, partO_some, nilCheck_ptr, extract_tuple, add_nx, add_get, add_fget, ↓reduceIte, Nat.reduceEqDiff,  upd_nx, upd_fams, upd_eq, upd_ne, wr_box, boxR_agg, boxR_int, boxR_str, boxR_func, cells_agg, stR_int, stR_bool, stR_str, st0_some, st1_some, bin_add, bin_sub, bin_mul, bin_lss, bin_leq, bin_gtr, bin_geq, bin_eql, bin_neq, Nat.reduceAdd, Nat.succ_eq_add_one, Nat.zero_add, Nat.add_zero, Nat.mul_one, Nat.zero_mul]
  refine S.seq (S.seq (S.region ?_))
  rw [hq]
  simp (disch := omega) only [run_cons, want_guard, want1_some, want2_bool, want2_undef, beqB_tt, beqB_tf, beqB_ft, beqB_ff, List.getElem?_toArray, List.getElem?_cons_succ, List.getElem?_cons_zero, Int.natCast_add, Int.natCast_one,  run_nil, want_none, opR_read, opR_no, opR_write, putR_some, putR_none, optR_some, seqK_normal, seqK_exit, seqK_ret, blockK_normal, blockK_ret, blockK_exit, w_move, w_assign, w_pick, w_load, w_nilCheck, w_fieldAddr, w_field, w_indexAddr, w_index, w_extract, w_bin, w_un, w_makeFunc, w_alloc, w_box, w_store, w_call, ev_tmp, ev_int, ev_bool, ev_str, ev_func, tget_eq, tget_ne, get_eq, get_ne, rd_move, rd_assign, rd_pick, rd_load, rd_nilCheck, rd_fieldAddr, rd_field, rd_indexAddr, rd_extract, rd_bin, rd_not, rd_makeFunc, rd_slice, rd_len, rd_build, w_len, w_slice, w_build, un_not, pick_t, pick_f, load_ptr, cellsOf_some, partO_some, nilCheck_ptr, extract_tuple, add_nx, add_get, add_fget, ↓reduceIte, Nat.reduceEqDiff,  upd_nx, upd_fams, upd_eq, upd_ne, wr_box, boxR_agg, boxR_int, boxR_str, boxR_func, cells_agg, stR_int, stR_bool, stR_str, st0_some, st1_some, bin_add, bin_sub, bin_mul, bin_lss, bin_leq, bin_gtr, bin_geq, bin_eql, bin_neq, Nat.reduceAdd, Nat.succ_eq_add_one, Nat.zero_add, Nat.add_zero, Nat.mul_one, Nat.zero_mul, len_sl ty79]
  rw [← hq]
  refine S.block ?_
  refine S.loop (ι := Nat) (ILs xs x0 sv H) (fun k => xs.length - k) ?_ 0 _ _ ?_
  · intro k t h ⟨hk, hh, h7, h0, h8, h9⟩ K' hn' he
    subst hh
    refine S.seq (S.region ?_)
    simp (disch := omega) only [run_cons, want_guard, want1_some, want2_bool, want2_undef, beqB_tt, beqB_tf, beqB_ft, beqB_ff, List.getElem?_toArray, List.getElem?_cons_succ, List.getElem?_cons_zero, Int.natCast_add, Int.natCast_one,  run_nil, want_none, opR_read, opR_no, opR_write, putR_some, putR_none, optR_some, seqK_normal, seqK_exit, seqK_ret, blockK_normal, blockK_ret, blockK_exit, w_move, w_assign, w_pick, w_load, w_nilCheck, w_fieldAddr, w_field, w_indexAddr, w_index, w_extract, w_bin, w_un, w_makeFunc, w_alloc, w_box, w_store, w_call, ev_tmp, ev_int, ev_bool, ev_str, ev_func, tget_eq, tget_ne, get_eq, get_ne, rd_move, rd_assign, rd_pick, rd_load, rd_nilCheck, rd_fieldAddr, rd_field, rd_indexAddr, rd_extract, rd_bin, rd_not, rd_makeFunc, rd_slice, rd_len, rd_build, w_len, w_slice, w_build, un_not, pick_t, pick_f, load_ptr, cellsOf_some, partO_some, nilCheck_ptr, extract_tuple, add_nx, add_get, add_fget, ↓reduceIte, Nat.reduceEqDiff,  upd_nx, upd_fams, upd_eq, upd_ne, wr_box, boxR_agg, boxR_int, boxR_str, boxR_func, cells_agg, stR_int, stR_bool, stR_str, st0_some, st1_some, bin_add, bin_sub, bin_mul, bin_lss, bin_leq, bin_gtr, bin_geq, bin_eql, bin_neq, Nat.reduceAdd, Nat.succ_eq_add_one, Nat.zero_add, Nat.add_zero, Nat.mul_one, Nat.zero_mul, h8, h9]
    refine S.seq (S.cond (v := decide ((k : Int) < (xs.length : Int))) (by simp (disch := omega) only [run_cons, want_guard, want1_some, want2_bool, want2_undef, beqB_tt, beqB_tf, beqB_ft, beqB_ff, List.getElem?_toArray, List.getElem?_cons_succ, List.getElem?_cons_zero, Int.natCast_add, Int.natCast_one,  run_nil, want_none, opR_read, opR_no, opR_write, putR_some, putR_none, optR_some, seqK_normal, seqK_exit, seqK_ret, blockK_normal, blockK_ret, blockK_exit, w_move, w_assign, w_pick, w_load, w_nilCheck, w_fieldAddr, w_field, w_indexAddr, w_index, w_extract, w_bin, w_un, w_makeFunc, w_alloc, w_box, w_store, w_call, ev_tmp, ev_int, ev_bool, ev_str, ev_func, tget_eq, tget_ne, get_eq, get_ne, rd_move, rd_assign, rd_pick, rd_load, rd_nilCheck, rd_fieldAddr, rd_field, rd_indexAddr, rd_extract, rd_bin, rd_not, rd_makeFunc, rd_slice, rd_len, rd_build, w_len, w_slice, w_build, un_not, pick_t, pick_f, load_ptr, cellsOf_some, partO_some, nilCheck_ptr, extract_tuple, add_nx, add_get, add_fget, ↓reduceIte, Nat.reduceEqDiff,  upd_nx, upd_fams, upd_eq, upd_ne, wr_box, boxR_agg, boxR_int, boxR_str, boxR_func, cells_agg, stR_int, stR_bool, stR_str, st0_some, st1_some, bin_add, bin_sub, bin_mul, bin_lss, bin_leq, bin_gtr, bin_geq, bin_eql, bin_neq, Nat.reduceAdd, Nat.succ_eq_add_one, Nat.zero_add, Nat.add_zero, Nat.mul_one, Nat.zero_mul, h9]) (fun e => ?_) (fun e => ?_))
    · have hkn : k < xs.length := by have := of_decide_eq_true e; omega
      clear e
      rcases hsv with ⟨b, off, cap, fam, cs, rfl, hb, hc⟩ | ⟨_, hx⟩
      rotate_left
      · subst hx; simp at hkn
      obtain ⟨x, hx⟩ : ∃ x, xs[k]? = some x := ⟨_, List.getElem?_eq_getElem (by omega)⟩
      have hck := hc k x hx
      have hs : (xs.take (k + 1)).foldl min2 x0 = min2 ((xs.take k).foldl min2 x0) x := by
        rw [List.take_add_one, hx]; simp only [Option.toList_some, List.foldl_append, List.foldl_cons, List.foldl_nil]
      clear hx
      refine S.skip ?_
      simp (disch := omega) only [run_cons, want_guard, want1_some, want2_bool, want2_undef, beqB_tt, beqB_tf, beqB_ft, beqB_ff, List.getElem?_toArray, List.getElem?_cons_succ, List.getElem?_cons_zero, Int.natCast_add, Int.natCast_one,  run_nil, want_none, opR_read, opR_no, opR_write, putR_some, putR_none, optR_some, seqK_normal, seqK_exit, seqK_ret, blockK_normal, blockK_ret, blockK_exit, w_move, w_assign, w_pick, w_load, w_nilCheck, w_fieldAddr, w_field, w_indexAddr, w_index, w_extract, w_bin, w_un, w_makeFunc, w_alloc, w_box, w_store, w_call, ev_tmp, ev_int, ev_bool, ev_str, ev_func, tget_eq, tget_ne, get_eq, get_ne, rd_move, rd_assign, rd_pick, rd_load, rd_nilCheck, rd_fieldAddr, rd_field, rd_indexAddr, rd_extract, rd_bin, rd_not, rd_makeFunc, rd_slice, rd_len, rd_build, w_len, w_slice, w_build, un_not, pick_t, pick_f, load_ptr, cellsOf_some, partO_some, nilCheck_ptr, extract_tuple, add_nx, add_get, add_fget, ↓reduceIte, Nat.reduceEqDiff,  upd_nx, upd_fams, upd_eq, upd_ne, wr_box, boxR_agg, boxR_int, boxR_str, boxR_func, cells_agg, stR_int, stR_bool, stR_str, st0_some, st1_some, bin_add, bin_sub, bin_mul, bin_lss, bin_leq, bin_gtr, bin_geq, bin_eql, bin_neq, Nat.reduceAdd, Nat.succ_eq_add_one, Nat.zero_add, Nat.add_zero, Nat.mul_one, Nat.zero_mul]
      refine S.seq (S.block (S.seq (S.region ?_)))
      simp (disch := omega) only [run_cons, want_guard, want1_some, want2_bool, want2_undef, beqB_tt, beqB_tf, beqB_ft, beqB_ff, List.getElem?_toArray, List.getElem?_cons_succ, List.getElem?_cons_zero, Int.natCast_add, Int.natCast_one,  run_nil, want_none, opR_read, opR_no, opR_write, putR_some, putR_none, optR_some, seqK_normal, seqK_exit, seqK_ret, blockK_normal, blockK_ret, blockK_exit, w_move, w_assign, w_pick, w_load, w_nilCheck, w_fieldAddr, w_field, w_indexAddr, w_index, w_extract, w_bin, w_un, w_makeFunc, w_alloc, w_box, w_store, w_call, ev_tmp, ev_int, ev_bool, ev_str, ev_func, tget_eq, tget_ne, get_eq, get_ne, rd_move, rd_assign, rd_pick, rd_load, rd_nilCheck, rd_fieldAddr, rd_field, rd_indexAddr, rd_extract, rd_bin, rd_not, rd_makeFunc, rd_slice, rd_len, rd_build, w_len, w_slice, w_build, un_not, pick_t, pick_f, load_ptr, cellsOf_some, partO_some, nilCheck_ptr, extract_tuple, add_nx, add_get, add_fget, ↓reduceIte, Nat.reduceEqDiff,  upd_nx, upd_fams, upd_eq, upd_ne, wr_box, boxR_agg, boxR_int, boxR_str, boxR_func, cells_agg, stR_int, stR_bool, stR_str, st0_some, st1_some, bin_add, bin_sub, bin_mul, bin_lss, bin_leq, bin_gtr, bin_geq, bin_eql, bin_neq, Nat.reduceAdd, Nat.succ_eq_add_one, Nat.zero_add, Nat.add_zero, Nat.mul_one, Nat.zero_mul, h7, h9, indexAddr_sl sl79 s3', hb, p3, hck]
      refine S.region ?_
      simp (disch := omega) only [run_cons, want_guard, want1_some, want2_bool, want2_undef, beqB_tt, beqB_tf, beqB_ft, beqB_ff, List.getElem?_toArray, List.getElem?_cons_succ, List.getElem?_cons_zero, Int.natCast_add, Int.natCast_one,  run_nil, want_none, opR_read, opR_no, opR_write, putR_some, putR_none, optR_some, seqK_normal, seqK_exit, seqK_ret, blockK_normal, blockK_ret, blockK_exit, w_move, w_assign, w_pick, w_load, w_nilCheck, w_fieldAddr, w_field, w_indexAddr, w_index, w_extract, w_bin, w_un, w_makeFunc, w_alloc, w_box, w_store, w_call, ev_tmp, ev_int, ev_bool, ev_str, ev_func, tget_eq, tget_ne, get_eq, get_ne, rd_move, rd_assign, rd_pick, rd_load, rd_nilCheck, rd_fieldAddr, rd_field, rd_indexAddr, rd_extract, rd_bin, rd_not, rd_makeFunc, rd_slice, rd_len, rd_build, w_len, w_slice, w_build, un_not, pick_t, pick_f, load_ptr, cellsOf_some, partO_some, nilCheck_ptr, extract_tuple, add_nx, add_get, add_fget, ↓reduceIte, Nat.reduceEqDiff,  upd_nx, upd_fams, upd_eq, upd_ne, wr_box, boxR_agg, boxR_int, boxR_str, boxR_func, cells_agg, stR_int, stR_bool, stR_str, st0_some, st1_some, bin_add, bin_sub, bin_mul, bin_lss, bin_leq, bin_gtr, bin_geq, bin_eql, bin_neq, Nat.reduceAdd, Nat.succ_eq_add_one, Nat.zero_add, Nat.add_zero, Nat.mul_one, Nat.zero_mul, h0, rd_min, w_min]
      generalize hm : (xs.take k).foldl min2 x0 = mm at *
      refine optR_of' (v := .int .i64 (min2 mm x)) (call2_congr (t' := T.set 15 (T.set 14 .leaf 13 (.int .i64 mm)) 14 (.int .i64 x)) (u := .int .i64 mm) (v := .int .i64 x) ?_ ?_ (by kernel_rfl) (by kernel_rfl) (by kernel_rfl)) ?_
      · simp (disch := omega) only [run_cons, want_guard, want1_some, want2_bool, want2_undef, beqB_tt, beqB_tf, beqB_ft, beqB_ff, List.getElem?_toArray, List.getElem?_cons_succ, List.getElem?_cons_zero, Int.natCast_add, Int.natCast_one,  run_nil, want_none, opR_read, opR_no, opR_write, putR_some, putR_none, optR_some, seqK_normal, seqK_exit, seqK_ret, blockK_normal, blockK_ret, blockK_exit, w_move, w_assign, w_pick, w_load, w_nilCheck, w_fieldAddr, w_field, w_indexAddr, w_index, w_extract, w_bin, w_un, w_makeFunc, w_alloc, w_box, w_store, w_call, ev_tmp, ev_int, ev_bool, ev_str, ev_func, tget_eq, tget_ne, get_eq, get_ne, rd_move, rd_assign, rd_pick, rd_load, rd_nilCheck, rd_fieldAddr, rd_field, rd_indexAddr, rd_extract, rd_bin, rd_not, rd_makeFunc, rd_slice, rd_len, rd_build, w_len, w_slice, w_build, un_not, pick_t, pick_f, load_ptr, cellsOf_some, partO_some, nilCheck_ptr, extract_tuple, add_nx, add_get, add_fget, ↓reduceIte, Nat.reduceEqDiff,  upd_nx, upd_fams, upd_eq, upd_ne, wr_box, boxR_agg, boxR_int, boxR_str, boxR_func, cells_agg, stR_int, stR_bool, stR_str, st0_some, st1_some, bin_add, bin_sub, bin_mul, bin_lss, bin_leq, bin_gtr, bin_geq, bin_eql, bin_neq, Nat.reduceAdd, Nat.succ_eq_add_one, Nat.zero_add, Nat.add_zero, Nat.mul_one, Nat.zero_mul, h0]
      · simp (disch := omega) only [run_cons, want_guard, want1_some, want2_bool, want2_undef, beqB_tt, beqB_tf, beqB_ft, beqB_ff, List.getElem?_toArray, List.getElem?_cons_succ, List.getElem?_cons_zero, Int.natCast_add, Int.natCast_one,  run_nil, want_none, opR_read, opR_no, opR_write, putR_some, putR_none, optR_some, seqK_normal, seqK_exit, seqK_ret, blockK_normal, blockK_ret, blockK_exit, w_move, w_assign, w_pick, w_load, w_nilCheck, w_fieldAddr, w_field, w_indexAddr, w_index, w_extract, w_bin, w_un, w_makeFunc, w_alloc, w_box, w_store, w_call, ev_tmp, ev_int, ev_bool, ev_str, ev_func, tget_eq, tget_ne, get_eq, get_ne, rd_move, rd_assign, rd_pick, rd_load, rd_nilCheck, rd_fieldAddr, rd_field, rd_indexAddr, rd_extract, rd_bin, rd_not, rd_makeFunc, rd_slice, rd_len, rd_build, w_len, w_slice, w_build, un_not, pick_t, pick_f, load_ptr, cellsOf_some, partO_some, nilCheck_ptr, extract_tuple, add_nx, add_get, add_fget, ↓reduceIte, Nat.reduceEqDiff,  upd_nx, upd_fams, upd_eq, upd_ne, wr_box, boxR_agg, boxR_int, boxR_str, boxR_func, cells_agg, stR_int, stR_bool, stR_str, st0_some, st1_some, bin_add, bin_sub, bin_mul, bin_lss, bin_leq, bin_gtr, bin_geq, bin_eql, bin_neq, Nat.reduceAdd, Nat.succ_eq_add_one, Nat.zero_add, Nat.add_zero, Nat.mul_one, Nat.zero_mul]
      simp (disch := omega) only [run_cons, want_guard, want1_some, want2_bool, want2_undef, beqB_tt, beqB_tf, beqB_ft, beqB_ff, List.getElem?_toArray, List.getElem?_cons_succ, List.getElem?_cons_zero, Int.natCast_add, Int.natCast_one,  run_nil, want_none, opR_read, opR_no, opR_write, putR_some, putR_none, optR_some, seqK_normal, seqK_exit, seqK_ret, blockK_normal, blockK_ret, blockK_exit, w_move, w_assign, w_pick, w_load, w_nilCheck, w_fieldAddr, w_field, w_indexAddr, w_index, w_extract, w_bin, w_un, w_makeFunc, w_alloc, w_box, w_store, w_call, ev_tmp, ev_int, ev_bool, ev_str, ev_func, tget_eq, tget_ne, get_eq, get_ne, rd_move, rd_assign, rd_pick, rd_load, rd_nilCheck, rd_fieldAddr, rd_field, rd_indexAddr, rd_extract, rd_bin, rd_not, rd_makeFunc, rd_slice, rd_len, rd_build, w_len, w_slice, w_build, un_not, pick_t, pick_f, load_ptr, cellsOf_some, partO_some, nilCheck_ptr, extract_tuple, add_nx, add_get, add_fget, ↓reduceIte, Nat.reduceEqDiff,  upd_nx, upd_fams, upd_eq, upd_ne, wr_box, boxR_agg, boxR_int, boxR_str, boxR_func, cells_agg, stR_int, stR_bool, stR_str, st0_some, st1_some, bin_add, bin_sub, bin_mul, bin_lss, bin_leq, bin_gtr, bin_geq, bin_eql, bin_neq, Nat.reduceAdd, Nat.succ_eq_add_one, Nat.zero_add, Nat.add_zero, Nat.mul_one, Nat.zero_mul, h9]
      refine S.region ?_
      simp (disch := omega) only [run_cons, want_guard, want1_some, want2_bool, want2_undef, beqB_tt, beqB_tf, beqB_ft, beqB_ff, List.getElem?_toArray, List.getElem?_cons_succ, List.getElem?_cons_zero, Int.natCast_add, Int.natCast_one,  run_nil, want_none, opR_read, opR_no, opR_write, putR_some, putR_none, optR_some, seqK_normal, seqK_exit, seqK_ret, blockK_normal, blockK_ret, blockK_exit, w_move, w_assign, w_pick, w_load, w_nilCheck, w_fieldAddr, w_field, w_indexAddr, w_index, w_extract, w_bin, w_un, w_makeFunc, w_alloc, w_box, w_store, w_call, ev_tmp, ev_int, ev_bool, ev_str, ev_func, tget_eq, tget_ne, get_eq, get_ne, rd_move, rd_assign, rd_pick, rd_load, rd_nilCheck, rd_fieldAddr, rd_field, rd_indexAddr, rd_extract, rd_bin, rd_not, rd_makeFunc, rd_slice, rd_len, rd_build, w_len, w_slice, w_build, un_not, pick_t, pick_f, load_ptr, cellsOf_some, partO_some, nilCheck_ptr, extract_tuple, add_nx, add_get, add_fget, ↓reduceIte, Nat.reduceEqDiff,  upd_nx, upd_fams, upd_eq, upd_ne, wr_box, boxR_agg, boxR_int, boxR_str, boxR_func, cells_agg, stR_int, stR_bool, stR_str, st0_some, st1_some, bin_add, bin_sub, bin_mul, bin_lss, bin_leq, bin_gtr, bin_geq, bin_eql, bin_neq, Nat.reduceAdd, Nat.succ_eq_add_one, Nat.zero_add, Nat.add_zero, Nat.mul_one, Nat.zero_mul, h9]
      refine hn' (k + 1) _ _ (by omega) ⟨by omega, rfl, ?_, ?_, ?_, ?_⟩
      all_goals (simp (disch := omega) only [run_cons, want_guard, want1_some, want2_bool, want2_undef, beqB_tt, beqB_tf, beqB_ft, beqB_ff, List.getElem?_toArray, List.getElem?_cons_succ, List.getElem?_cons_zero, Int.natCast_add, Int.natCast_one,  run_nil, want_none, opR_read, opR_no, opR_write, putR_some, putR_none, optR_some, seqK_normal, seqK_exit, seqK_ret, blockK_normal, blockK_ret, blockK_exit, w_move, w_assign, w_pick, w_load, w_nilCheck, w_fieldAddr, w_field, w_indexAddr, w_index, w_extract, w_bin, w_un, w_makeFunc, w_alloc, w_box, w_store, w_call, ev_tmp, ev_int, ev_bool, ev_str, ev_func, tget_eq, tget_ne, get_eq, get_ne, rd_move, rd_assign, rd_pick, rd_load, rd_nilCheck, rd_fieldAddr, rd_field, rd_indexAddr, rd_extract, rd_bin, rd_not, rd_makeFunc, rd_slice, rd_len, rd_build, w_len, w_slice, w_build, un_not, pick_t, pick_f, load_ptr, cellsOf_some, partO_some, nilCheck_ptr, extract_tuple, add_nx, add_get, add_fget, ↓reduceIte, Nat.reduceEqDiff,  upd_nx, upd_fams, upd_eq, upd_ne, wr_box, boxR_agg, boxR_int, boxR_str, boxR_func, cells_agg, stR_int, stR_bool, stR_str, st0_some, st1_some, bin_add, bin_sub, bin_mul, bin_lss, bin_leq, bin_gtr, bin_geq, bin_eql, bin_neq, Nat.reduceAdd, Nat.succ_eq_add_one, Nat.zero_add, Nat.add_zero, Nat.mul_one, Nat.zero_mul, h7, h0, h8, h9, hs]; done)
    · have hkn : k = xs.length := by have := of_decide_eq_false e; omega
      subst hkn
      refine S.exit (he _ _ _ _ (fun e => by cases e) ?_)
      simp (disch := omega) only [run_cons, want_guard, want1_some, want2_bool, want2_undef, beqB_tt, beqB_tf, beqB_ft, beqB_ff, List.getElem?_toArray, List.getElem?_cons_succ, List.getElem?_cons_zero, Int.natCast_add, Int.natCast_one,  run_nil, want_none, opR_read, opR_no, opR_write, putR_some, putR_none, optR_some, seqK_normal, seqK_exit, seqK_ret, blockK_normal, blockK_ret, blockK_exit, w_move, w_assign, w_pick, w_load, w_nilCheck, w_fieldAddr, w_field, w_indexAddr, w_index, w_extract, w_bin, w_un, w_makeFunc, w_alloc, w_box, w_store, w_call, ev_tmp, ev_int, ev_bool, ev_str, ev_func, tget_eq, tget_ne, get_eq, get_ne, rd_move, rd_assign, rd_pick, rd_load, rd_nilCheck, rd_fieldAddr, rd_field, rd_indexAddr, rd_extract, rd_bin, rd_not, rd_makeFunc, rd_slice, rd_len, rd_build, w_len, w_slice, w_build, un_not, pick_t, pick_f, load_ptr, cellsOf_some, partO_some, nilCheck_ptr, extract_tuple, add_nx, add_get, add_fget, ↓reduceIte, Nat.reduceEqDiff,  upd_nx, upd_fams, upd_eq, upd_ne, wr_box, boxR_agg, boxR_int, boxR_str, boxR_func, cells_agg, stR_int, stR_bool, stR_str, st0_some, st1_some, bin_add, bin_sub, bin_mul, bin_lss, bin_leq, bin_gtr, bin_geq, bin_eql, bin_neq, Nat.reduceAdd, Nat.succ_eq_add_one, Nat.zero_add, Nat.add_zero, Nat.mul_one, Nat.zero_mul]
      rw [List.take_length] at h0
      refine S.seq (S.region ?_)
      simp (disch := omega) only [run_cons, want_guard, want1_some, want2_bool, want2_undef, beqB_tt, beqB_tf, beqB_ft, beqB_ff, List.getElem?_toArray, List.getElem?_cons_succ, List.getElem?_cons_zero, Int.natCast_add, Int.natCast_one,  run_nil, want_none, opR_read, opR_no, opR_write, putR_some, putR_none, optR_some, seqK_normal, seqK_exit, seqK_ret, blockK_normal, blockK_ret, blockK_exit, w_move, w_assign, w_pick, w_load, w_nilCheck, w_fieldAddr, w_field, w_indexAddr, w_index, w_extract, w_bin, w_un, w_makeFunc, w_alloc, w_box, w_store, w_call, ev_tmp, ev_int, ev_bool, ev_str, ev_func, tget_eq, tget_ne, get_eq, get_ne, rd_move, rd_assign, rd_pick, rd_load, rd_nilCheck, rd_fieldAddr, rd_field, rd_indexAddr, rd_extract, rd_bin, rd_not, rd_makeFunc, rd_slice, rd_len, rd_build, w_len, w_slice, w_build, un_not, pick_t, pick_f, load_ptr, cellsOf_some, partO_some, nilCheck_ptr, extract_tuple, add_nx, add_get, add_fget, ↓reduceIte, Nat.reduceEqDiff,  upd_nx, upd_fams, upd_eq, upd_ne, wr_box, boxR_agg, boxR_int, boxR_str, boxR_func, cells_agg, stR_int, stR_bool, stR_str, st0_some, st1_some, bin_add, bin_sub, bin_mul, bin_lss, bin_leq, bin_gtr, bin_geq, bin_eql, bin_neq, Nat.reduceAdd, Nat.succ_eq_add_one, Nat.zero_add, Nat.add_zero, Nat.mul_one, Nat.zero_mul, h0]
      refine S.ret ?_
      subst hF
      simp only [finish, endMarks]
      rw [show Tryz.f54.results.toList = [.tmp 4] from rfl]
      simp (disch := omega) only [resA, ev_tmp, tget_ne, tget_eq, result1]
      exact hK _
  · refine ⟨by omega, rfl, ?_, ?_, ?_, ?_⟩
    all_goals first | (simp (disch := omega) only [run_cons, want_guard, want1_some, want2_bool, want2_undef, beqB_tt, beqB_tf, beqB_ft, beqB_ff, List.getElem?_toArray, List.getElem?_cons_succ, List.getElem?_cons_zero, Int.natCast_add, Int.natCast_one,  run_nil, want_none, opR_read, opR_no, opR_write, putR_some, putR_none, optR_some, seqK_normal, seqK_exit, seqK_ret, blockK_normal, blockK_ret, blockK_exit, w_move, w_assign, w_pick, w_load, w_nilCheck, w_fieldAddr, w_field, w_indexAddr, w_index, w_extract, w_bin, w_un, w_makeFunc, w_alloc, w_box, w_store, w_call, ev_tmp, ev_int, ev_bool, ev_str, ev_func, tget_eq, tget_ne, get_eq, get_ne, rd_move, rd_assign, rd_pick, rd_load, rd_nilCheck, rd_fieldAddr, rd_field, rd_indexAddr, rd_extract, rd_bin, rd_not, rd_makeFunc, rd_slice, rd_len, rd_build, w_len, w_slice, w_build, un_not, pick_t, pick_f, load_ptr, cellsOf_some, partO_some, nilCheck_ptr, extract_tuple, add_nx, add_get, add_fget, ↓reduceIte, Nat.reduceEqDiff,  upd_nx, upd_fams, upd_eq, upd_ne, wr_box, boxR_agg, boxR_int, boxR_str, boxR_func, cells_agg, stR_int, stR_bool, stR_str, st0_some, st1_some, bin_add, bin_sub, bin_mul, bin_lss, bin_leq, bin_gtr, bin_geq, bin_eql, bin_neq, Nat.reduceAdd, Nat.succ_eq_add_one, Nat.zero_add, Nat.add_zero, Nat.mul_one, Nat.zero_mul, hq]; done) | (simp (disch := omega) only [run_cons, want_guard, want1_some, want2_bool, want2_undef, beqB_tt, beqB_tf, beqB_ft, beqB_ff, List.getElem?_toArray, List.getElem?_cons_succ, List.getElem?_cons_zero, Int.natCast_add, Int.natCast_one,  run_nil, want_none, opR_read, opR_no, opR_write, putR_some, putR_none, optR_some, seqK_normal, seqK_exit, seqK_ret, blockK_normal, blockK_ret, blockK_exit, w_move, w_assign, w_pick, w_load, w_nilCheck, w_fieldAddr, w_field, w_indexAddr, w_index, w_extract, w_bin, w_un, w_makeFunc, w_alloc, w_box, w_store, w_call, ev_tmp, ev_int, ev_bool, ev_str, ev_func, tget_eq, tget_ne, get_eq, get_ne, rd_move, rd_assign, rd_pick, rd_load, rd_nilCheck, rd_fieldAddr, rd_field, rd_indexAddr, rd_extract, rd_bin, rd_not, rd_makeFunc, rd_slice, rd_len, rd_build, w_len, w_slice, w_build, un_not, pick_t, pick_f, load_ptr, cellsOf_some, partO_some, nilCheck_ptr, extract_tuple, add_nx, add_get, add_fget, ↓reduceIte, Nat.reduceEqDiff,  upd_nx, upd_fams, upd_eq, upd_ne, wr_box, boxR_agg, boxR_int, boxR_str, boxR_func, cells_agg, stR_int, stR_bool, stR_str, st0_some, st1_some, bin_add, bin_sub, bin_mul, bin_lss, bin_leq, bin_gtr, bin_geq, bin_eql, bin_neq, Nat.reduceAdd, Nat.succ_eq_add_one, Nat.zero_add, Nat.add_zero, Nat.mul_one, Nat.zero_mul]; rfl)
end Go.Proofs

/- Two rows of booleans, compared by the model's own text. -/
namespace Go.Ev
open Go.RowKit

section
variable {P : Program}

theorem pureOf_bd {α β : Type} : ∀ (s : Sem α) (f : α → Sem β) (a : α), pureOf P s = some a → pureOf P (s >>= f) = pureOf P (f a)
  | .pure b, f, a, h => by
    have : b = a := by simpa [pureOf] using h
    subst this; rfl
  | .program k, f, a, h => by
    show pureOf P ((k P).bind f) = _
    exact pureOf_bd (k P) f a h
  | .mark m k, f, a, h => by
    show pureOf P (k.bind f) = _
    exact pureOf_bd k f a h
  | .load _ _ _, _, _, h => by cases h
  | .store _ _ _ _, _, _, h => by cases h
  | .new _ _, _, _, h => by cases h
  | .shape _ _, _, _, h => by cases h
  | .freeze _ _ _, _, _, h => by cases h
  | .frozen _ _, _, _, h => by cases h
  | .getObj _ _, _, _, h => by cases h
  | .setObj _ _ _, _, _, h => by cases h
  | .choose _ _, _, _, h => by cases h
  | .sys _ _, _, _, h => by cases h
  | .halt _, _, _, h => by cases h

theorem all_rangeB : ∀ (xs ys : List Bool), xs.length = ys.length → ((List.range xs.length).all fun i => xs.getD i false == ys.getD i false) = (xs == ys)
  | [], [], _ => rfl
  | x :: xs, y :: ys, h => by
    have ih := all_rangeB xs ys (by simpa using h)
    rw [List.length_cons, List.range_succ_eq_map, List.all_cons, List.all_map]
    simp only [List.getD_cons_zero, Function.comp_def, List.getD_cons_succ, ih]
    simp [List.cons_beq_cons]
  | [], _ :: _, h => by simp at h
  | _ :: _, [], h => by simp at h

theorem pureOf_und {t : TypeId} {d : TypeDesc} (h : P.underlying t = some d) : pureOf P (underlying t) = some d := by
  simp [underlying, pureOf, program, bind, Sem.bind, h, pure]

theorem pureOf_part {e : TypeId} (hag : pureOf P (isAgg e) = some false) (xs : List Bool) (i : Nat) (hi : i < xs.length) : pureOf P (part e ⟨xs.map .bool⟩ i) = some (.bool (xs.getD i false)) := by
  unfold part
  rw [pureOf_bd _ _ _ hag]
  have hx : (⟨xs.map Value.bool⟩ : Array Value)[i]? = some (.bool (xs.getD i false)) := by
    show (List.toArray (xs.map Value.bool))[i]? = _
    rw [List.getElem?_toArray, List.getElem?_map, List.getElem?_eq_getElem hi]
    simp [List.getD, List.getElem?_eq_getElem hi]
  simp only [Bool.false_eq_true, if_false]
  rw [hx]
  rfl

theorem pureOf_equal_bools (d : Nat) {t e : TypeId} {n : Nat} (ht : P.underlying t = some (.array n e)) (he : P.underlying e = some .bool) (hag : pureOf P (isAgg e) = some false) (hsz : pureOf P (sizeOf e) = some 1)
    (xs ys : List Bool) (hx : xs.length = n) (hy : ys.length = n) :
    pureOf P (Op.equalIn (d + 2) t (.agg ⟨xs.map .bool⟩) (.agg ⟨ys.map .bool⟩)) = some (xs == ys) := by
  rw [← all_rangeB xs ys (hx.trans hy.symm), hx, List.range_eq_range', Op.equalIn]
  rw [pureOf_bd _ _ _ (pureOf_und ht)]
  simp only
  rw [pureOf_bd _ _ _ hsz]
  simp only [Std.Legacy.Range.forIn_eq_forIn_range', Std.Legacy.Range.size, Nat.sub_zero, Nat.add_sub_cancel, Nat.div_one]
  have hl : ∀ i ∈ List.range' 0 n 1, i < n := fun i hi => by simpa using (List.mem_range'_1.1 hi).2
  generalize List.range' 0 n 1 = l at hl ⊢
  induction l with
  | nil => rfl
  | cons i l ih =>
    have hi : i < n := hl i (by simp)
    have px : pureOf P (part e ⟨xs.map .bool⟩ (i * 1)) = some (.bool (xs.getD i false)) := by rw [Nat.mul_one]; exact pureOf_part hag xs i (by omega)
    have py : pureOf P (part e ⟨ys.map .bool⟩ (i * 1)) = some (.bool (ys.getD i false)) := by rw [Nat.mul_one]; exact pureOf_part hag ys i (by omega)
    have pe : pureOf P (Op.equalIn (d + 1) e (.bool (xs.getD i false)) (.bool (ys.getD i false))) = some (xs.getD i false == ys.getD i false) := by
      rw [Op.equalIn, pureOf_bd _ _ _ (pureOf_und he)]
      rfl
    rw [List.all_cons]
    simp only [List.forIn_cons, bind_assoc]
    rw [pureOf_bd _ _ _ px, pureOf_bd _ _ _ py, pureOf_bd _ _ _ pe]
    cases hb : (xs.getD i false == ys.getD i false)
    · rfl
    · exact ih fun j hj => hl j (by simp [hj])
end
end Go.Ev

namespace Go.Proofs
open Go Go.Ev
set_option linter.unusedSimpArgs false

theorem someB_eq : ∀ (l : List Bool), (!(l == List.replicate l.length false)) = someB l
  | [] => rfl
  | true :: r => rfl
  | false :: r => by
    have := someB_eq r
    simp only [List.length_cons, List.replicate_succ, someB]
    rw [← this]
    rfl

set_option maxRecDepth 100000 in
theorem neq190 {t : T Value} {x y : Operand} {b : TypeId} {dst : Option Tmp} {ty : TypeId} {pos : String} {af : Array Edge} {g : Option (Nat × Bool)} (l : List Bool) (hl : l.length = 800) (z : List Bool) (hz : z.length = 800)
    (hx : ev Tryz.prog t x = .agg ⟨l.map .bool⟩) (hy : ev Tryz.prog t y = .agg ⟨z.map .bool⟩) : ground Tryz.prog t ⟨dst, .binOp .neq 64 x y b, ty, pos, af, g⟩ = some (.bool (!(l == z))) := by
  unfold ground
  have e1 : evL Tryz.prog t (Op.operands (.binOp .neq 64 x y b)).toList = [.agg ⟨l.map .bool⟩, .agg ⟨z.map .bool⟩] := by simp only [Op.operands, evL, hx, hy]
  have e2 : plainL [.agg ⟨l.map .bool⟩, .agg ⟨z.map .bool⟩] = true := by simp only [plainL, plain_bools]; rfl
  have e3 := pureOf_equal_bools (P := Tryz.prog) 9998 (t := 64) (e := 4) (n := 800) (by kernel_rfl) (by kernel_rfl) (by kernel_rfl) (by kernel_rfl) l z hl hz
  have e4 : pureOf Tryz.prog (eqGuard .neq 64 x y (.agg ⟨l.map .bool⟩) (.agg ⟨z.map .bool⟩)) = some () := by kernel_rfl
  have e5 : binOp .neq 64 (.agg ⟨l.map .bool⟩) (.agg ⟨z.map .bool⟩) = (Op.equalIn 10000 64 (.agg ⟨l.map .bool⟩) (.agg ⟨z.map .bool⟩) >>= fun r => pure (.bool (!r))) := rfl
  have e6 : pureOf Tryz.prog (execOp (ev Tryz.prog t) ⟨dst, .binOp .neq 64 x y b, ty, pos, af, g⟩) = some (.value (.bool (!(l == z)))) := by
    simp only [execOp, hx, hy, bind_assoc]
    rw [pureOf_bd _ _ _ e4, e5]
    simp only [bind_assoc]
    rw [pureOf_bd _ _ _ e3]
    rfl
  rw [e1, e2, cond_true, e6]
  rfl

theorem zs_ex (n : Nat) : ∃ z : List Bool, z.length = n ∧ List.replicate n (Value.bool false) = z.map .bool ∧ z = List.replicate n false := ⟨List.replicate n false, List.length_replicate .., by rw [List.map_replicate], rfl⟩

variable {pr : Prim} {R : ExT}
set_option maxRecDepth 100000 in
set_option maxHeartbeats 4000000 in
theorem some_run (S : Ev.Steps Tryz.prog pr R) (l : List Bool) (hl : l.length = 800) (K : KV) (hK : ∀ h, K (.bool (someB l)) h = true) :
    R 6 none ((Tryz.f42.body).getD .skip) (argsT [.agg ⟨l.map .bool⟩]) ⟨.leaf, Tryz.prog.globals.size, .leaf⟩ [] (finish Tryz.prog Tryz.f42 K) = true := by
  rw [show Tryz.prog.globals.size = 6 from by kernel_rfl]
  generalize hF : finish Tryz.prog Tryz.f42 K = KF
  simp only [Tryz.f42, Option.getD_some, argsT, setArgs, fV1_eq, T.setK_eq, id]
  have hll : (l.map Value.bool).length = 800 := by rw [List.length_map]; exact hl
  obtain ⟨z, hz, hzr, hzz⟩ := zs_ex 800
  refine S.seq (S.region ?_)
  simp (disch := omega) only [run_cons, want_guard, want1_some, want2_bool, want2_undef, beqB_tt, beqB_tf, beqB_ft, beqB_ff, List.getElem?_toArray, List.getElem?_cons_succ, List.getElem?_cons_zero, Int.natCast_add, Int.natCast_one,  run_nil, want_none, opR_read, opR_no, opR_write, putR_some, putR_none, optR_some, seqK_normal, seqK_exit, seqK_ret, blockK_normal, blockK_ret, blockK_exit, w_move, w_assign, w_pick, w_load, w_nilCheck, w_fieldAddr, w_field, w_indexAddr, w_index, w_extract, w_bin, w_un, w_makeFunc, w_alloc, w_box, w_store, w_call, ev_tmp, ev_int, ev_bool, ev_str, ev_func, tget_eq, tget_ne, get_eq, get_ne, rd_move, rd_assign, rd_pick, rd_load, rd_nilCheck, rd_fieldAddr, rd_field, rd_indexAddr, rd_extract, rd_bin, rd_not, rd_makeFunc, rd_slice, rd_len, rd_build, w_len, w_slice, w_build, un_not, pick_t, pick_f, load_ptr, cellsOf_some, partO_some, nilCheck_ptr, extract_tuple, add_nx, add_get, add_fget, ↓reduceIte, Nat.reduceEqDiff,  upd_nx, upd_fams, upd_eq, upd_ne, wr_box, boxR_agg, boxR_int, boxR_str, boxR_func, cells_agg, stR_int, stR_bool, stR_str, st0_some, st1_some, bin_add, bin_sub, bin_mul, bin_lss, bin_leq, bin_gtr, bin_geq, bin_eql, bin_neq, Nat.reduceAdd, Nat.succ_eq_add_one, Nat.zero_add, Nat.add_zero, Nat.mul_one, Nat.zero_mul]
  refine S.seq (S.region ?_)
  simp (disch := omega) only [run_cons, want_guard, want1_some, want2_bool, want2_undef, beqB_tt, beqB_tf, beqB_ft, beqB_ff, List.getElem?_toArray, List.getElem?_cons_succ, List.getElem?_cons_zero, Int.natCast_add, Int.natCast_one,  run_nil, want_none, opR_read, opR_no, opR_write, putR_some, putR_none, optR_some, seqK_normal, seqK_exit, seqK_ret, blockK_normal, blockK_ret, blockK_exit, w_move, w_assign, w_pick, w_load, w_nilCheck, w_fieldAddr, w_field, w_indexAddr, w_index, w_extract, w_bin, w_un, w_makeFunc, w_alloc, w_box, w_store, w_call, ev_tmp, ev_int, ev_bool, ev_str, ev_func, tget_eq, tget_ne, get_eq, get_ne, rd_move, rd_assign, rd_pick, rd_load, rd_nilCheck, rd_fieldAddr, rd_field, rd_indexAddr, rd_extract, rd_bin, rd_not, rd_makeFunc, rd_slice, rd_len, rd_build, w_len, w_slice, w_build, un_not, pick_t, pick_f, load_ptr, cellsOf_some, partO_some, nilCheck_ptr, extract_tuple, add_nx, add_get, add_fget, ↓reduceIte, Nat.reduceEqDiff,  upd_nx, upd_fams, upd_eq, upd_ne, wr_box, boxR_agg, boxR_int, boxR_str, boxR_func, cells_agg, stR_int, stR_bool, stR_str, st0_some, st1_some, bin_add, bin_sub, bin_mul, bin_lss, bin_leq, bin_gtr, bin_geq, bin_eql, bin_neq, Nat.reduceAdd, Nat.succ_eq_add_one, Nat.zero_add, Nat.add_zero, Nat.mul_one, Nat.zero_mul, p190' hll]
  refine optR_of' (v := .agg ⟨List.replicate 800 (.bool false)⟩) (by kernel_rfl) ?_
  rw [hzr]
  simp (disch := omega) only [run_cons, want_guard, want1_some, want2_bool, want2_undef, beqB_tt, beqB_tf, beqB_ft, beqB_ff, List.getElem?_toArray, List.getElem?_cons_succ, List.getElem?_cons_zero, Int.natCast_add, Int.natCast_one,  run_nil, want_none, opR_read, opR_no, opR_write, putR_some, putR_none, optR_some, seqK_normal, seqK_exit, seqK_ret, blockK_normal, blockK_ret, blockK_exit, w_move, w_assign, w_pick, w_load, w_nilCheck, w_fieldAddr, w_field, w_indexAddr, w_index, w_extract, w_bin, w_un, w_makeFunc, w_alloc, w_box, w_store, w_call, ev_tmp, ev_int, ev_bool, ev_str, ev_func, tget_eq, tget_ne, get_eq, get_ne, rd_move, rd_assign, rd_pick, rd_load, rd_nilCheck, rd_fieldAddr, rd_field, rd_indexAddr, rd_extract, rd_bin, rd_not, rd_makeFunc, rd_slice, rd_len, rd_build, w_len, w_slice, w_build, un_not, pick_t, pick_f, load_ptr, cellsOf_some, partO_some, nilCheck_ptr, extract_tuple, add_nx, add_get, add_fget, ↓reduceIte, Nat.reduceEqDiff,  upd_nx, upd_fams, upd_eq, upd_ne, wr_box, boxR_agg, boxR_int, boxR_str, boxR_func, cells_agg, stR_int, stR_bool, stR_str, st0_some, st1_some, bin_add, bin_sub, bin_mul, bin_lss, bin_leq, bin_gtr, bin_geq, bin_eql, bin_neq, Nat.reduceAdd, Nat.succ_eq_add_one, Nat.zero_add, Nat.add_zero, Nat.mul_one, Nat.zero_mul]
  refine optR_of' (v := .bool (!(l == z))) ?_ ?_
  · show rBin2 Tryz.prog _ _ .neq (nilEqT Tryz.prog 64 (.agg ⟨l.map .bool⟩) (.agg ⟨z.map .bool⟩)) = _
    rw [show nilEqT Tryz.prog 64 (.agg ⟨l.map .bool⟩) (.agg ⟨z.map .bool⟩) = none from by kernel_rfl]
    refine neq190 l hl z hz ?_ ?_
    · simp (disch := omega) only [run_cons, want_guard, want1_some, want2_bool, want2_undef, beqB_tt, beqB_tf, beqB_ft, beqB_ff, List.getElem?_toArray, List.getElem?_cons_succ, List.getElem?_cons_zero, Int.natCast_add, Int.natCast_one,  run_nil, want_none, opR_read, opR_no, opR_write, putR_some, putR_none, optR_some, seqK_normal, seqK_exit, seqK_ret, blockK_normal, blockK_ret, blockK_exit, w_move, w_assign, w_pick, w_load, w_nilCheck, w_fieldAddr, w_field, w_indexAddr, w_index, w_extract, w_bin, w_un, w_makeFunc, w_alloc, w_box, w_store, w_call, ev_tmp, ev_int, ev_bool, ev_str, ev_func, tget_eq, tget_ne, get_eq, get_ne, rd_move, rd_assign, rd_pick, rd_load, rd_nilCheck, rd_fieldAddr, rd_field, rd_indexAddr, rd_extract, rd_bin, rd_not, rd_makeFunc, rd_slice, rd_len, rd_build, w_len, w_slice, w_build, un_not, pick_t, pick_f, load_ptr, cellsOf_some, partO_some, nilCheck_ptr, extract_tuple, add_nx, add_get, add_fget, ↓reduceIte, Nat.reduceEqDiff,  upd_nx, upd_fams, upd_eq, upd_ne, wr_box, boxR_agg, boxR_int, boxR_str, boxR_func, cells_agg, stR_int, stR_bool, stR_str, st0_some, st1_some, bin_add, bin_sub, bin_mul, bin_lss, bin_leq, bin_gtr, bin_geq, bin_eql, bin_neq, Nat.reduceAdd, Nat.succ_eq_add_one, Nat.zero_add, Nat.add_zero, Nat.mul_one, Nat.zero_mul]
    · simp (disch := omega) only [run_cons, want_guard, want1_some, want2_bool, want2_undef, beqB_tt, beqB_tf, beqB_ft, beqB_ff, List.getElem?_toArray, List.getElem?_cons_succ, List.getElem?_cons_zero, Int.natCast_add, Int.natCast_one,  run_nil, want_none, opR_read, opR_no, opR_write, putR_some, putR_none, optR_some, seqK_normal, seqK_exit, seqK_ret, blockK_normal, blockK_ret, blockK_exit, w_move, w_assign, w_pick, w_load, w_nilCheck, w_fieldAddr, w_field, w_indexAddr, w_index, w_extract, w_bin, w_un, w_makeFunc, w_alloc, w_box, w_store, w_call, ev_tmp, ev_int, ev_bool, ev_str, ev_func, tget_eq, tget_ne, get_eq, get_ne, rd_move, rd_assign, rd_pick, rd_load, rd_nilCheck, rd_fieldAddr, rd_field, rd_indexAddr, rd_extract, rd_bin, rd_not, rd_makeFunc, rd_slice, rd_len, rd_build, w_len, w_slice, w_build, un_not, pick_t, pick_f, load_ptr, cellsOf_some, partO_some, nilCheck_ptr, extract_tuple, add_nx, add_get, add_fget, ↓reduceIte, Nat.reduceEqDiff,  upd_nx, upd_fams, upd_eq, upd_ne, wr_box, boxR_agg, boxR_int, boxR_str, boxR_func, cells_agg, stR_int, stR_bool, stR_str, st0_some, st1_some, bin_add, bin_sub, bin_mul, bin_lss, bin_leq, bin_gtr, bin_geq, bin_eql, bin_neq, Nat.reduceAdd, Nat.succ_eq_add_one, Nat.zero_add, Nat.add_zero, Nat.mul_one, Nat.zero_mul]
  simp (disch := omega) only [run_cons, want_guard, want1_some, want2_bool, want2_undef, beqB_tt, beqB_tf, beqB_ft, beqB_ff, List.getElem?_toArray, List.getElem?_cons_succ, List.getElem?_cons_zero, Int.natCast_add, Int.natCast_one,  run_nil, want_none, opR_read, opR_no, opR_write, putR_some, putR_none, optR_some, seqK_normal, seqK_exit, seqK_ret, blockK_normal, blockK_ret, blockK_exit, w_move, w_assign, w_pick, w_load, w_nilCheck, w_fieldAddr, w_field, w_indexAddr, w_index, w_extract, w_bin, w_un, w_makeFunc, w_alloc, w_box, w_store, w_call, ev_tmp, ev_int, ev_bool, ev_str, ev_func, tget_eq, tget_ne, get_eq, get_ne, rd_move, rd_assign, rd_pick, rd_load, rd_nilCheck, rd_fieldAddr, rd_field, rd_indexAddr, rd_extract, rd_bin, rd_not, rd_makeFunc, rd_slice, rd_len, rd_build, w_len, w_slice, w_build, un_not, pick_t, pick_f, load_ptr, cellsOf_some, partO_some, nilCheck_ptr, extract_tuple, add_nx, add_get, add_fget, ↓reduceIte, Nat.reduceEqDiff,  upd_nx, upd_fams, upd_eq, upd_ne, wr_box, boxR_agg, boxR_int, boxR_str, boxR_func, cells_agg, stR_int, stR_bool, stR_str, st0_some, st1_some, bin_add, bin_sub, bin_mul, bin_lss, bin_leq, bin_gtr, bin_geq, bin_eql, bin_neq, Nat.reduceAdd, Nat.succ_eq_add_one, Nat.zero_add, Nat.add_zero, Nat.mul_one, Nat.zero_mul]
  refine S.ret ?_
  subst hF
  simp only [finish, endMarks]
  rw [show Tryz.f42.results.toList = [.tmp 2] from rfl]
  simp (disch := omega) only [resA, ev_tmp, tget_ne, tget_eq, result1]
  have := someB_eq l
  rw [hl, ← hzz] at this
  rw [this]
  exact hK _
end Go.Proofs

/-
  DERIVED: THE SHELF's CONTRACTS AT THIS DUMP, IN PLAIN WORDS (tools/lay-plain.mjs out of 'TryzShelf.lean', which tools/lay-shelf.mjs wrote): THE SAME DECLARATIONS UNDER THE SAME NAMES: 'import', 'namespace', 'open', 'def', 'theorem' AND NOTHING ELSE: no command of the shelf's: FOR A HAND-IN. Each laying: the table of numbers ('.._ren') and one theorem, a field a fact of the dump's own or the kernel's comparison; each contract: ONE APPLICATION.
-/
namespace Go.Proofs
open Go.Shelf
def Tryz.lays156_ren : Go.Shelf.Ren := ⟨fun | 156 => 64 | 165 => 101 | 166 => 102 | 169 => 103 | 240 => 119 | 241 => 120 | 276 => 136 | 277 => 137 | n => n, fun | 31 => 127 | 9 => 9 | 3 => 3 | 4 => 4 | 0 => 0 | 20 => 20 | 72 => 148 | 76 => 152 | 70 => 145 | 37 => 146 | 75 => 151 | 127 => 169 | 164 => 179 | 5 => 5 | 80 => 154 | n => n, fun | n => n⟩
theorem Tryz.lays156 : Go.Proofs.Lays.n156 Tryz.prog Tryz.lays156_ren := {
  mixed := by kernel_rfl
  f156 := Tryz.func64.trans (congrArg some (by kernel_rfl))
  f165 := Tryz.func101.trans (congrArg some (by kernel_rfl))
  f166 := Tryz.func102.trans (congrArg some (by kernel_rfl))
  f169 := Tryz.func103.trans (congrArg some (by kernel_rfl))
  f240 := Tryz.func119.trans (congrArg some (by kernel_rfl))
  f241 := Tryz.func120.trans (congrArg some (by kernel_rfl))
  f276 := Tryz.func136.trans (congrArg some (by kernel_rfl))
  f277 := Tryz.func137.trans (congrArg some (by kernel_rfl))
  t0 := Tryz.underlying0
  a0 := Tryz.isAgg0
  z0 := Tryz.sizeOf0
  v0 := Tryz.zeroValue0
  t3 := Tryz.underlying3
  a3 := Tryz.isAgg3
  z3 := Tryz.sizeOf3
  v3 := Tryz.zeroValue3
  t4 := Tryz.underlying4
  a4 := Tryz.isAgg4
  z4 := Tryz.sizeOf4
  v4 := Tryz.zeroValue4
  t9 := Tryz.underlying9
  a9 := Tryz.isAgg9
  z9 := Tryz.sizeOf9
  v9 := Tryz.zeroValue9
  t20 := Tryz.underlying20
  a20 := Tryz.isAgg20
  z20 := Tryz.sizeOf20
  v20 := Tryz.zeroValue20
  t31 := Tryz.underlying127
  a31 := Tryz.isAgg127
  z31 := Tryz.sizeOf127
  v31 := Tryz.zeroValue127
  t37 := Tryz.underlying146
  a37 := Tryz.isAgg146
  z37 := Tryz.sizeOf146
  v37 := Tryz.zeroValue146
  t70 := Tryz.underlying145
  a70 := Tryz.isAgg145
  z70 := Tryz.sizeOf145
  v70 := Tryz.zeroValue145
  t72 := Tryz.underlying148
  a72 := Tryz.isAgg148
  z72 := Tryz.sizeOf148
  v72 := Tryz.zeroValue148
  t75 := Tryz.underlying151
  a75 := Tryz.isAgg151
  z75 := Tryz.sizeOf151
  v75 := Tryz.zeroValue151
  t76 := Tryz.underlying152
  a76 := Tryz.isAgg152
  z76 := Tryz.sizeOf152
  v76 := Tryz.zeroValue152
  t127 := Tryz.underlying169
  a127 := Tryz.isAgg169
  z127 := Tryz.sizeOf169
  v127 := Tryz.zeroValue169
  t164 := Tryz.underlying179
  a164 := Tryz.isAgg179
  z164 := Tryz.sizeOf179
  v164 := Tryz.zeroValue179 }
theorem Tryz.Builder_Extra_156 : Builder.Extra Tryz.prog Tryz.lays156_ren := {
  sizeBuilder := by kernel_rfl
  liesBuilder := by kernel_rfl
  t5 := Tryz.underlying5
  a5 := Tryz.isAgg5
  z5 := Tryz.sizeOf5
  v5 := Tryz.zeroValue5
  infoByte := by kernel_rfl
  cellsByte := by kernel_rfl
  sizeByte := by kernel_rfl
  neB5 := by decide }
open Go.RowKit in
/-- No element: the empty string; the world is as it was. (Whatever the slice's address and capacity: a nil slice too.) (LAID: no walk: one application.) -/
theorem Tryz.strings_Join_none (a : Option Addr) (c : Nat) (sep : ByteArray) (w : World) :
    Calls Tryz.prog 64 #[.slice a 0 c, .string sep] w fun e w' => e = .returned (.string ⟨#[]⟩) ∧ w' = w := Any.strings_Join_none Tryz.lays156 Tryz.Builder_Extra_156 a c sep w
open Go.RowKit in
/-- strings.Join: "Join concatenates the elements of its first argument to create a single string. The separator string sep is placed between elements in the resulting string.": HOWEVER MANY ELEMENTS. Below the heap's end the world is as it was. (LAID: no walk: one application.) -/
theorem Tryz.strings_Join (bk o c : Nat) (xs : List ByteArray) (sep : ByteArray) (w : World) (hcells : ∀ (j : Nat) x, xs[j]? = some x → w.cell? ⟨bk, o + j, none⟩ = some (.string x)) (hbk : bk < w.heap.size) (hN : xs.length ≤ 140737488355328) (hcap : xs.length ≤ c) (hlen : (Lib.join (xs.map (·.data.toList)) sep.data.toList).length ≤ 140737488355328) :
    Calls Tryz.prog 64 #[.slice (some ⟨bk, o, none⟩) xs.length c, .string sep] w fun e w' => e = .returned (.string ⟨(Lib.join (xs.map (·.data.toList)) sep.data.toList).toArray⟩) ∧ Below w.heap.size w w' := Any.strings_Join Tryz.lays156 Tryz.Builder_Extra_156 bk o c xs sep w hcells hbk hN hcap hlen
end Go.Proofs

/- The table is right. -/
namespace Go.Proofs
open Go Go.Ev
set_option linter.unusedSimpArgs false

theorem hmixT : Tryz.prog.follows .mixedOrders = true := Tryz.checked.mixed

theorem ofB_some {o : Option (List Bool)} {K : List Bool → Option Value} {v : Value} (e : ofB o K = some v) : ∃ l, o = some l ∧ l.length = 800 ∧ K l = some v := by
  unfold ofB at e
  split at e
  · rename_i l
    cases hb : Nat.beq l.length 800 with
    | true => rw [hb, cond_true] at e; exact ⟨l, rfl, Nat.eq_of_beq_eq_true hb, e⟩
    | false => rw [hb] at e; cases e
  · cases e

theorem plain_two (a b : Int) : plainB (.agg ⟨[.int .i64 a, .int .i64 b]⟩) = true := rfl
theorem plainL_two (a b : Value) (ha : plainB a = true) (hb : plainB b = true) : plainL [a, b] = true := by simp only [plainL, ha, hb]; rfl
theorem plainL_one (a : Value) (ha : plainB a = true) : plainL [a] = true := by simp only [plainL, ha]; rfl

set_option maxHeartbeats 4000000 in
theorem prim1_sound : PrimSound Tryz.prog prim1 := by
  intro g l h v e
  unfold prim1 at e
  cases h1 : Nat.beq g 33 with
  | true =>
    rw [h1, cond_true] at e
    obtain rfl := Nat.eq_of_beq_eq_true h1
    split at e
    · rename_i lo hi i
      cases e
      exact (row_of hmixT (noPrim_sound _) (g := 33) (fn := Tryz.f33) (c := (Tryz.f33.body).getD .skip) (by kernel_rfl) rfl (by kernel_rfl) rfl rfl rfl (fun R S K hK => has87_run S lo hi i K hK)).prim h
    · cases e
  | false =>
    rw [h1, cond_false] at e
    cases h2 : Nat.beq g 51 with
    | true =>
      rw [h2, cond_true] at e
      obtain rfl := Nat.eq_of_beq_eq_true h2
      split at e
      · rename_i i
        cases e
        exact (row_of hmixT (noPrim_sound _) (g := 51) (fn := Tryz.f51) (c := (Tryz.f51.body).getD .skip) (by kernel_rfl) rfl (by kernel_rfl) rfl rfl rfl (fun R S K hK => only_run S i K hK)).prim h
      · cases e
    | false =>
      rw [h2, cond_false] at e
      cases h3 : Nat.beq g 50 with
      | true =>
        rw [h3, cond_true] at e
        obtain rfl := Nat.eq_of_beq_eq_true h3
        split at e
        · rename_i vs k
          obtain ⟨l, hb, hl, e2⟩ := ofB_some e
          clear e
          try dsimp only at e2
          have e := e2
          clear e2
          obtain rfl := bools_eq _ _ hb
          split at e
          · rename_i x hx
            cases e
            exact (row_of hmixT (noPrim_sound _) (g := 50) (fn := Tryz.f50) (c := (Tryz.f50.body).getD .skip) (by kernel_rfl) rfl (by kernel_rfl) (plainL_two _ _ (plain_bools l) rfl) rfl rfl (fun R S K hK => has157_run S l hl k x hx K hK)).prim h
          · cases e
        · cases e
      | false =>
        rw [h3, cond_false] at e
        cases h4 : Nat.beq g 48 with
        | true =>
          rw [h4, cond_true] at e
          obtain rfl := Nat.eq_of_beq_eq_true h4
          split at e
          · rename_i a b c fig full d e' f i
            cases e
            exact (row_of hmixT (noPrim_sound _) (g := 48) (fn := Tryz.f48) (c := (Tryz.f48.body).getD .skip) (by kernel_rfl) rfl (by kernel_rfl) rfl rfl rfl (fun R S K hK => allows_run S a b c fig full d e' f i K hK)).prim h
          · cases e
        | false => rw [h4, cond_false] at e; cases e

theorem asked_spec {f : Value} {bs : List Bool} (e : asked f = some bs) : plainB f = true ∧ bs.length = 800 ∧ ∃ g first captured, f = .func (.func g) first captured ∧
    ∀ (k : Nat) (y : Bool) (h : AHeap), bs[k]? = some y → prim1 g (first.toList ++ [.int .i64 (k : Int)] ++ captured.toList) h = some (.bool y) := by
  unfold asked at e
  split at e
  · rename_i vs
    split at e
    · rename_i l hb
      cases hl : Nat.beq l.length 800 with
      | false => rw [hl] at e; cases e
      | true =>
        rw [hl, cond_true] at e
        have e2 := Option.some.inj e
        clear e
        subst e2
        have hv := bools_eq _ _ hb
        subst hv
        refine ⟨?_, Nat.eq_of_beq_eq_true hl, 50, _, _, rfl, fun k y h hk => ?_⟩
        · have := plainL_one _ (plain_bools l)
          simp only [plainB, plainA, this]; rfl
        · show ofB (bools (l.map .bool)) _ = _
          rw [hb]
          simp only [ofB, hl, cond_true]
          rw [hk]
    · cases e
  · rename_i a b c fig full d e' f
    have e2 := Option.some.inj e
    clear e
    subst e2
    rw [allowsN_eq]
    refine ⟨rfl, by simp only [allowsL, List.length_map, List.length_range], 48, _, _, rfl, fun k y h hk => ?_⟩
    have hk8 : k < 800 := by
      have := (List.getElem?_eq_some_iff.1 hk).1
      simp only [allowsL, List.length_map, List.length_range] at this
      exact this
    rw [allowsL, List.getElem?_map, List.getElem?_range hk8] at hk
    have hk2 := Option.some.inj hk
    subst hk2
    rfl
  · cases e

set_option maxHeartbeats 4000000 in
theorem prim2_sound : PrimSound Tryz.prog prim2 := by
  intro g l h v e
  unfold prim2 at e
  cases h1 : Nat.beq g 45 with
  | true =>
    rw [h1, cond_true] at e
    obtain rfl := Nat.eq_of_beq_eq_true h1
    split at e
    · rename_i vs j
      obtain ⟨l, hb, hl, e2⟩ := ofB_some e
      clear e
      try dsimp only at e2
      have e := e2
      clear e2
      obtain rfl := bools_eq _ _ hb
      cases hj : Nat.ble j 1000000 with
      | false => rw [hj] at e; cases e
      | true =>
        rw [hj, cond_true] at e
        cases e
        have hj2 := Nat.le_of_ble_eq_true hj
        rw [nearN_eq l j hl]
        exact (row_of hmixT (noPrim_sound _) (g := 45) (fn := Tryz.f45) (c := (Tryz.f45.body).getD .skip) (by kernel_rfl) rfl (by kernel_rfl) (plainL_two _ _ (plain_bools l) rfl) rfl (plain_bools _) (fun R S K hK => near_run S l hl (j : Int) (by omega) (by omega) K hK)).prim h
    · cases e
  | false =>
    rw [h1, cond_false] at e
    cases h2 : Nat.beq g 47 with
    | true =>
      rw [h2, cond_true] at e
      obtain rfl := Nat.eq_of_beq_eq_true h2
      split at e
      · rename_i vs f
        obtain ⟨l, hb, hl, e2⟩ := ofB_some e
        clear e
        try dsimp only at e2
        have e := e2
        clear e2
        obtain rfl := bools_eq _ _ hb
        split at e
        · rename_i bs hbs
          cases e
          obtain ⟨hpf, hbl, g, first, captured, rfl, hp⟩ := asked_spec hbs
          rw [andN_eq]
          exact (row_of hmixT prim1_sound (g := 47) (fn := Tryz.f47) (c := (Tryz.f47.body).getD .skip) (by kernel_rfl) rfl (by kernel_rfl) (plainL_two _ _ (plain_bools l) hpf) rfl (plain_bools _) (fun R S K hK => keep_run S l bs hl hbl g first captured hp K hK)).prim h
        · cases e
      · cases e
    | false =>
      rw [h2, cond_false] at e
      cases h3 : Nat.beq g 43 with
      | true =>
        rw [h3, cond_true] at e
        obtain rfl := Nat.eq_of_beq_eq_true h3
        split at e
        · rename_i lo hi
          cases e
          rw [withinN_eq]
          exact (row_of hmixT prim1_sound (g := 43) (fn := Tryz.f43) (c := (Tryz.f43.body).getD .skip) (by kernel_rfl) rfl (by kernel_rfl) rfl rfl (plain_bools _) (fun R S K hK => within_run S lo hi (fun i h => rfl) K hK)).prim h
        · cases e
      | false =>
        rw [h3, cond_false] at e
        cases h4 : Nat.beq g 20 with
        | true =>
          rw [h4, cond_true] at e
          obtain rfl := Nat.eq_of_beq_eq_true h4
          split at e
          · rename_i vs
            obtain ⟨l, hb, hl, e2⟩ := ofB_some e
            clear e
            try dsimp only at e2
            have e := e2
            clear e2
            obtain rfl := bools_eq _ _ hb
            cases e
            rw [firstN_eq, lastN_eq]
            exact (row_of hmixT prim1_sound (g := 20) (fn := Tryz.f20) (c := (Tryz.f20.body).getD .skip) (by kernel_rfl) rfl (by kernel_rfl) (plainL_one _ (plain_bools l)) rfl rfl (fun R S K hK => bounds_run S (fun l h => rfl) (fun i h => rfl) l hl K hK)).prim h
          · cases e
        | false =>
          rw [h4, cond_false] at e
          cases h5 : Nat.beq g 42 with
          | true =>
            rw [h5, cond_true] at e
            obtain rfl := Nat.eq_of_beq_eq_true h5
            split at e
            · rename_i vs
              obtain ⟨l, hb, hl, e2⟩ := ofB_some e
              clear e
              try dsimp only at e2
              have e := e2
              clear e2
              obtain rfl := bools_eq _ _ hb
              cases e
              exact (row_of hmixT (noPrim_sound _) (g := 42) (fn := Tryz.f42) (c := (Tryz.f42.body).getD .skip) (by kernel_rfl) rfl (by kernel_rfl) (plainL_one _ (plain_bools l)) rfl rfl (fun R S K hK => some_run S l hl K hK)).prim h
            · cases e
          | false =>
            rw [h5, cond_false] at e
            exact prim1_sound g l h v e

theorem sliceI_spec {h : AHeap} {b off n : Nat} {xs : List Int} (e : sliceI h b off n = some xs) : xs.length = n ∧ n ≤ 100000 ∧ ∃ cs fam ro, h.bl.get b = some (.cells cs fam ro) ∧ ∀ (k : Nat) (x : Int), xs[k]? = some x → cs[off + k]? = some (.int .i64 x) := by
  unfold sliceI at e
  split at e
  · rename_i cs fam ro hg
    split at e
    · rename_i ys hy
      cases hb : (Nat.beq ys.length n && Nat.ble n 100000) with
      | false => rw [hb] at e; cases e
      | true =>
        rw [hb, cond_true] at e
        cases e
        simp only [Bool.and_eq_true] at hb
        have hv := intsV_eq _ _ hy
        exact ⟨Nat.eq_of_beq_eq_true hb.1, Nat.le_of_ble_eq_true hb.2, cs, fam, ro, hg, fun k x hk => part_get hv k _ (by rw [List.getElem?_map, hk]; rfl)⟩
    · cases e
  · cases e

set_option maxHeartbeats 4000000 in
theorem prim3_sound : PrimSound Tryz.prog prim3 := by
  intro g l h v e
  unfold prim3 at e
  cases h1 : Nat.beq g 64 with
  | true =>
    rw [h1, cond_true] at e
    obtain rfl := Nat.eq_of_beq_eq_true h1
    unfold joinP at e
    split at e
    · rename_i b off n c sep
      split at e
      · rename_i cs fam ro hg
        split at e
        · rename_i xs hx
          cases hb : (Nat.beq xs.length n && Nat.ble (Lib.join (xs.map (·.data.toList)) sep).length 100000 && Nat.ble n 100000 && Nat.ble n c) with
          | false => rw [hb] at e; cases e
          | true =>
            rw [hb, cond_true] at e
            cases e
            simp only [Bool.and_eq_true] at hb
            obtain ⟨⟨⟨q1, q2⟩, q3⟩, q4⟩ := hb
            have q1 := Nat.eq_of_beq_eq_true q1
            have q2 := Nat.le_of_ble_eq_true q2
            have q3 := Nat.le_of_ble_eq_true q3
            have q4 := Nat.le_of_ble_eq_true q4
            have hv := strs_eq _ _ hx
            refine ⟨rfl, ⟨Tryz.f64, (Tryz.f64.body).getD .skip, by kernel_rfl, rfl, by kernel_rfl⟩, fun m w0 w l' hW hl => ?_⟩
            cases hl with
            | cons ha ht =>
              cases ht with
              | cons hs hn =>
                cases hn
                cases hs
                cases ha with
                | @sl _ B d _ _ _ c' hm hc hz =>
                  obtain ⟨B', d', k1, k2, _⟩ := hW.obj b _ hg
                  rw [hm] at k1
                  cases k1
                  subst q1
                  refine (Tryz.strings_Join B (off + d) c' xs ⟨⟨sep⟩⟩ w (fun j x hj => ?_) (hW.dom _ _ _ hm) (by omega) (by omega) (by have : (⟨⟨sep⟩⟩ : ByteArray).data.toList = sep := rfl; rw [this]; omega))
                  have hcell := part_get hv j (.string x) (by rw [List.getElem?_map, hj]; rfl)
                  obtain ⟨v', r1, r2, _⟩ := k2 _ _ hcell
                  cases r2
                  rw [show off + d + j = d + (off + j) from by omega]
                  exact r1
        · cases e
      · cases e
    · cases e
  | false =>
    rw [h1, cond_false] at e
    cases h2 : Nat.beq g 53 with
    | true =>
      rw [h2, cond_true] at e
      obtain rfl := Nat.eq_of_beq_eq_true h2
      unfold maxP at e
      split at e
      · rename_i b off n c
        split at e
        · rename_i x xs hx
          cases e
          obtain ⟨q1, q2, cs, fam, ro, hg, hc⟩ := sliceI_spec hx
          refine ⟨rfl, ⟨Tryz.f53, (Tryz.f53.body).getD .skip, by kernel_rfl, rfl, by kernel_rfl⟩, fun m w0 w l' hW hl => ?_⟩
          have hrun := max_run (steps_exA hmixT (noPrim_sound Tryz.prog)) (x :: xs) (by simp) (by omega) b off c fam cs (oneRo b cs fam h.nx) (get_eq (Nat.lt_succ_self b)) hc (fun u _ => @decide (u = .int .i64 (xs.foldl max2 x)) (Classical.propDecidable _))
            (fun _ => @decide_eq_true _ (Classical.propDecidable _) (by unfold mxk; rw [List.take_length]))
          rw [q1] at hrun
          exact calls_wr (fn := Tryz.f53) (c := (Tryz.f53.body).getD .skip) (by kernel_rfl) rfl (by kernel_rfl) (wr_oneRo hW hg) hl rfl rfl hrun
        · cases e
      · cases e
    | false =>
      rw [h2, cond_false] at e
      cases h3 : Nat.beq g 54 with
      | true =>
        rw [h3, cond_true] at e
        obtain rfl := Nat.eq_of_beq_eq_true h3
        unfold leastP at e
        split at e
        · rename_i x b off n c
          split at e
          · rename_i xs hx
            cases e
            obtain ⟨q1, q2, cs, fam, ro, hg, hc⟩ := sliceI_spec hx
            refine ⟨rfl, ⟨Tryz.f54, (Tryz.f54.body).getD .skip, by kernel_rfl, rfl, by kernel_rfl⟩, fun m w0 w l' hW hl => ?_⟩
            have hrun := least_run (steps_exA hmixT (noPrim_sound Tryz.prog)) x xs (by omega) (.slice (some ⟨b, off, none⟩) n c) (oneRo b cs fam h.nx) (.inl ⟨b, off, c, fam, cs, by rw [q1], get_eq (Nat.lt_succ_self b), hc⟩) (fun u _ => @decide (u = .int .i64 (xs.foldl min2 x)) (Classical.propDecidable _))
              (fun _ => @decide_eq_true _ (Classical.propDecidable _) rfl)
            exact calls_wr (fn := Tryz.f54) (c := (Tryz.f54.body).getD .skip) (by kernel_rfl) rfl (by kernel_rfl) (wr_oneRo hW hg) hl rfl rfl hrun
          · cases e
        · rename_i x
          cases e
          refine ⟨rfl, ⟨Tryz.f54, (Tryz.f54.body).getD .skip, by kernel_rfl, rfl, by kernel_rfl⟩, fun m w0 w l' hW hl => ?_⟩
          have hrun := least_run (steps_exA hmixT (noPrim_sound Tryz.prog)) x [] (by simp) (.slice none 0 1) ⟨.leaf, h.nx, .leaf⟩ (.inr ⟨rfl, rfl⟩) (fun u _ => @decide (u = .int .i64 x) (Classical.propDecidable _))
            (fun _ => @decide_eq_true _ (Classical.propDecidable _) rfl)
          exact calls_wr (fn := Tryz.f54) (c := (Tryz.f54.body).getD .skip) (by kernel_rfl) rfl (by kernel_rfl) (wr_noRo hW) hl rfl rfl hrun
        · cases e
      | false =>
        rw [h3, cond_false] at e
        exact prim2_sound g l h v e
end Go.Proofs
