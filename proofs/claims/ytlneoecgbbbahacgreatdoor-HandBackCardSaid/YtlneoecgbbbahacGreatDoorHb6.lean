import Derived.Test.YtlneoecgbbbahacGreatDoorHb5
namespace Go.Proofs
open Go Go.Ev Go.RowKit
set_option linter.unusedSimpArgs false

theorem five {l : List Int} (h : l.length = 5) : ∃ a b c d e, l = [a, b, c, d, e] := by
  match l, h with
  | [a, b, c, d, e], _ => exact ⟨a, b, c, d, e, rfl⟩

theorem tabT0 (m : Int) : (tabH Tryz.prog (tbs pow10V m)).bl.get 0 = some (.tab pow10V) := by simp [tabH, tbs, tabT, T.get_set]
theorem tabT1 (m : Int) : (tabH Tryz.prog (tbs pow10V m)).bl.get 1 = some (.tab [.int .i64 m]) := by simp [tabH, tbs, tabT, T.get_set]
theorem tabNx (m : Int) : (tabH Tryz.prog (tbs pow10V m)).nx = 4 := by show Tryz.prog.globals.size = 4; kernel_rfl

theorem parseText_row (m : Int) (s : ByteArray) (hs : s.size ≤ 1000) : RowT Tryz.prog (tbs pow10V m) 19 [.string s] (parseV (ptL s.data.toList)) := by
  refine rowT_of hmixT primB_sound (tbs_lt m) (fn := Tryz.f19) (c := (Tryz.f19.body).getD .skip) (by kernel_rfl) rfl (by kernel_rfl) rfl rfl (plain_parse _) (fun R S K hK => ?_)
  obtain ⟨a, b, c, d, e, h5⟩ := five (parse_len s.data.toList)
  have hv : parseV (parseL s.data.toList) = .tuple #[.agg ⟨[.int .i64 a, .int .i64 b, .int .i64 c, .int .i64 d, .int .i64 e]⟩, .bool (parseL s.data.toList).2] := by
    unfold parseV; rw [h5]; rfl
  have hw : parseV (ptL s.data.toList) = .tuple #[.agg ⟨[.int .i64 a, .int .i64 b, .int .i64 c, .int .i64 d, .int .i64 e]⟩, .bool ((parseL s.data.toList).2 && isTextB a b e)] := by
    unfold parseV ptL textB; rw [h5]; rfl
  refine parseText_run S (tabH Tryz.prog (tbs pow10V m)) (tabNx m) s a b c d e (parseL s.data.toList).2 (fun h h0 h1 => ?_) (fun h => rfl) K (fun h => ?_)
  · rw [tabT0] at h0
    rw [tabT1] at h1
    rw [← hv]
    show (match tabsOf h with | some _ => bif Nat.ble s.size 1000 then some (parseV (parseL s.data.toList)) else none | none => none) = _
    rw [tabsOf_some h0 h1]
    simp only [Nat.ble_eq_true_of_le hs, cond_true]
  · rw [← hw]; exact hK h

def primC : Prim := ext 19 (fun l h => match l with | [.string s] => (match tabsOf h with | some _ => bif Nat.ble s.size 1000 then some (parseV (ptL s.data.toList)) else none | none => none) | _ => none) primB
theorem primC_sound : PrimSound Tryz.prog primC := by
  refine ext_sound primB_sound fun l h v e => ?_
  split at e
  · rename_i s
    split at e
    · rename_i m hm
      cases hb : Nat.ble s.size 1000 with
      | false => rw [hb] at e; cases e
      | true =>
        rw [hb, cond_true] at e
        cases e
        exact (parseText_row m s (Nat.le_of_ble_eq_true hb)).prim (tbs_lt m) h (tabsOf_eq hm)
    · cases e
  · cases e

/-! ## Value -/
theorem parse_small (s : List UInt8) : ∀ x, x ∈ (parseL s).1 → smallI x := by
  unfold parseL parse3
  cases hb : okParts (Lib.cut s slashB).1 (Lib.cut s slashB).2.1 (Lib.cut s slashB).2.2 with
  | true =>
    simp only [okParts, Bool.and_eq_true, decide_eq_true_eq, List.all_eq_true, List.mem_append] at hb
    have hf : ∀ b, (b ∈ (Lib.cut s slashB).1 ∨ b ∈ (Lib.cut s slashB).2.1) → smallI (fig b) := fun b hm => by
      have := hb.2 b hm
      simp only [sign, Bool.and_eq_true, decide_eq_true_eq] at this
      exact ⟨by unfold fig; omega, by unfold fig; omega⟩
    intro x hx
    simp only [cond_true, figsOf, List.mem_append, List.mem_map, List.mem_replicate, List.mem_singleton] at hx
    rcases hx with (⟨b, hm, rfl⟩ | ⟨_, rfl⟩) | hx
    · exact hf b (.inl hm)
    · exact ⟨by decide, by decide⟩
    · split at hx
      · subst hx
        rw [List.getElem?_map]
        cases hq : (Lib.cut s slashB).2.1[0]? with
        | none => exact ⟨by decide, by decide⟩
        | some b => exact hf b (.inr (List.mem_of_getElem? hq))
      · subst hx; exact ⟨by decide, by decide⟩
  | false =>
    intro x hx
    simp only [cond_false, List.mem_replicate] at hx
    obtain ⟨_, rfl⟩ := hx
    exact ⟨by decide, by decide⟩

def valL (s : List UInt8) : Int × Int := bif (ptL s).2 then (valOf (ptL s).1, 0) else (0, 4)
def valV (x : Int × Int) : Value := .tuple #[.int .i64 x.1, .int .i64 x.2]

variable {pr : Prim} {R : ExT}
set_option maxHeartbeats 4000000 in
theorem value_fn_run (S : Ev.Steps Tryz.prog pr R) (H0 : AHeap) (hH : H0.nx = 4) (s : ByteArray) (a b c d e v : Int) (ok : Bool)
    (hP : pr 19 [.string s] H0 = some (.tuple #[.agg ⟨[.int .i64 a, .int .i64 b, .int .i64 c, .int .i64 d, .int .i64 e]⟩, .bool ok]))
    (hT : ∀ h : AHeap, pr 20 [.agg ⟨[.int .i64 a, .int .i64 b, .int .i64 c, .int .i64 d, .int .i64 e]⟩] h = some (.int .i64 v))
    (K : KV) (hK : ∀ h, K (valV (bif ok then (v, 0) else (0, 4))) h = true) :
    R 15 none ((Tryz.f7.body).getD .skip) (argsT [.string s]) H0 [] (finish Tryz.prog Tryz.f7 K) = true := by
  generalize hF : finish Tryz.prog Tryz.f7 K = KF
  simp only [Tryz.f7, Option.getD_some, argsT, setArgs, fV1_eq, T.setK_eq, id]
  have pf := pfgL (l := [.int .i64 a, .int .i64 b, .int .i64 c, .int .i64 d, .int .i64 e]) rfl
  refine S.seq (S.region ?_)
  simp (disch := omega) only [run_cons, want_guard, want1_some, want2_bool, want2_undef, beqB_tt, beqB_tf, beqB_ft, beqB_ff, List.getElem?_toArray, List.getElem?_cons_succ, List.getElem?_cons_zero, Int.natCast_add, Int.natCast_one,  run_nil, want_none, opR_read, opR_no, opR_write, putR_some, putR_none, optR_some, seqK_normal, seqK_exit, seqK_ret, blockK_normal, blockK_ret, blockK_exit, w_move, w_assign, w_pick, w_load, w_nilCheck, w_fieldAddr, w_field, w_indexAddr, w_index, w_extract, w_bin, w_un, w_makeFunc, w_alloc, w_box, w_store, w_call, ev_tmp, ev_int, ev_bool, ev_str, ev_func, tget_eq, tget_ne, get_eq, get_ne, rd_move, rd_assign, rd_pick, rd_load, rd_nilCheck, rd_fieldAddr, rd_field, rd_indexAddr, rd_extract, rd_bin, rd_not, rd_makeFunc, rd_slice, rd_len, rd_build, w_len, w_slice, w_build, un_not, pick_t, pick_f, load_ptr, cellsOf_some, partO_some, nilCheck_ptr, extract_tuple, add_nx, add_get, add_fget, ↓reduceIte, Nat.reduceEqDiff,  upd_nx, upd_fams, upd_eq, upd_ne, wr_box, boxR_agg, boxR_int, boxR_str, boxR_func, cells_agg, stR_int, stR_bool, stR_str, st0_some, st1_some, bin_add, bin_sub, bin_mul, bin_lss, bin_leq, bin_gtr, bin_geq, bin_eql, bin_neq, Nat.reduceAdd, Nat.succ_eq_add_one, Nat.zero_add, Nat.add_zero, Nat.mul_one, Nat.zero_mul]
  refine S.seq (S.region ?_)
  simp (disch := omega) only [run_cons, want_guard, want1_some, want2_bool, want2_undef, beqB_tt, beqB_tf, beqB_ft, beqB_ff, List.getElem?_toArray, List.getElem?_cons_succ, List.getElem?_cons_zero, Int.natCast_add, Int.natCast_one,  run_nil, want_none, opR_read, opR_no, opR_write, putR_some, putR_none, optR_some, seqK_normal, seqK_exit, seqK_ret, blockK_normal, blockK_ret, blockK_exit, w_move, w_assign, w_pick, w_load, w_nilCheck, w_fieldAddr, w_field, w_indexAddr, w_index, w_extract, w_bin, w_un, w_makeFunc, w_alloc, w_box, w_store, w_call, ev_tmp, ev_int, ev_bool, ev_str, ev_func, tget_eq, tget_ne, get_eq, get_ne, rd_move, rd_assign, rd_pick, rd_load, rd_nilCheck, rd_fieldAddr, rd_field, rd_indexAddr, rd_extract, rd_bin, rd_not, rd_makeFunc, rd_slice, rd_len, rd_build, w_len, w_slice, w_build, un_not, pick_t, pick_f, load_ptr, cellsOf_some, partO_some, nilCheck_ptr, extract_tuple, add_nx, add_get, add_fget, ↓reduceIte, Nat.reduceEqDiff,  upd_nx, upd_fams, upd_eq, upd_ne, wr_box, boxR_agg, boxR_int, boxR_str, boxR_func, cells_agg, stR_int, stR_bool, stR_str, st0_some, st1_some, bin_add, bin_sub, bin_mul, bin_lss, bin_leq, bin_gtr, bin_geq, bin_eql, bin_neq, Nat.reduceAdd, Nat.succ_eq_add_one, Nat.zero_add, Nat.add_zero, Nat.mul_one, Nat.zero_mul, evL_cons, evL_nil]
  refine wr_prim (fid := 19) (first := #[]) (captured := #[]) (v := .tuple #[.agg ⟨[.int .i64 a, .int .i64 b, .int .i64 c, .int .i64 d, .int .i64 e]⟩, .bool ok]) rfl ?_ ?_
  · simp (disch := omega) only [run_cons, want_guard, want1_some, want2_bool, want2_undef, beqB_tt, beqB_tf, beqB_ft, beqB_ff, List.getElem?_toArray, List.getElem?_cons_succ, List.getElem?_cons_zero, Int.natCast_add, Int.natCast_one,  run_nil, want_none, opR_read, opR_no, opR_write, putR_some, putR_none, optR_some, seqK_normal, seqK_exit, seqK_ret, blockK_normal, blockK_ret, blockK_exit, w_move, w_assign, w_pick, w_load, w_nilCheck, w_fieldAddr, w_field, w_indexAddr, w_index, w_extract, w_bin, w_un, w_makeFunc, w_alloc, w_box, w_store, w_call, ev_tmp, ev_int, ev_bool, ev_str, ev_func, tget_eq, tget_ne, get_eq, get_ne, rd_move, rd_assign, rd_pick, rd_load, rd_nilCheck, rd_fieldAddr, rd_field, rd_indexAddr, rd_extract, rd_bin, rd_not, rd_makeFunc, rd_slice, rd_len, rd_build, w_len, w_slice, w_build, un_not, pick_t, pick_f, load_ptr, cellsOf_some, partO_some, nilCheck_ptr, extract_tuple, add_nx, add_get, add_fget, ↓reduceIte, Nat.reduceEqDiff,  upd_nx, upd_fams, upd_eq, upd_ne, wr_box, boxR_agg, boxR_int, boxR_str, boxR_func, cells_agg, stR_int, stR_bool, stR_str, st0_some, st1_some, bin_add, bin_sub, bin_mul, bin_lss, bin_leq, bin_gtr, bin_geq, bin_eql, bin_neq, Nat.reduceAdd, Nat.succ_eq_add_one, Nat.zero_add, Nat.add_zero, Nat.mul_one, Nat.zero_mul, evL_cons, evL_nil]
    exact hP
  have x0 : (#[Value.agg ⟨[.int .i64 a, .int .i64 b, .int .i64 c, .int .i64 d, .int .i64 e]⟩, .bool ok] : Array Value)[0]? = some (.agg ⟨[.int .i64 a, .int .i64 b, .int .i64 c, .int .i64 d, .int .i64 e]⟩) := rfl
  have x1 : (#[Value.agg ⟨[.int .i64 a, .int .i64 b, .int .i64 c, .int .i64 d, .int .i64 e]⟩, .bool ok] : Array Value)[1]? = some (.bool ok) := rfl
  simp (disch := omega) only [run_cons, want_guard, want1_some, want2_bool, want2_undef, beqB_tt, beqB_tf, beqB_ft, beqB_ff, List.getElem?_toArray, List.getElem?_cons_succ, List.getElem?_cons_zero, Int.natCast_add, Int.natCast_one,  run_nil, want_none, opR_read, opR_no, opR_write, putR_some, putR_none, optR_some, seqK_normal, seqK_exit, seqK_ret, blockK_normal, blockK_ret, blockK_exit, w_move, w_assign, w_pick, w_load, w_nilCheck, w_fieldAddr, w_field, w_indexAddr, w_index, w_extract, w_bin, w_un, w_makeFunc, w_alloc, w_box, w_store, w_call, ev_tmp, ev_int, ev_bool, ev_str, ev_func, tget_eq, tget_ne, get_eq, get_ne, rd_move, rd_assign, rd_pick, rd_load, rd_nilCheck, rd_fieldAddr, rd_field, rd_indexAddr, rd_extract, rd_bin, rd_not, rd_makeFunc, rd_slice, rd_len, rd_build, w_len, w_slice, w_build, un_not, pick_t, pick_f, load_ptr, cellsOf_some, partO_some, nilCheck_ptr, extract_tuple, add_nx, add_get, add_fget, ↓reduceIte, Nat.reduceEqDiff,  upd_nx, upd_fams, upd_eq, upd_ne, wr_box, boxR_agg, boxR_int, boxR_str, boxR_func, cells_agg, stR_int, stR_bool, stR_str, st0_some, st1_some, bin_add, bin_sub, bin_mul, bin_lss, bin_leq, bin_gtr, bin_geq, bin_eql, bin_neq, Nat.reduceAdd, Nat.succ_eq_add_one, Nat.zero_add, Nat.add_zero, Nat.mul_one, Nat.zero_mul, x0, x1, wzfg zfg, hH]
  refine wr_storeN (B := 4) (c := zer) (fam := 4) (k := 4) (l := [.int .i64 a, .int .i64 b, .int .i64 c, .int .i64 d, .int .i64 e]) (by simp (disch := omega) only [run_cons, want_guard, want1_some, want2_bool, want2_undef, beqB_tt, beqB_tf, beqB_ft, beqB_ff, List.getElem?_toArray, List.getElem?_cons_succ, List.getElem?_cons_zero, Int.natCast_add, Int.natCast_one,  run_nil, want_none, opR_read, opR_no, opR_write, putR_some, putR_none, optR_some, seqK_normal, seqK_exit, seqK_ret, blockK_normal, blockK_ret, blockK_exit, w_move, w_assign, w_pick, w_load, w_nilCheck, w_fieldAddr, w_field, w_indexAddr, w_index, w_extract, w_bin, w_un, w_makeFunc, w_alloc, w_box, w_store, w_call, ev_tmp, ev_int, ev_bool, ev_str, ev_func, tget_eq, tget_ne, get_eq, get_ne, rd_move, rd_assign, rd_pick, rd_load, rd_nilCheck, rd_fieldAddr, rd_field, rd_indexAddr, rd_extract, rd_bin, rd_not, rd_makeFunc, rd_slice, rd_len, rd_build, w_len, w_slice, w_build, un_not, pick_t, pick_f, load_ptr, cellsOf_some, partO_some, nilCheck_ptr, extract_tuple, add_nx, add_get, add_fget, ↓reduceIte, Nat.reduceEqDiff,  upd_nx, upd_fams, upd_eq, upd_ne, wr_box, boxR_agg, boxR_int, boxR_str, boxR_func, cells_agg, stR_int, stR_bool, stR_str, st0_some, st1_some, bin_add, bin_sub, bin_mul, bin_lss, bin_leq, bin_gtr, bin_geq, bin_eql, bin_neq, Nat.reduceAdd, Nat.succ_eq_add_one, Nat.zero_add, Nat.add_zero, Nat.mul_one, Nat.zero_mul]) (by simp (disch := omega) only [run_cons, want_guard, want1_some, want2_bool, want2_undef, beqB_tt, beqB_tf, beqB_ft, beqB_ff, List.getElem?_toArray, List.getElem?_cons_succ, List.getElem?_cons_zero, Int.natCast_add, Int.natCast_one,  run_nil, want_none, opR_read, opR_no, opR_write, putR_some, putR_none, optR_some, seqK_normal, seqK_exit, seqK_ret, blockK_normal, blockK_ret, blockK_exit, w_move, w_assign, w_pick, w_load, w_nilCheck, w_fieldAddr, w_field, w_indexAddr, w_index, w_extract, w_bin, w_un, w_makeFunc, w_alloc, w_box, w_store, w_call, ev_tmp, ev_int, ev_bool, ev_str, ev_func, tget_eq, tget_ne, get_eq, get_ne, rd_move, rd_assign, rd_pick, rd_load, rd_nilCheck, rd_fieldAddr, rd_field, rd_indexAddr, rd_extract, rd_bin, rd_not, rd_makeFunc, rd_slice, rd_len, rd_build, w_len, w_slice, w_build, un_not, pick_t, pick_f, load_ptr, cellsOf_some, partO_some, nilCheck_ptr, extract_tuple, add_nx, add_get, add_fget, ↓reduceIte, Nat.reduceEqDiff,  upd_nx, upd_fams, upd_eq, upd_ne, wr_box, boxR_agg, boxR_int, boxR_str, boxR_func, cells_agg, stR_int, stR_bool, stR_str, st0_some, st1_some, bin_add, bin_sub, bin_mul, bin_lss, bin_leq, bin_gtr, bin_geq, bin_eql, bin_neq, Nat.reduceAdd, Nat.succ_eq_add_one, Nat.zero_add, Nat.add_zero, Nat.mul_one, Nat.zero_mul]) sfg (by omega) rfl (by simp (disch := omega) only [run_cons, want_guard, want1_some, want2_bool, want2_undef, beqB_tt, beqB_tf, beqB_ft, beqB_ff, List.getElem?_toArray, List.getElem?_cons_succ, List.getElem?_cons_zero, Int.natCast_add, Int.natCast_one,  run_nil, want_none, opR_read, opR_no, opR_write, putR_some, putR_none, optR_some, seqK_normal, seqK_exit, seqK_ret, blockK_normal, blockK_ret, blockK_exit, w_move, w_assign, w_pick, w_load, w_nilCheck, w_fieldAddr, w_field, w_indexAddr, w_index, w_extract, w_bin, w_un, w_makeFunc, w_alloc, w_box, w_store, w_call, ev_tmp, ev_int, ev_bool, ev_str, ev_func, tget_eq, tget_ne, get_eq, get_ne, rd_move, rd_assign, rd_pick, rd_load, rd_nilCheck, rd_fieldAddr, rd_field, rd_indexAddr, rd_extract, rd_bin, rd_not, rd_makeFunc, rd_slice, rd_len, rd_build, w_len, w_slice, w_build, un_not, pick_t, pick_f, load_ptr, cellsOf_some, partO_some, nilCheck_ptr, extract_tuple, add_nx, add_get, add_fget, ↓reduceIte, Nat.reduceEqDiff,  upd_nx, upd_fams, upd_eq, upd_ne, wr_box, boxR_agg, boxR_int, boxR_str, boxR_func, cells_agg, stR_int, stR_bool, stR_str, st0_some, st1_some, bin_add, bin_sub, bin_mul, bin_lss, bin_leq, bin_gtr, bin_geq, bin_eql, bin_neq, Nat.reduceAdd, Nat.succ_eq_add_one, Nat.zero_add, Nat.add_zero, Nat.mul_one, Nat.zero_mul, hH]; rfl) (by simp (disch := omega) only [run_cons, want_guard, want1_some, want2_bool, want2_undef, beqB_tt, beqB_tf, beqB_ft, beqB_ff, List.getElem?_toArray, List.getElem?_cons_succ, List.getElem?_cons_zero, Int.natCast_add, Int.natCast_one,  run_nil, want_none, opR_read, opR_no, opR_write, putR_some, putR_none, optR_some, seqK_normal, seqK_exit, seqK_ret, blockK_normal, blockK_ret, blockK_exit, w_move, w_assign, w_pick, w_load, w_nilCheck, w_fieldAddr, w_field, w_indexAddr, w_index, w_extract, w_bin, w_un, w_makeFunc, w_alloc, w_box, w_store, w_call, ev_tmp, ev_int, ev_bool, ev_str, ev_func, tget_eq, tget_ne, get_eq, get_ne, rd_move, rd_assign, rd_pick, rd_load, rd_nilCheck, rd_fieldAddr, rd_field, rd_indexAddr, rd_extract, rd_bin, rd_not, rd_makeFunc, rd_slice, rd_len, rd_build, w_len, w_slice, w_build, un_not, pick_t, pick_f, load_ptr, cellsOf_some, partO_some, nilCheck_ptr, extract_tuple, add_nx, add_get, add_fget, ↓reduceIte, Nat.reduceEqDiff,  upd_nx, upd_fams, upd_eq, upd_ne, wr_box, boxR_agg, boxR_int, boxR_str, boxR_func, cells_agg, stR_int, stR_bool, stR_str, st0_some, st1_some, bin_add, bin_sub, bin_mul, bin_lss, bin_leq, bin_gtr, bin_geq, bin_eql, bin_neq, Nat.reduceAdd, Nat.succ_eq_add_one, Nat.zero_add, Nat.add_zero, Nat.mul_one, Nat.zero_mul, hH]) rfl ?_
  simp (disch := omega) only [run_cons, want_guard, want1_some, want2_bool, want2_undef, beqB_tt, beqB_tf, beqB_ft, beqB_ff, List.getElem?_toArray, List.getElem?_cons_succ, List.getElem?_cons_zero, Int.natCast_add, Int.natCast_one,  run_nil, want_none, opR_read, opR_no, opR_write, putR_some, putR_none, optR_some, seqK_normal, seqK_exit, seqK_ret, blockK_normal, blockK_ret, blockK_exit, w_move, w_assign, w_pick, w_load, w_nilCheck, w_fieldAddr, w_field, w_indexAddr, w_index, w_extract, w_bin, w_un, w_makeFunc, w_alloc, w_box, w_store, w_call, ev_tmp, ev_int, ev_bool, ev_str, ev_func, tget_eq, tget_ne, get_eq, get_ne, rd_move, rd_assign, rd_pick, rd_load, rd_nilCheck, rd_fieldAddr, rd_field, rd_indexAddr, rd_extract, rd_bin, rd_not, rd_makeFunc, rd_slice, rd_len, rd_build, w_len, w_slice, w_build, un_not, pick_t, pick_f, load_ptr, cellsOf_some, partO_some, nilCheck_ptr, extract_tuple, add_nx, add_get, add_fget, ↓reduceIte, Nat.reduceEqDiff,  upd_nx, upd_fams, upd_eq, upd_ne, wr_box, boxR_agg, boxR_int, boxR_str, boxR_func, cells_agg, stR_int, stR_bool, stR_str, st0_some, st1_some, bin_add, bin_sub, bin_mul, bin_lss, bin_leq, bin_gtr, bin_geq, bin_eql, bin_neq, Nat.reduceAdd, Nat.succ_eq_add_one, Nat.zero_add, Nat.add_zero, Nat.mul_one, Nat.zero_mul]
  refine S.seq (S.seq (S.region ?_))
  simp (disch := omega) only [run_cons, want_guard, want1_some, want2_bool, want2_undef, beqB_tt, beqB_tf, beqB_ft, beqB_ff, List.getElem?_toArray, List.getElem?_cons_succ, List.getElem?_cons_zero, Int.natCast_add, Int.natCast_one,  run_nil, want_none, opR_read, opR_no, opR_write, putR_some, putR_none, optR_some, seqK_normal, seqK_exit, seqK_ret, blockK_normal, blockK_ret, blockK_exit, w_move, w_assign, w_pick, w_load, w_nilCheck, w_fieldAddr, w_field, w_indexAddr, w_index, w_extract, w_bin, w_un, w_makeFunc, w_alloc, w_box, w_store, w_call, ev_tmp, ev_int, ev_bool, ev_str, ev_func, tget_eq, tget_ne, get_eq, get_ne, rd_move, rd_assign, rd_pick, rd_load, rd_nilCheck, rd_fieldAddr, rd_field, rd_indexAddr, rd_extract, rd_bin, rd_not, rd_makeFunc, rd_slice, rd_len, rd_build, w_len, w_slice, w_build, un_not, pick_t, pick_f, load_ptr, cellsOf_some, partO_some, nilCheck_ptr, extract_tuple, add_nx, add_get, add_fget, ↓reduceIte, Nat.reduceEqDiff,  upd_nx, upd_fams, upd_eq, upd_ne, wr_box, boxR_agg, boxR_int, boxR_str, boxR_func, cells_agg, stR_int, stR_bool, stR_str, st0_some, st1_some, bin_add, bin_sub, bin_mul, bin_lss, bin_leq, bin_gtr, bin_geq, bin_eql, bin_neq, Nat.reduceAdd, Nat.succ_eq_add_one, Nat.zero_add, Nat.add_zero, Nat.mul_one, Nat.zero_mul, un_not]
  cases ok with
  | true =>
    refine S.cond (v := false) (by simp (disch := omega) only [run_cons, want_guard, want1_some, want2_bool, want2_undef, beqB_tt, beqB_tf, beqB_ft, beqB_ff, List.getElem?_toArray, List.getElem?_cons_succ, List.getElem?_cons_zero, Int.natCast_add, Int.natCast_one,  run_nil, want_none, opR_read, opR_no, opR_write, putR_some, putR_none, optR_some, seqK_normal, seqK_exit, seqK_ret, blockK_normal, blockK_ret, blockK_exit, w_move, w_assign, w_pick, w_load, w_nilCheck, w_fieldAddr, w_field, w_indexAddr, w_index, w_extract, w_bin, w_un, w_makeFunc, w_alloc, w_box, w_store, w_call, ev_tmp, ev_int, ev_bool, ev_str, ev_func, tget_eq, tget_ne, get_eq, get_ne, rd_move, rd_assign, rd_pick, rd_load, rd_nilCheck, rd_fieldAddr, rd_field, rd_indexAddr, rd_extract, rd_bin, rd_not, rd_makeFunc, rd_slice, rd_len, rd_build, w_len, w_slice, w_build, un_not, pick_t, pick_f, load_ptr, cellsOf_some, partO_some, nilCheck_ptr, extract_tuple, add_nx, add_get, add_fget, ↓reduceIte, Nat.reduceEqDiff,  upd_nx, upd_fams, upd_eq, upd_ne, wr_box, boxR_agg, boxR_int, boxR_str, boxR_func, cells_agg, stR_int, stR_bool, stR_str, st0_some, st1_some, bin_add, bin_sub, bin_mul, bin_lss, bin_leq, bin_gtr, bin_geq, bin_eql, bin_neq, Nat.reduceAdd, Nat.succ_eq_add_one, Nat.zero_add, Nat.add_zero, Nat.mul_one, Nat.zero_mul]; rfl) (fun e => by cases e) (fun _ => ?_)
    refine S.skip ?_
    simp (disch := omega) only [run_cons, want_guard, want1_some, want2_bool, want2_undef, beqB_tt, beqB_tf, beqB_ft, beqB_ff, List.getElem?_toArray, List.getElem?_cons_succ, List.getElem?_cons_zero, Int.natCast_add, Int.natCast_one,  run_nil, want_none, opR_read, opR_no, opR_write, putR_some, putR_none, optR_some, seqK_normal, seqK_exit, seqK_ret, blockK_normal, blockK_ret, blockK_exit, w_move, w_assign, w_pick, w_load, w_nilCheck, w_fieldAddr, w_field, w_indexAddr, w_index, w_extract, w_bin, w_un, w_makeFunc, w_alloc, w_box, w_store, w_call, ev_tmp, ev_int, ev_bool, ev_str, ev_func, tget_eq, tget_ne, get_eq, get_ne, rd_move, rd_assign, rd_pick, rd_load, rd_nilCheck, rd_fieldAddr, rd_field, rd_indexAddr, rd_extract, rd_bin, rd_not, rd_makeFunc, rd_slice, rd_len, rd_build, w_len, w_slice, w_build, un_not, pick_t, pick_f, load_ptr, cellsOf_some, partO_some, nilCheck_ptr, extract_tuple, add_nx, add_get, add_fget, ↓reduceIte, Nat.reduceEqDiff,  upd_nx, upd_fams, upd_eq, upd_ne, wr_box, boxR_agg, boxR_int, boxR_str, boxR_func, cells_agg, stR_int, stR_bool, stR_str, st0_some, st1_some, bin_add, bin_sub, bin_mul, bin_lss, bin_leq, bin_gtr, bin_geq, bin_eql, bin_neq, Nat.reduceAdd, Nat.succ_eq_add_one, Nat.zero_add, Nat.add_zero, Nat.mul_one, Nat.zero_mul]
    refine S.seq (S.region ?_)
    simp (disch := omega) only [run_cons, want_guard, want1_some, want2_bool, want2_undef, beqB_tt, beqB_tf, beqB_ft, beqB_ff, List.getElem?_toArray, List.getElem?_cons_succ, List.getElem?_cons_zero, Int.natCast_add, Int.natCast_one,  run_nil, want_none, opR_read, opR_no, opR_write, putR_some, putR_none, optR_some, seqK_normal, seqK_exit, seqK_ret, blockK_normal, blockK_ret, blockK_exit, w_move, w_assign, w_pick, w_load, w_nilCheck, w_fieldAddr, w_field, w_indexAddr, w_index, w_extract, w_bin, w_un, w_makeFunc, w_alloc, w_box, w_store, w_call, ev_tmp, ev_int, ev_bool, ev_str, ev_func, tget_eq, tget_ne, get_eq, get_ne, rd_move, rd_assign, rd_pick, rd_load, rd_nilCheck, rd_fieldAddr, rd_field, rd_indexAddr, rd_extract, rd_bin, rd_not, rd_makeFunc, rd_slice, rd_len, rd_build, w_len, w_slice, w_build, un_not, pick_t, pick_f, load_ptr, cellsOf_some, partO_some, nilCheck_ptr, extract_tuple, add_nx, add_get, add_fget, ↓reduceIte, Nat.reduceEqDiff,  upd_nx, upd_fams, upd_eq, upd_ne, wr_box, boxR_agg, boxR_int, boxR_str, boxR_func, cells_agg, stR_int, stR_bool, stR_str, st0_some, st1_some, bin_add, bin_sub, bin_mul, bin_lss, bin_leq, bin_gtr, bin_geq, bin_eql, bin_neq, Nat.reduceAdd, Nat.succ_eq_add_one, Nat.zero_add, Nat.add_zero, Nat.mul_one, Nat.zero_mul, pf, evL_cons, evL_nil]
    refine wr_prim (fid := 20) (first := #[]) (captured := #[]) (v := .int .i64 v) rfl ?_ ?_
    · simp (disch := omega) only [run_cons, want_guard, want1_some, want2_bool, want2_undef, beqB_tt, beqB_tf, beqB_ft, beqB_ff, List.getElem?_toArray, List.getElem?_cons_succ, List.getElem?_cons_zero, Int.natCast_add, Int.natCast_one,  run_nil, want_none, opR_read, opR_no, opR_write, putR_some, putR_none, optR_some, seqK_normal, seqK_exit, seqK_ret, blockK_normal, blockK_ret, blockK_exit, w_move, w_assign, w_pick, w_load, w_nilCheck, w_fieldAddr, w_field, w_indexAddr, w_index, w_extract, w_bin, w_un, w_makeFunc, w_alloc, w_box, w_store, w_call, ev_tmp, ev_int, ev_bool, ev_str, ev_func, tget_eq, tget_ne, get_eq, get_ne, rd_move, rd_assign, rd_pick, rd_load, rd_nilCheck, rd_fieldAddr, rd_field, rd_indexAddr, rd_extract, rd_bin, rd_not, rd_makeFunc, rd_slice, rd_len, rd_build, w_len, w_slice, w_build, un_not, pick_t, pick_f, load_ptr, cellsOf_some, partO_some, nilCheck_ptr, extract_tuple, add_nx, add_get, add_fget, ↓reduceIte, Nat.reduceEqDiff,  upd_nx, upd_fams, upd_eq, upd_ne, wr_box, boxR_agg, boxR_int, boxR_str, boxR_func, cells_agg, stR_int, stR_bool, stR_str, st0_some, st1_some, bin_add, bin_sub, bin_mul, bin_lss, bin_leq, bin_gtr, bin_geq, bin_eql, bin_neq, Nat.reduceAdd, Nat.succ_eq_add_one, Nat.zero_add, Nat.add_zero, Nat.mul_one, Nat.zero_mul, evL_cons, evL_nil]
      exact hT _
    simp (disch := omega) only [run_cons, want_guard, want1_some, want2_bool, want2_undef, beqB_tt, beqB_tf, beqB_ft, beqB_ff, List.getElem?_toArray, List.getElem?_cons_succ, List.getElem?_cons_zero, Int.natCast_add, Int.natCast_one,  run_nil, want_none, opR_read, opR_no, opR_write, putR_some, putR_none, optR_some, seqK_normal, seqK_exit, seqK_ret, blockK_normal, blockK_ret, blockK_exit, w_move, w_assign, w_pick, w_load, w_nilCheck, w_fieldAddr, w_field, w_indexAddr, w_index, w_extract, w_bin, w_un, w_makeFunc, w_alloc, w_box, w_store, w_call, ev_tmp, ev_int, ev_bool, ev_str, ev_func, tget_eq, tget_ne, get_eq, get_ne, rd_move, rd_assign, rd_pick, rd_load, rd_nilCheck, rd_fieldAddr, rd_field, rd_indexAddr, rd_extract, rd_bin, rd_not, rd_makeFunc, rd_slice, rd_len, rd_build, w_len, w_slice, w_build, un_not, pick_t, pick_f, load_ptr, cellsOf_some, partO_some, nilCheck_ptr, extract_tuple, add_nx, add_get, add_fget, ↓reduceIte, Nat.reduceEqDiff,  upd_nx, upd_fams, upd_eq, upd_ne, wr_box, boxR_agg, boxR_int, boxR_str, boxR_func, cells_agg, stR_int, stR_bool, stR_str, st0_some, st1_some, bin_add, bin_sub, bin_mul, bin_lss, bin_leq, bin_gtr, bin_geq, bin_eql, bin_neq, Nat.reduceAdd, Nat.succ_eq_add_one, Nat.zero_add, Nat.add_zero, Nat.mul_one, Nat.zero_mul]
    refine S.ret ?_
    try simp only [seqK_ret, blockK_ret]
    subst hF
    simp only [finish, endMarks]
    rw [show Tryz.f7.results.toList = [.tmp 2, .tmp 3] from rfl]
    simp (disch := omega) only [resA, ev_tmp, tget_ne, tget_eq, get_ne, get_eq, upd_eq, upd_ne, add_get, result1]
    exact hK _
  | false =>
    refine S.cond (v := true) (by simp (disch := omega) only [run_cons, want_guard, want1_some, want2_bool, want2_undef, beqB_tt, beqB_tf, beqB_ft, beqB_ff, List.getElem?_toArray, List.getElem?_cons_succ, List.getElem?_cons_zero, Int.natCast_add, Int.natCast_one,  run_nil, want_none, opR_read, opR_no, opR_write, putR_some, putR_none, optR_some, seqK_normal, seqK_exit, seqK_ret, blockK_normal, blockK_ret, blockK_exit, w_move, w_assign, w_pick, w_load, w_nilCheck, w_fieldAddr, w_field, w_indexAddr, w_index, w_extract, w_bin, w_un, w_makeFunc, w_alloc, w_box, w_store, w_call, ev_tmp, ev_int, ev_bool, ev_str, ev_func, tget_eq, tget_ne, get_eq, get_ne, rd_move, rd_assign, rd_pick, rd_load, rd_nilCheck, rd_fieldAddr, rd_field, rd_indexAddr, rd_extract, rd_bin, rd_not, rd_makeFunc, rd_slice, rd_len, rd_build, w_len, w_slice, w_build, un_not, pick_t, pick_f, load_ptr, cellsOf_some, partO_some, nilCheck_ptr, extract_tuple, add_nx, add_get, add_fget, ↓reduceIte, Nat.reduceEqDiff,  upd_nx, upd_fams, upd_eq, upd_ne, wr_box, boxR_agg, boxR_int, boxR_str, boxR_func, cells_agg, stR_int, stR_bool, stR_str, st0_some, st1_some, bin_add, bin_sub, bin_mul, bin_lss, bin_leq, bin_gtr, bin_geq, bin_eql, bin_neq, Nat.reduceAdd, Nat.succ_eq_add_one, Nat.zero_add, Nat.add_zero, Nat.mul_one, Nat.zero_mul]; rfl) (fun _ => ?_) (fun e => by cases e)
    refine S.seq (S.region ?_)
    simp (disch := omega) only [run_cons, want_guard, want1_some, want2_bool, want2_undef, beqB_tt, beqB_tf, beqB_ft, beqB_ff, List.getElem?_toArray, List.getElem?_cons_succ, List.getElem?_cons_zero, Int.natCast_add, Int.natCast_one,  run_nil, want_none, opR_read, opR_no, opR_write, putR_some, putR_none, optR_some, seqK_normal, seqK_exit, seqK_ret, blockK_normal, blockK_ret, blockK_exit, w_move, w_assign, w_pick, w_load, w_nilCheck, w_fieldAddr, w_field, w_indexAddr, w_index, w_extract, w_bin, w_un, w_makeFunc, w_alloc, w_box, w_store, w_call, ev_tmp, ev_int, ev_bool, ev_str, ev_func, tget_eq, tget_ne, get_eq, get_ne, rd_move, rd_assign, rd_pick, rd_load, rd_nilCheck, rd_fieldAddr, rd_field, rd_indexAddr, rd_extract, rd_bin, rd_not, rd_makeFunc, rd_slice, rd_len, rd_build, w_len, w_slice, w_build, un_not, pick_t, pick_f, load_ptr, cellsOf_some, partO_some, nilCheck_ptr, extract_tuple, add_nx, add_get, add_fget, ↓reduceIte, Nat.reduceEqDiff,  upd_nx, upd_fams, upd_eq, upd_ne, wr_box, boxR_agg, boxR_int, boxR_str, boxR_func, cells_agg, stR_int, stR_bool, stR_str, st0_some, st1_some, bin_add, bin_sub, bin_mul, bin_lss, bin_leq, bin_gtr, bin_geq, bin_eql, bin_neq, Nat.reduceAdd, Nat.succ_eq_add_one, Nat.zero_add, Nat.add_zero, Nat.mul_one, Nat.zero_mul]
    refine S.ret ?_
    try simp only [seqK_ret, blockK_ret]
    subst hF
    simp only [finish, endMarks]
    rw [show Tryz.f7.results.toList = [.tmp 2, .tmp 3] from rfl]
    simp (disch := omega) only [resA, ev_tmp, tget_ne, tget_eq, get_ne, get_eq, upd_eq, upd_ne, add_get, result1]
    exact hK _

theorem value_row (m : Int) (s : ByteArray) (hs : s.size ≤ 1000) : RowT Tryz.prog (tbs pow10V m) 7 [.string s] (valV (valL s.data.toList)) := by
  refine rowT_of hmixT primC_sound (tbs_lt m) (fn := Tryz.f7) (c := (Tryz.f7.body).getD .skip) (by kernel_rfl) rfl (by kernel_rfl) rfl rfl rfl (fun R S K hK => ?_)
  have hsm := parse_small s.data.toList
  obtain ⟨a, b, c, d, e, h5⟩ := five (parse_len s.data.toList)
  have hv : parseV (ptL s.data.toList) = .tuple #[.agg ⟨[.int .i64 a, .int .i64 b, .int .i64 c, .int .i64 d, .int .i64 e]⟩, .bool (ptL s.data.toList).2] := by
    unfold parseV ptL; rw [h5]; rfl
  refine value_fn_run S (tabH Tryz.prog (tbs pow10V m)) (tabNx m) s a b c d e (valOf (ptL s.data.toList).1) (ptL s.data.toList).2 ?_ (fun h => ?_) K hK
  · rw [← hv]
    show (match tabsOf (tabH Tryz.prog (tbs pow10V m)) with | some _ => bif Nat.ble s.size 1000 then some (parseV (ptL s.data.toList)) else none | none => none) = _
    rw [tabsOf_some (tabT0 m) (tabT1 m)]
    simp only [Nat.ble_eq_true_of_le hs, cond_true]
  · have hall : [a, b, c, d, e].all smallB = true := by
      rw [h5] at hsm
      refine List.all_eq_true.2 fun x hx => ?_
      obtain ⟨h1, h2⟩ := hsm x hx
      simp only [smallB, leI_eq, Bool.and_eq_true, decide_eq_true_eq]
      exact ⟨h1, h2⟩
    show (bif Nat.beq [a, b, c, d, e].length 5 && [a, b, c, d, e].all smallB then some (Value.int .i64 (valOf [a, b, c, d, e])) else none) = _
    rw [hall]
    show (some (Value.int .i64 (valOf [a, b, c, d, e])) : Option Value) = _
    unfold ptL
    rw [h5]
end Go.Proofs
