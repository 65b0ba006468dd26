import Derived.Test.YtemmpnipmklacaaRpH
namespace Go.Proofs.Rg
open Go Go.Ev
set_option linter.unusedSimpArgs false

def soldB (cs : List C4) (l : List Int) (k : Nat) (i : Int) : Bool := (l.take k).any fun j => decide ((cAt cs j).1 = i)
def soldL (cs : List C4) (l : List Int) (k : Nat) : List Value := (List.range 6).map fun (j : Nat) => Value.bool (soldB cs l k (j : Int))
variable {pr : Prim} {R : ExT}
theorem soldL0 (cs : List C4) (l : List Int) : soldL cs l 0 = [.bool false, .bool false, .bool false, .bool false, .bool false, .bool false] := rfl
theorem soldL_len (cs : List C4) (l : List Int) (k : Nat) : (soldL cs l k).length = 6 := by rw [soldL, List.length_map, List.length_range]
theorem soldL_get (cs : List C4) (l : List Int) (k f : Nat) (hf : f < 6) : (soldL cs l k)[f]? = some (.bool (soldB cs l k (f : Int))) := by
  rw [soldL, List.getElem?_map, List.getElem?_range hf]; rfl
theorem soldB_succ (cs : List C4) (l : List Int) (k : Nat) (x : Int) (hx : l[k]? = some x) (i : Int) : soldB cs l (k + 1) i = (soldB cs l k i || decide ((cAt cs x).1 = i)) := by
  unfold soldB
  rw [List.take_add_one, hx, List.any_append]; simp
theorem soldL_set (cs : List C4) (l : List Int) (k f : Nat) (x : Int) (hx : l[k]? = some x) (hf : (cAt cs x).1 = (f : Int)) : (soldL cs l k).set f (.bool true) = soldL cs l (k + 1) := by
  refine List.ext_getElem? fun i => ?_
  by_cases hi : i < 6
  · rw [soldL_get cs l (k + 1) i hi, soldB_succ cs l k x hx, hf]
    by_cases e : f = i
    · subst e
      rw [List.getElem?_set_self (by rw [soldL_len]; exact hi), decide_eq_true rfl, Bool.or_true]
    · rw [List.getElem?_set_ne e, soldL_get cs l k i hi, decide_eq_false (by omega), Bool.or_false]
  · rw [List.getElem?_eq_none (by rw [List.length_set, soldL_len]; omega), List.getElem?_eq_none (by rw [soldL_len]; omega)]
theorem zB6 : zeroOf Try.prog 104 = some (.agg ⟨[.bool false, .bool false, .bool false, .bool false, .bool false, .bool false]⟩) := by kernel_rfl
theorem aB6 : arrOf Try.prog 104 = some (6, 4) := by kernel_rfl
theorem sBool : sizeB Try.prog 4 = some 1 := by kernel_rfl
theorem pBool (c : List Value) (o : Nat) : partL Try.prog 4 c o = c[o]? := by kernel_rfl
def IIR (cs : List C4) (l : List Int) (H : AHeap) (B2 B3 : Nat) (s : Value) (k : Nat) (t : T Value) (h : AHeap) : Prop :=
  k ≤ l.length ∧ Kp H h ∧ H.nx < h.nx ∧ h.bl.get H.nx = some (.cells (soldL cs l k) H.nx false) ∧ h.fams.get H.nx = some [H.nx] ∧ ringB cs l = ((List.range l.length).drop k).all (stepOK cs l) ∧
  tget t 2 = ptr0 B2 ∧ tget t 3 = ptr0 B3 ∧ tget t 5 = iv (l.length : Int) ∧ tget t 6 = ptr0 H.nx ∧ tget t 30 = s ∧ tget t 31 = iv (l.length : Int) ∧ tget t 32 = iv (k : Int)
set_option maxHeartbeats 16000000 in
theorem isRing_y (S : Ev.Steps Try.prog pr R) (hoff : Off pr) (h0 : AHeap) (n : Nat) (hn6 : n ≤ 6) (cv : Value) (cs : List C4) (hc : CAt h0 cv cs) (_hsz : cs.length ≤ 12) (hv : Hs n cs) (s : Value) (l : List Int) (am : Int) (hl : IAt h0 s l) (hl8 : l.length ≤ 8) :
    Brings Try.prog R 54 [.agg ⟨[iv (n : Int), cv]⟩, .agg ⟨[s, iv am]⟩] h0 fun u _ => u = .bool (isRingP cs (l, am)) := by
  refine brings_of (fn := Try.f54) (c := (Try.f54.body).getD .skip) (by kernel_rfl) rfl (by kernel_rfl) rfl (fun K hK => ?_)
  generalize hF : finish Try.prog Try.f54 K = KF
  simp only [Try.f54, Option.getD_some, argsT, setArgs, fV1_eq, T.setK_eq, id]
  have hlen := fun t h1 o => hl.len isI t h1 o
  repeat refine S.seq ?_
  refine S.region ?_
  simp (disch := first | omega | (simp only [add_nx, upd_nx, res_nx, putAt_nx] <;> omega) | decide) only [rUz, ↓reduceIte, Nat.reduceEqDiff, Nat.reduceAdd]
  have hb2 : ((h0.add [iv (n : Int), cv]).add [s, iv am]).bl.get h0.nx = some (.cells [iv (n : Int), cv] h0.nx false) := by simp (disch := first | omega | (simp only [add_nx, upd_nx, res_nx, putAt_nx] <;> omega) | decide) only [ag_ne, ag_eq]
  have hb3 : ((h0.add [iv (n : Int), cv]).add [s, iv am]).bl.get (h0.nx + 1) = some (.cells [s, iv am] (h0.nx + 1) false) := by simp (disch := first | omega | (simp only [add_nx, upd_nx, res_nx, putAt_nx] <;> omega) | decide) only [ag_ne, ag_eq]
  have hk1 : Kp h0 ((h0.add [iv (n : Int), cv]).add [s, iv am]) := Kp.refl.add.add
  have hlt : h0.nx + 1 < ((h0.add [iv (n : Int), cv]).add [s, iv am]).nx := Nat.lt_succ_self _
  generalize (h0.add [iv (n : Int), cv]).add [s, iv am] = H1 at hb2 hb3 hk1 hlt ⊢
  repeat refine S.seq ?_
  refine S.region ?_
  simp (disch := first | omega | (simp only [add_nx, upd_nx, res_nx, putAt_nx] <;> omega) | decide) only [rUz, ↓reduceIte, Nat.reduceEqDiff, Nat.reduceAdd, hb3, fieldAddr_ptr fRp0 sI1, pI1, hlen]
  have hbS := fun (h' : AHeap) (_ : Kp H1 h') (x : Int) (_ : x ∈ l) => hasContract_y S h' n cv cs
  by_cases hl2 : (l.length : Int) < 2
  · have e : isRingP cs (l, am) = false := by unfold isRingP; rw [decide_eq_true hl2]; rfl
    rw [e] at hK
    repeat refine S.seq ?_
    refine S.region ?_
    simp (disch := first | omega | (simp only [add_nx, upd_nx, res_nx, putAt_nx] <;> omega) | decide) only [rUz, ↓reduceIte, Nat.reduceEqDiff, Nat.reduceAdd, decide_eq_true hl2]
    repeat refine S.seq ?_
    refine S.cond (v := true) (by first | rfl | (simp (disch := first | omega | (simp only [add_nx, upd_nx, res_nx, putAt_nx] <;> omega) | decide) only [rUz, ↓reduceIte, Nat.reduceEqDiff, Nat.reduceAdd] <;> rfl)) (fun _ => ?_) (fun e => by cases e)
    repeat refine S.seq ?_
    refine S.region ?_
    simp (disch := first | omega | (simp only [add_nx, upd_nx, res_nx, putAt_nx] <;> omega) | decide) only [rUz, ↓reduceIte, Nat.reduceEqDiff, Nat.reduceAdd]
    refine S.ret ?_
    try simp only [seqK_ret, blockK_ret]
    subst hF
    simp only [finish, endMarks]
    rw [show Try.f54.results.toList = [.tmp 4] from rfl]
    simp (disch := first | omega | (simp only [add_nx, upd_nx, res_nx, putAt_nx] <;> omega) | decide) only [resA, ev_tmp, tget_ne, tget_eq, get_ne, get_eq, upd_eq, upd_ne, ag_eq, ag_ne, result1]
    exact hK _ _ hk1 rfl
  by_cases hr1 : am < 1
  · have e : isRingP cs (l, am) = false := by unfold isRingP; rw [decide_eq_true hr1, Bool.or_true]; rfl
    rw [e] at hK
    repeat refine S.seq ?_
    refine S.region ?_
    simp (disch := first | omega | (simp only [add_nx, upd_nx, res_nx, putAt_nx] <;> omega) | decide) only [rUz, ↓reduceIte, Nat.reduceEqDiff, Nat.reduceAdd, decide_eq_false hl2, hb3, fieldAddr_ptr fRp1 s3, p3, decide_eq_true hr1]
    repeat refine S.seq ?_
    refine S.cond (v := true) (by first | rfl | (simp (disch := first | omega | (simp only [add_nx, upd_nx, res_nx, putAt_nx] <;> omega) | decide) only [rUz, ↓reduceIte, Nat.reduceEqDiff, Nat.reduceAdd] <;> rfl)) (fun _ => ?_) (fun e => by cases e)
    repeat refine S.seq ?_
    refine S.region ?_
    simp (disch := first | omega | (simp only [add_nx, upd_nx, res_nx, putAt_nx] <;> omega) | decide) only [rUz, ↓reduceIte, Nat.reduceEqDiff, Nat.reduceAdd]
    refine S.ret ?_
    try simp only [seqK_ret, blockK_ret]
    subst hF
    simp only [finish, endMarks]
    rw [show Try.f54.results.toList = [.tmp 4] from rfl]
    simp (disch := first | omega | (simp only [add_nx, upd_nx, res_nx, putAt_nx] <;> omega) | decide) only [resA, ev_tmp, tget_ne, tget_eq, get_ne, get_eq, upd_eq, upd_ne, ag_eq, ag_ne, result1]
    exact hK _ _ hk1 rfl
  have e0 : isRingP cs (l, am) = (l.all (inC cs) && ringB cs l) := by unfold isRingP; rw [decide_eq_false hl2, decide_eq_false hr1]; rfl
  rw [e0] at hK
  clear e0
  repeat refine S.seq ?_
  refine S.region ?_
  simp (disch := first | omega | (simp only [add_nx, upd_nx, res_nx, putAt_nx] <;> omega) | decide) only [rUz, ↓reduceIte, Nat.reduceEqDiff, Nat.reduceAdd, decide_eq_false hl2, hb2, hb3, fieldAddr_ptr fRp0 sI1, pI1, fieldAddr_ptr fRp1 s3, p3, decide_eq_false hr1, pB]
  refine wr_brings (fid := 71) (first := #[]) (captured := #[]) (Post := fun u _ => u = .bool (l.all (inC cs))) rfl (hoff _ _ _ rfl) (by simp (disch := first | omega | (simp only [add_nx, upd_nx, res_nx, putAt_nx] <;> omega) | decide) only [rUz, ↓reduceIte, Nat.reduceEqDiff, Nat.reduceAdd]; exact allI_y S hoff H1 s l (hl.mono hk1) (by omega) 76 rfl #[.agg ⟨[iv (n : Int), cv]⟩] (inC cs) (fun h' hk' x _ => hasContract_y S h' n cv cs (hc.mono (hk1.trans hk')) x)) ?_
  rintro u g hk rfl
  have hkk := hk1.trans hk
  have hb2' := (hk.get (by omega)).trans hb2
  have hb3' := (hk.get hlt).trans hb3
  have hlt' := Nat.lt_of_lt_of_le hlt hk.1
  cases hal : l.all (inC cs) with
  | false =>
    rw [hal, Bool.false_and] at hK
    simp (disch := first | omega | (simp only [add_nx, upd_nx, res_nx, putAt_nx] <;> omega) | decide) only [rUz, ↓reduceIte, Nat.reduceEqDiff, Nat.reduceAdd, hal, un_not, Bool.not_false]
    repeat refine S.seq ?_
    refine S.cond (v := true) (by first | rfl | (simp (disch := first | omega | (simp only [add_nx, upd_nx, res_nx, putAt_nx] <;> omega) | decide) only [rUz, ↓reduceIte, Nat.reduceEqDiff, Nat.reduceAdd] <;> rfl)) (fun _ => ?_) (fun e => by cases e)
    repeat refine S.seq ?_
    refine S.region ?_
    simp (disch := first | omega | (simp only [add_nx, upd_nx, res_nx, putAt_nx] <;> omega) | decide) only [rUz, ↓reduceIte, Nat.reduceEqDiff, Nat.reduceAdd]
    refine S.ret ?_
    try simp only [seqK_ret, blockK_ret]
    subst hF
    simp only [finish, endMarks]
    rw [show Try.f54.results.toList = [.tmp 4] from rfl]
    simp (disch := first | omega | (simp only [add_nx, upd_nx, res_nx, putAt_nx] <;> omega) | decide) only [resA, ev_tmp, tget_ne, tget_eq, get_ne, get_eq, upd_eq, upd_ne, ag_eq, ag_ne, result1]
    exact hK _ _ hkk rfl
  | true =>
  rw [hal, Bool.true_and] at hK
  simp (disch := first | omega | (simp only [add_nx, upd_nx, res_nx, putAt_nx] <;> omega) | decide) only [rUz, ↓reduceIte, Nat.reduceEqDiff, Nat.reduceAdd, hal, un_not, Bool.not_true]
  repeat refine S.seq ?_
  refine S.cond (v := false) (by first | rfl | (simp (disch := first | omega | (simp only [add_nx, upd_nx, res_nx, putAt_nx] <;> omega) | decide) only [rUz, ↓reduceIte, Nat.reduceEqDiff, Nat.reduceAdd] <;> rfl)) (fun e => by cases e) (fun _ => ?_)
  repeat refine S.seq ?_
  refine S.skip ?_
  simp (disch := first | omega | (simp only [add_nx, upd_nx, res_nx, putAt_nx] <;> omega) | decide) only [rUz, ↓reduceIte, Nat.reduceEqDiff, Nat.reduceAdd]
  repeat refine S.seq ?_
  refine S.region ?_
  simp (disch := first | omega | (simp only [add_nx, upd_nx, res_nx, putAt_nx] <;> omega) | decide) only [rUz, ↓reduceIte, Nat.reduceEqDiff, Nat.reduceAdd, wr_alloc zB6]
  have hb3'' := (ag_ne (c := [Value.bool false, .bool false, .bool false, .bool false, .bool false, .bool false]) (h := g) (B := h0.nx + 1) (by omega)).trans hb3'
  repeat refine S.seq ?_
  refine S.region ?_
  simp (disch := first | omega | (simp only [add_nx, upd_nx, res_nx, putAt_nx] <;> omega) | decide) only [rUz, ↓reduceIte, Nat.reduceEqDiff, Nat.reduceAdd, hb3'', fieldAddr_ptr fRp0 sI1, pI1, hlen]
  repeat refine S.seq ?_
  refine S.block ?_
  refine S.loop (ι := Nat) (IIR cs l g h0.nx (h0.nx + 1) s) (fun k => l.length - k) ?_ 0 _ _ ?_
  · intro k t h ⟨hk0, hkp, hnx, hb6, hf6, hrg, t2, t3, t5, t6, t30, t31, t32⟩ K' hn he
    repeat refine S.seq ?_
    refine S.region ?_
    simp (disch := first | omega | (simp only [add_nx, upd_nx, res_nx, putAt_nx] <;> omega) | decide) only [rUz, ↓reduceIte, Nat.reduceEqDiff, Nat.reduceAdd, t31, t32]
    repeat refine S.seq ?_
    refine S.cond (v := decide ((k : Int) < (l.length : Int))) (by first | rfl | (simp (disch := first | omega | (simp only [add_nx, upd_nx, res_nx, putAt_nx] <;> omega) | decide) only [rUz, ↓reduceIte, Nat.reduceEqDiff, Nat.reduceAdd] <;> rfl)) (fun e => ?_) (fun e => ?_)
    · have hkn : k < l.length := by have := of_decide_eq_true e; omega
      clear e
      have hlh := hl.mono (hkk.trans hkp)
      obtain ⟨b, f, ro, q1, q2, q3, q4⟩ := hlh.idx slI s3' hkn
      have hx : l[k]? = some l[k] := List.getElem?_eq_getElem hkn
      have hgd : l.getD k 0 = l[k] := by rw [List.getD_eq_getElem?_getD, hx]; rfl
      have hin := List.all_eq_true.1 hal _ (List.getElem_mem hkn)
      obtain ⟨i, hi, hci⟩ := cAt_get hin
      have hm : (k + 1) % l.length < l.length := Nat.mod_lt _ (by omega)
      have hy : l[(k + 1) % l.length]? = some l[(k + 1) % l.length] := List.getElem?_eq_getElem hm
      have hgy : l.getD ((k + 1) % l.length) 0 = l[(k + 1) % l.length] := by rw [List.getD_eq_getElem?_getD, hy]; rfl
      obtain ⟨j, hj, hcj⟩ := cAt_get (List.all_eq_true.1 hal _ (List.getElem_mem hm))
      have hst : stepOK cs l k = (decide ((cAt cs l[k]).2.1 = (cAt cs l[(k + 1) % l.length]).1) && !(soldB cs l k (cAt cs l[k]).1)) := by
        unfold stepOK soldB; rw [hgd, hgy]
      rw [range_drop_all _ _ _ hkn, hst] at hrg
      obtain ⟨⟨fn, tn, hfr, hto, hfn, htn, _⟩, _⟩ := hv _ (List.mem_of_getElem? hci)
      have hset := soldL_set cs l k fn _ hx hfr
      have hget := soldL_get cs l k fn (by omega)
      rw [hfr] at hrg
      rw [hj] at hy
      generalize cAt cs l[(k + 1) % l.length] = d at hcj hrg
      generalize cAt cs l[k] = c at hci hfr hto hrg hset
      rw [hi] at q4
      clear hst hgd hgy
      repeat refine S.seq ?_
      refine S.skip ?_
      simp (disch := first | omega | (simp only [add_nx, upd_nx, res_nx, putAt_nx] <;> omega) | decide) only [rUz, ↓reduceIte, Nat.reduceEqDiff, Nat.reduceAdd]
      repeat refine S.seq ?_
      refine S.block ?_
      repeat refine S.seq ?_
      refine S.region ?_
      simp (disch := first | omega | (simp only [add_nx, upd_nx, res_nx, putAt_nx] <;> omega) | decide) only [rUz, ↓reduceIte, Nat.reduceEqDiff, Nat.reduceAdd, t30, t32, q1, q3, q4, p3]
      refine S.seq ?_
      refine at_ops' (o := rOps 8) (by kernel_rfl) ?_
      refine pair_y S h n cv s am cs (hc.mono (hkk.trans hkp)) l hlh (by omega) hl8 h0.nx (h0.nx + 1) (by have := hkp.1; omega) (by have := hkp.1; omega) ((hkp.get (by omega)).trans hb2') ((hkp.get hlt').trans hb3') k i j hkn c d hci hy hcj _ (by simp (disch := first | omega | (simp only [add_nx, upd_nx, res_nx, putAt_nx] <;> omega) | decide) only [rUz, ↓reduceIte, Nat.reduceEqDiff, Nat.reduceAdd, t2]) (by simp (disch := first | omega | (simp only [add_nx, upd_nx, res_nx, putAt_nx] <;> omega) | decide) only [rUz, ↓reduceIte, Nat.reduceEqDiff, Nat.reduceAdd, t3]) (by simp (disch := first | omega | (simp only [add_nx, upd_nx, res_nx, putAt_nx] <;> omega) | decide) only [rUz, ↓reduceIte, Nat.reduceEqDiff, Nat.reduceAdd, t5]) (by simp (disch := first | omega | (simp only [add_nx, upd_nx, res_nx, putAt_nx] <;> omega) | decide) only [rUz, ↓reduceIte, Nat.reduceEqDiff, Nat.reduceAdd]) (by simp (disch := first | omega | (simp only [add_nx, upd_nx, res_nx, putAt_nx] <;> omega) | decide) only [rUz, ↓reduceIte, Nat.reduceEqDiff, Nat.reduceAdd]) _ ?_
      intro t' h2 a1 b9 b10 a4 fr t9 t10
      have u2 := (fr 2 (by omega) (by omega) (by omega)).trans (by simp (disch := first | omega | (simp only [add_nx, upd_nx, res_nx, putAt_nx] <;> omega) | decide) only [rUz, ↓reduceIte, Nat.reduceEqDiff, Nat.reduceAdd, t2] : _ = ptr0 h0.nx)
      have u3' := (fr 3 (by omega) (by omega) (by omega)).trans (by simp (disch := first | omega | (simp only [add_nx, upd_nx, res_nx, putAt_nx] <;> omega) | decide) only [rUz, ↓reduceIte, Nat.reduceEqDiff, Nat.reduceAdd, t3] : _ = ptr0 (h0.nx + 1))
      have u5 := (fr 5 (by omega) (by omega) (by omega)).trans (by simp (disch := first | omega | (simp only [add_nx, upd_nx, res_nx, putAt_nx] <;> omega) | decide) only [rUz, ↓reduceIte, Nat.reduceEqDiff, Nat.reduceAdd, t5] : _ = iv (l.length : Int))
      have u6 := (fr 6 (by omega) (by omega) (by omega)).trans (by simp (disch := first | omega | (simp only [add_nx, upd_nx, res_nx, putAt_nx] <;> omega) | decide) only [rUz, ↓reduceIte, Nat.reduceEqDiff, Nat.reduceAdd, t6] : _ = ptr0 g.nx)
      have u30 := (fr 30 (by omega) (by omega) (by omega)).trans (by simp (disch := first | omega | (simp only [add_nx, upd_nx, res_nx, putAt_nx] <;> omega) | decide) only [rUz, ↓reduceIte, Nat.reduceEqDiff, Nat.reduceAdd, t30] : _ = s)
      have u31 := (fr 31 (by omega) (by omega) (by omega)).trans (by simp (disch := first | omega | (simp only [add_nx, upd_nx, res_nx, putAt_nx] <;> omega) | decide) only [rUz, ↓reduceIte, Nat.reduceEqDiff, Nat.reduceAdd, t31] : _ = iv (l.length : Int))
      have u32 := (fr 32 (by omega) (by omega) (by omega)).trans (by simp (disch := first | omega | (simp only [add_nx, upd_nx, res_nx, putAt_nx] <;> omega) | decide) only [rUz, ↓reduceIte, Nat.reduceEqDiff, Nat.reduceAdd, t32] : _ = iv (k : Int))
      have hb6' := (a1.get hnx).trans hb6
      have hf6' := (a1.fget hnx).trans hf6
      have hkp' := hkp.trans a1
      have hix := fun (kd : IntKind) => indexAddr_arr (P := Try.prog) (B := g.nx) (off := 0) (kd := kd) aB6 sBool (show fn < 6 by omega)
      simp only [Nat.zero_add, Nat.mul_one] at hix
      clear fr t2 t3 t5 t6 t30 t31 t32 hb6 hf6
      by_cases hne : c.2.1 = d.1
      · have hd : (!decide (c.2.1 = d.1)) = false := by rw [decide_eq_true hne]; rfl
        have hd' : (!decide (d.1 = c.2.1)) = false := by rw [decide_eq_true hne.symm]; rfl
        rw [decide_eq_true hne, Bool.true_and] at hrg
        cases hsb : soldB cs l k (fn : Int) with
        | true =>
          rw [hsb] at hget hrg
          rw [hrg] at hK
          repeat refine S.seq ?_
          refine S.region ?_
          simp (disch := first | omega | (simp only [add_nx, upd_nx, res_nx, putAt_nx] <;> omega) | decide) only [rUz, ↓reduceIte, Nat.reduceEqDiff, Nat.reduceAdd, t9, t10, u6, b9, b10, cc, fieldAddr_ptr fL0 s3, fieldAddr_ptr fL1 s3, p3, List.getElem?_cons_zero, List.getElem?_cons_succ, hd, hd', hfr, hix, hb6', hget, pBool]
          repeat refine S.seq ?_
          refine S.cond (v := true) (by first | rfl | (simp (disch := first | omega | (simp only [add_nx, upd_nx, res_nx, putAt_nx] <;> omega) | decide) only [rUz, ↓reduceIte, Nat.reduceEqDiff, Nat.reduceAdd] <;> rfl)) (fun _ => ?_) (fun e => by cases e)
          repeat refine S.seq ?_
          refine S.region ?_
          simp (disch := first | omega | (simp only [add_nx, upd_nx, res_nx, putAt_nx] <;> omega) | decide) only [rUz, ↓reduceIte, Nat.reduceEqDiff, Nat.reduceAdd]
          refine S.ret ?_
          simp only [seqK_ret, blockK_ret]
          refine he _ _ _ _ (fun e => by cases e) ?_
          simp only [seqK_ret, blockK_ret]
          subst hF
          simp only [finish, endMarks]
          rw [show Try.f54.results.toList = [.tmp 4] from rfl]
          simp (disch := omega) only [resA, ev_tmp, tget_ne, tget_eq, result1]
          exact hK _ _ (hkk.trans hkp') rfl
        | false =>
          rw [hsb, Bool.not_false, Bool.true_and] at hrg
          rw [hsb] at hget
          repeat refine S.seq ?_
          refine S.region ?_
          simp (disch := first | omega | (simp only [add_nx, upd_nx, res_nx, putAt_nx] <;> omega) | decide) only [rUz, ↓reduceIte, Nat.reduceEqDiff, Nat.reduceAdd, t9, t10, u6, b9, b10, cc, fieldAddr_ptr fL0 s3, fieldAddr_ptr fL1 s3, p3, List.getElem?_cons_zero, List.getElem?_cons_succ, hd, hd', hfr, hix, hb6', hget, pBool]
          repeat refine S.seq ?_
          refine S.cond (v := false) (by first | rfl | (simp (disch := first | omega | (simp only [add_nx, upd_nx, res_nx, putAt_nx] <;> omega) | decide) only [rUz, ↓reduceIte, Nat.reduceEqDiff, Nat.reduceAdd] <;> rfl)) (fun e => by cases e) (fun _ => ?_)
          repeat refine S.seq ?_
          refine S.skip ?_
          simp (disch := first | omega | (simp only [add_nx, upd_nx, res_nx, putAt_nx] <;> omega) | decide) only [rUz, ↓reduceIte, Nat.reduceEqDiff, Nat.reduceAdd]
          repeat refine S.seq ?_
          refine S.region ?_
          simp (disch := first | omega | (simp only [add_nx, upd_nx, res_nx, putAt_nx] <;> omega) | decide) only [rUz, ↓reduceIte, Nat.reduceEqDiff, Nat.reduceAdd, t9, u6, b9, cc, fieldAddr_ptr fL0 s3, p3, List.getElem?_cons_zero, hfr, hix]
          refine wr_store sBool ?_
          have h6 : fn < (soldL cs l k).length := by rw [soldL_len]; omega
          simp (disch := first | omega | (simp only [add_nx, upd_nx, res_nx, putAt_nx] <;> omega) | decide) only [rUz, ↓reduceIte, Nat.reduceEqDiff, Nat.reduceAdd, stR_bool, hb6', hf6']
          rw [hset]
          repeat refine S.seq ?_
          refine S.region ?_
          simp (disch := first | omega | (simp only [add_nx, upd_nx, res_nx, putAt_nx] <;> omega) | decide) only [rUz, ↓reduceIte, Nat.reduceEqDiff, Nat.reduceAdd, u32]
          refine hn (k + 1) _ _ (by omega) ⟨by omega, hkp'.upd (by omega), Nat.lt_of_lt_of_le hnx a1.1, upd_eq _ _ _, hf6', hrg, ?_, ?_, ?_, ?_, ?_, ?_, ?_⟩
          all_goals (first | rfl | (simp (disch := first | omega | (simp only [add_nx, upd_nx, res_nx, putAt_nx] <;> omega) | decide) only [rUz, ↓reduceIte, Nat.reduceEqDiff, Nat.reduceAdd, u2, u3', u5, u6, u30, u31, u32]; done) | (simp (disch := first | omega | (simp only [add_nx, upd_nx, res_nx, putAt_nx] <;> omega) | decide) only [rUz, ↓reduceIte, Nat.reduceEqDiff, Nat.reduceAdd, u2, u3', u5, u6, u30, u31, u32]; rfl))
      · have hd : (!decide (c.2.1 = d.1)) = true := by rw [decide_eq_false hne]; rfl
        have hd' : (!decide (d.1 = c.2.1)) = true := by rw [decide_eq_false fun e => hne e.symm]; rfl
        rw [decide_eq_false hne, Bool.false_and] at hrg
        rw [hrg] at hK
        repeat refine S.seq ?_
        refine S.region ?_
        simp (disch := first | omega | (simp only [add_nx, upd_nx, res_nx, putAt_nx] <;> omega) | decide) only [rUz, ↓reduceIte, Nat.reduceEqDiff, Nat.reduceAdd, t9, t10, u6, b9, b10, cc, fieldAddr_ptr fL0 s3, fieldAddr_ptr fL1 s3, p3, List.getElem?_cons_zero, List.getElem?_cons_succ, hd, hd']
        repeat refine S.seq ?_
        refine S.cond (v := true) (by first | rfl | (simp (disch := first | omega | (simp only [add_nx, upd_nx, res_nx, putAt_nx] <;> omega) | decide) only [rUz, ↓reduceIte, Nat.reduceEqDiff, Nat.reduceAdd] <;> rfl)) (fun _ => ?_) (fun e => by cases e)
        repeat refine S.seq ?_
        refine S.region ?_
        simp (disch := first | omega | (simp only [add_nx, upd_nx, res_nx, putAt_nx] <;> omega) | decide) only [rUz, ↓reduceIte, Nat.reduceEqDiff, Nat.reduceAdd]
        refine S.ret ?_
        simp only [seqK_ret, blockK_ret]
        refine he _ _ _ _ (fun e => by cases e) ?_
        simp only [seqK_ret, blockK_ret]
        subst hF
        simp only [finish, endMarks]
        rw [show Try.f54.results.toList = [.tmp 4] from rfl]
        simp (disch := omega) only [resA, ev_tmp, tget_ne, tget_eq, result1]
        exact hK _ _ (hkk.trans hkp') rfl
    · have hkn : k = l.length := by have := of_decide_eq_false e; omega
      subst hkn
      rw [List.drop_of_length_le (by rw [List.length_range]; omega), List.all_nil] at hrg
      rw [hrg] at hK
      refine S.exit (he _ _ _ _ (fun e => by cases e) ?_)
      simp (disch := first | omega | (simp only [add_nx, upd_nx, res_nx, putAt_nx] <;> omega) | decide) only [rUz, ↓reduceIte, Nat.reduceEqDiff, Nat.reduceAdd]
      repeat refine S.seq ?_
      refine S.region ?_
      simp (disch := first | omega | (simp only [add_nx, upd_nx, res_nx, putAt_nx] <;> omega) | decide) only [rUz, ↓reduceIte, Nat.reduceEqDiff, Nat.reduceAdd]
      refine S.ret ?_
      try simp only [seqK_ret, blockK_ret]
      subst hF
      simp only [finish, endMarks]
      rw [show Try.f54.results.toList = [.tmp 4] from rfl]
      simp (disch := first | omega | (simp only [add_nx, upd_nx, res_nx, putAt_nx] <;> omega) | decide) only [resA, ev_tmp, tget_ne, tget_eq, get_ne, get_eq, upd_eq, upd_ne, ag_eq, ag_ne, result1]
      exact hK _ _ (hkk.trans hkp) rfl
  · refine ⟨Nat.zero_le _, Kp.refl.add, Nat.lt_succ_self _, ?_, ?_, rfl, ?_, ?_, ?_, ?_, ?_, ?_, ?_⟩
    · rw [soldL0]; exact ag_eq rfl
    · exact af_eq rfl
    all_goals (first | rfl | (simp (disch := first | omega | (simp only [add_nx, upd_nx, res_nx, putAt_nx] <;> omega) | decide) only [rUz, ↓reduceIte, Nat.reduceEqDiff, Nat.reduceAdd]; done) | (simp (disch := first | omega | (simp only [add_nx, upd_nx, res_nx, putAt_nx] <;> omega) | decide) only [rUz, ↓reduceIte, Nat.reduceEqDiff, Nat.reduceAdd]; rfl))
end Go.Proofs.Rg
