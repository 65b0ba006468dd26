import Derived.Test.YtemmpnipmklacaaRpJ
namespace Go.Proofs.Rg
open Go Go.Ev
set_option linter.unusedSimpArgs false
variable {pr : Prim} {R : ExT}
/-! ## lists.All over the rings -/
theorem pRp0 (a b : Value) : partL Try.prog 72 [a, b] 0 = some (.agg ⟨[a, b]⟩) := by kernel_rfl
theorem pFr (c : List Value) (o : Nat) : partL Try.prog 86 c o = c[o]? := by kernel_rfl
set_option maxHeartbeats 4000000 in
theorem closR_y (S : Ev.Steps Try.prog pr R) (hoff : Off pr) (h : AHeap) (Bf f : Nat) (ro : Bool) (G : FuncId) (hG : offB G = true) (first : Array Value) (s : Value) (c : R2) (b : Bool) (hb : h.bl.get Bf = some (.cells [.func (.func G) first #[]] f ro))
    (hq : ∀ h', Kp h h' → Brings Try.prog R G (first.toList ++ [.agg ⟨[s, iv c.2]⟩]) h' fun u _ => u = .bool b) (hlt : Bf < h.nx) :
    Brings Try.prog R 75 [.agg ⟨[s, iv c.2]⟩, ptr0 Bf] h fun u _ => u = .bool (!b) := by
  refine brings_of (fn := Try.f75) (c := (Try.f75.body).getD .skip) (by kernel_rfl) rfl (by kernel_rfl) rfl (fun K hK => ?_)
  generalize hF : finish Try.prog Try.f75 K = KF
  simp only [Try.f75, Option.getD_some, argsT, setArgs, fV1_eq, T.setK_eq, id]
  repeat refine S.seq ?_
  refine S.region ?_
  simp (disch := first | omega | (simp only [add_nx, upd_nx, res_nx, putAt_nx] <;> omega) | decide) only [rUz, ↓reduceIte, Nat.reduceEqDiff, Nat.reduceAdd]
  have hbx : (h.add [s, iv c.2]).bl.get Bf = some (.cells [.func (.func G) first #[]] f ro) := by rw [ag_ne (by omega)]; exact hb
  repeat refine S.seq ?_
  refine S.region ?_
  simp (disch := first | omega | (simp only [add_nx, upd_nx, res_nx, putAt_nx] <;> omega) | decide) only [rUz, ↓reduceIte, Nat.reduceEqDiff, Nat.reduceAdd, hbx, pFr, pRp0]
  refine wr_brings (fid := G) (first := first) (captured := #[]) (Post := fun u _ => u = .bool b) (by simp (disch := first | omega | (simp only [add_nx, upd_nx, res_nx, putAt_nx] <;> omega) | decide) only [rUz, ↓reduceIte, Nat.reduceEqDiff, Nat.reduceAdd]) (hoff _ _ _ hG) (by simp (disch := first | omega | (simp only [add_nx, upd_nx, res_nx, putAt_nx] <;> omega) | decide) only [rUz, ↓reduceIte, Nat.reduceEqDiff, Nat.reduceAdd]; exact hq _ Kp.refl.add) ?_
  rintro u g hk rfl
  simp (disch := first | omega | (simp only [add_nx, upd_nx, res_nx, putAt_nx] <;> omega) | decide) only [rUz, ↓reduceIte, Nat.reduceEqDiff, Nat.reduceAdd, un_not]
  refine S.ret ?_
  try simp only [seqK_ret, blockK_ret]
  subst hF
  simp only [finish, endMarks]
  rw [show Try.f75.results.toList = [.tmp 3] from rfl]
  simp (disch := first | omega | (simp only [add_nx, upd_nx, res_nx, putAt_nx] <;> omega) | decide) only [resA, ev_tmp, tget_ne, tget_eq, get_ne, get_eq, upd_eq, upd_ne, ag_eq, ag_ne, result1]
  exact hK _ _ (Kp.refl.add.trans hk) rfl

def IXr (q : R2 → Bool) (cs : List R2) (H : AHeap) (cv fv : Value) (k : Nat) (t : T Value) (h : AHeap) : Prop :=
  k ≤ cs.length ∧ firstBad q cs 0 = firstBad q (cs.drop k) k ∧ Kp H h ∧ tget t 0 = cv ∧ tget t 1 = fv ∧ tget t 7 = iv (cs.length : Int) ∧ tget t 8 = iv (k : Int)

set_option maxHeartbeats 4000000 in
theorem idxR_y (S : Ev.Steps Try.prog pr R) (hoff : Off pr) (h0 : AHeap) (cv : Value) (cs : List R2) (hc : RA IAt h0 cv cs) (hsz : (cs.length : Int) ≤ 1000000) (Bf f : Nat) (ro : Bool) (G : FuncId) (hG : offB G = true) (first : Array Value) (q : R2 → Bool) (hlt : Bf < h0.nx) (hb : h0.bl.get Bf = some (.cells [.func (.func G) first #[]] f ro))
    (hq : ∀ h', Kp h0 h' → ∀ s c, c ∈ cs → IAt h' s c.1 → Brings Try.prog R G (first.toList ++ [.agg ⟨[s, iv c.2]⟩]) h' fun u _ => u = .bool (q c)) :
    Brings Try.prog R 91 [cv, .func (.func 75) #[] #[ptr0 Bf]] h0 fun u _ => u = iv (firstBad q cs 0) := by
  refine brings_of (fn := Try.f91) (c := (Try.f91.body).getD .skip) (by kernel_rfl) rfl (by kernel_rfl) rfl (fun K hK => ?_)
  generalize hF : finish Try.prog Try.f91 K = KF
  simp only [Try.f91, Option.getD_some, argsT, setArgs, fV1_eq, T.setK_eq, id]
  have hlen := fun t h1 o => hc.len isRp t h1 o
  repeat refine S.seq ?_
  refine S.region ?_
  simp (disch := first | omega | (simp only [add_nx, upd_nx, res_nx, putAt_nx] <;> omega) | decide) only [rUz, ↓reduceIte, Nat.reduceEqDiff, Nat.reduceAdd]
  repeat refine S.seq ?_
  refine S.region ?_
  simp (disch := first | omega | (simp only [add_nx, upd_nx, res_nx, putAt_nx] <;> omega) | decide) only [rUz, ↓reduceIte, Nat.reduceEqDiff, Nat.reduceAdd, hlen]
  repeat refine S.seq ?_
  refine S.block ?_
  refine S.loop (ι := Nat) (IXr q cs h0 cv (.func (.func 75) #[] #[ptr0 Bf])) (fun k => cs.length - k) ?_ 0 _ _ ?_
  · intro k t h ⟨hk, hfb, hkp, t0, t1, t7, t8⟩ K' hn he
    repeat refine S.seq ?_
    refine S.region ?_
    simp (disch := first | omega | (simp only [add_nx, upd_nx, res_nx, putAt_nx] <;> omega) | decide) only [rUz, ↓reduceIte, Nat.reduceEqDiff, Nat.reduceAdd, t7, t8]
    repeat refine S.seq ?_
    refine S.cond (v := decide ((k : Int) < (cs.length : Int))) (by first | rfl | (simp (disch := first | omega | (simp only [add_nx, upd_nx, res_nx, putAt_nx] <;> omega) | decide) only [rUz, ↓reduceIte, Nat.reduceEqDiff, Nat.reduceAdd] <;> rfl)) (fun e => ?_) (fun e => ?_)
    · have hkn : k < cs.length := by have := of_decide_eq_true e; omega
      clear e
      have hps : cs[k]? = some cs[k] := List.getElem?_eq_getElem hkn
      have hmem : cs[k] ∈ cs := List.getElem_mem hkn
      rw [List.drop_eq_getElem_cons hkn] at hfb
      simp only [firstBad] at hfb
      generalize cs[k] = c at hps hmem hfb
      obtain ⟨b, f2, ro2, cells, s, q1, q2, q3, q4, q5, q6, q7, q8⟩ := hc.idx slRp sRp hps
      have q3 := (hkp.get q2).trans q3
      have qp := part_rc pRp q4 q5
      repeat refine S.seq ?_
      refine S.skip ?_
      simp (disch := first | omega | (simp only [add_nx, upd_nx, res_nx, putAt_nx] <;> omega) | decide) only [rUz, ↓reduceIte, Nat.reduceEqDiff, Nat.reduceAdd]
      repeat refine S.seq ?_
      refine S.block ?_
      repeat refine S.seq ?_
      refine S.region ?_
      simp (disch := first | omega | (simp only [add_nx, upd_nx, res_nx, putAt_nx] <;> omega) | decide) only [rUz, ↓reduceIte, Nat.reduceEqDiff, Nat.reduceAdd, t8]
      repeat refine S.seq ?_
      refine S.region ?_
      simp (disch := first | omega | (simp only [add_nx, upd_nx, res_nx, putAt_nx] <;> omega) | decide) only [rUz, ↓reduceIte, Nat.reduceEqDiff, Nat.reduceAdd, t0, t1, t8, q1, q3, qp]
      refine wr_brings (fid := 75) (first := #[]) (captured := #[ptr0 Bf]) (Post := fun u _ => u = .bool (!(q c))) (by simp (disch := first | omega | (simp only [add_nx, upd_nx, res_nx, putAt_nx] <;> omega) | decide) only [rUz, ↓reduceIte, Nat.reduceEqDiff, Nat.reduceAdd, t1]) (hoff _ _ _ rfl) (by simp (disch := first | omega | (simp only [add_nx, upd_nx, res_nx, putAt_nx] <;> omega) | decide) only [rUz, ↓reduceIte, Nat.reduceEqDiff, Nat.reduceAdd]; exact closR_y S hoff h Bf f ro G hG first s c (q c) ((hkp.get hlt).trans hb) (fun h' hk' => hq h' (hkp.trans hk') s c hmem (q8.mono (hkp.trans hk'))) (Nat.lt_of_lt_of_le hlt hkp.1)) ?_
      rintro u g hk2 rfl
      simp (disch := first | omega | (simp only [add_nx, upd_nx, res_nx, putAt_nx] <;> omega) | decide) only [rUz, ↓reduceIte, Nat.reduceEqDiff, Nat.reduceAdd]
      cases hqp : q c with
      | true =>
        rw [hqp, cond_true] at hfb
        repeat refine S.seq ?_
        refine S.cond (v := false) (by first | rfl | (simp (disch := first | omega | (simp only [add_nx, upd_nx, res_nx, putAt_nx] <;> omega) | decide) only [rUz, ↓reduceIte, Nat.reduceEqDiff, Nat.reduceAdd, hqp, Bool.not_true] <;> rfl)) (fun e => by cases e) (fun _ => ?_)
        repeat refine S.seq ?_
        refine S.skip ?_
        simp (disch := first | omega | (simp only [add_nx, upd_nx, res_nx, putAt_nx] <;> omega) | decide) only [rUz, ↓reduceIte, Nat.reduceEqDiff, Nat.reduceAdd]
        repeat refine S.seq ?_
        refine S.region ?_
        simp (disch := first | omega | (simp only [add_nx, upd_nx, res_nx, putAt_nx] <;> omega) | decide) only [rUz, ↓reduceIte, Nat.reduceEqDiff, Nat.reduceAdd, t8]
        refine hn (k + 1) _ _ (by omega) ⟨by omega, hfb, hkp.trans hk2, ?_, ?_, ?_, ?_⟩
        all_goals (first | rfl | (simp (disch := first | omega | (simp only [add_nx, upd_nx, res_nx, putAt_nx] <;> omega) | decide) only [rUz, ↓reduceIte, Nat.reduceEqDiff, Nat.reduceAdd, t0, t1, t7, t8]; done) | (simp (disch := first | omega | (simp only [add_nx, upd_nx, res_nx, putAt_nx] <;> omega) | decide) only [rUz, ↓reduceIte, Nat.reduceEqDiff, Nat.reduceAdd, t0, t1, t7, t8]; rfl))
      | false =>
        rw [hqp, cond_false] at hfb
        repeat refine S.seq ?_
        refine S.cond (v := true) (by first | rfl | (simp (disch := first | omega | (simp only [add_nx, upd_nx, res_nx, putAt_nx] <;> omega) | decide) only [rUz, ↓reduceIte, Nat.reduceEqDiff, Nat.reduceAdd, hqp, Bool.not_false] <;> rfl)) (fun _ => ?_) (fun e => by cases e)
        repeat refine S.seq ?_
        refine S.region ?_
        simp (disch := first | omega | (simp only [add_nx, upd_nx, res_nx, putAt_nx] <;> omega) | decide) only [rUz, ↓reduceIte, Nat.reduceEqDiff, Nat.reduceAdd, t8]
        refine S.ret ?_
        simp only [seqK_ret, blockK_ret]
        refine he _ _ _ _ (fun e => by cases e) ?_
        simp only [seqK_ret, blockK_ret]
        subst hF
        simp only [finish, endMarks]
        rw [show Try.f91.results.toList = [.tmp 4] from rfl]
        simp (disch := omega) only [resA, ev_tmp, tget_ne, tget_eq, result1]
        exact hK _ _ (hkp.trans hk2) (by rw [hfb])
    · have hkn : k = cs.length := by have := of_decide_eq_false e; omega
      subst hkn
      rw [List.drop_of_length_le (Nat.le_refl _)] at hfb
      refine S.exit (he _ _ _ _ (fun e => by cases e) ?_)
      simp (disch := first | omega | (simp only [add_nx, upd_nx, res_nx, putAt_nx] <;> omega) | decide) only [rUz, ↓reduceIte, Nat.reduceEqDiff, Nat.reduceAdd]
      repeat refine S.seq ?_
      refine S.region ?_
      simp (disch := first | omega | (simp only [add_nx, upd_nx, res_nx, putAt_nx] <;> omega) | decide) only [rUz, ↓reduceIte, Nat.reduceEqDiff, Nat.reduceAdd]
      refine S.ret ?_
      try simp only [seqK_ret, blockK_ret]
      subst hF
      simp only [finish, endMarks]
      rw [show Try.f91.results.toList = [.tmp 4] from rfl]
      simp (disch := first | omega | (simp only [add_nx, upd_nx, res_nx, putAt_nx] <;> omega) | decide) only [resA, ev_tmp, tget_ne, tget_eq, get_ne, get_eq, upd_eq, upd_ne, ag_eq, ag_ne, result1]
      exact hK _ _ hkp (by rw [hfb]; rfl)
  · refine ⟨Nat.zero_le _, rfl, Kp.refl, ?_, ?_, ?_, ?_⟩
    all_goals (first | rfl | (simp (disch := first | omega | (simp only [add_nx, upd_nx, res_nx, putAt_nx] <;> omega) | decide) only [rUz, ↓reduceIte, Nat.reduceEqDiff, Nat.reduceAdd]; done) | (simp (disch := first | omega | (simp only [add_nx, upd_nx, res_nx, putAt_nx] <;> omega) | decide) only [rUz, ↓reduceIte, Nat.reduceEqDiff, Nat.reduceAdd]; rfl))

set_option maxHeartbeats 4000000 in
theorem allR_y (S : Ev.Steps Try.prog pr R) (hoff : Off pr) (h0 : AHeap) (cv : Value) (cs : List R2) (hc : RA IAt h0 cv cs) (hsz : (cs.length : Int) ≤ 1000000) (G : FuncId) (hG : offB G = true) (first : Array Value) (q : R2 → Bool)
    (hq : ∀ h', Kp h0 h' → ∀ s c, c ∈ cs → IAt h' s c.1 → Brings Try.prog R G (first.toList ++ [.agg ⟨[s, iv c.2]⟩]) h' fun u _ => u = .bool (q c)) :
    Brings Try.prog R 53 [cv, .func (.func G) first #[]] h0 fun u _ => u = .bool (cs.all q) := by
  refine brings_of (fn := Try.f53) (c := (Try.f53.body).getD .skip) (by kernel_rfl) rfl (by kernel_rfl) rfl (fun K hK => ?_)
  generalize hF : finish Try.prog Try.f53 K = KF
  simp only [Try.f53, Option.getD_some, argsT, setArgs, fV1_eq, T.setK_eq, id]
  repeat refine S.seq ?_
  refine S.region ?_
  simp (disch := first | omega | (simp only [add_nx, upd_nx, res_nx, putAt_nx] <;> omega) | decide) only [rUz, ↓reduceIte, Nat.reduceEqDiff, Nat.reduceAdd]
  repeat refine S.seq ?_
  refine S.region ?_
  simp (disch := first | omega | (simp only [add_nx, upd_nx, res_nx, putAt_nx] <;> omega) | decide) only [rUz, ↓reduceIte, Nat.reduceEqDiff, Nat.reduceAdd]
  have hidx := idxR_y S hoff (h0.add [.func (.func G) first #[]]) cv cs (hc.mono IAt.mono Kp.refl.add) hsz h0.nx h0.nx false G hG first q (Nat.lt_succ_self _) (ag_eq rfl) (fun h' hk => hq h' (Kp.refl.add.trans hk))
  have hcf : Brings Try.prog R 74 [cv, .func (.func 75) #[] #[ptr0 h0.nx]] (h0.add [.func (.func G) first #[]]) fun u _ => u = .bool (!(cs.all q)) := by
    clear hK hF K KF
    refine brings_of (fn := Try.f74) (c := (Try.f74.body).getD .skip) (by kernel_rfl) rfl (by kernel_rfl) rfl (fun K hK => ?_)
    generalize hF : finish Try.prog Try.f74 K = KF
    simp only [Try.f74, Option.getD_some, argsT, setArgs, fV1_eq, T.setK_eq, id]
    repeat refine S.seq ?_
    refine S.region ?_
    simp (disch := first | omega | (simp only [add_nx, upd_nx, res_nx, putAt_nx] <;> omega) | decide) only [rUz, ↓reduceIte, Nat.reduceEqDiff, Nat.reduceAdd]
    repeat refine S.seq ?_
    refine S.region ?_
    simp (disch := first | omega | (simp only [add_nx, upd_nx, res_nx, putAt_nx] <;> omega) | decide) only [rUz, ↓reduceIte, Nat.reduceEqDiff, Nat.reduceAdd]
    refine wr_brings (fid := 91) (first := #[]) (captured := #[]) (Post := fun u _ => u = iv (firstBad q cs 0)) rfl (hoff _ _ _ rfl) (by simp (disch := first | omega | (simp only [add_nx, upd_nx, res_nx, putAt_nx] <;> omega) | decide) only [rUz, ↓reduceIte, Nat.reduceEqDiff, Nat.reduceAdd]; exact hidx) ?_
    rintro u g hk rfl
    simp (disch := first | omega | (simp only [add_nx, upd_nx, res_nx, putAt_nx] <;> omega) | decide) only [rUz, ↓reduceIte, Nat.reduceEqDiff, Nat.reduceAdd, firstBad_ge q cs 0 (Int.le_refl _)]
    refine S.ret ?_
    try simp only [seqK_ret, blockK_ret]
    subst hF
    simp only [finish, endMarks]
    rw [show Try.f74.results.toList = [.tmp 4] from rfl]
    simp (disch := first | omega | (simp only [add_nx, upd_nx, res_nx, putAt_nx] <;> omega) | decide) only [resA, ev_tmp, tget_ne, tget_eq, get_ne, get_eq, upd_eq, upd_ne, ag_eq, ag_ne, result1]
    exact hK _ _ hk rfl
  refine wr_brings (fid := 74) (first := #[]) (captured := #[]) (Post := fun u _ => u = .bool (!(cs.all q))) rfl (hoff _ _ _ rfl) (by simp (disch := first | omega | (simp only [add_nx, upd_nx, res_nx, putAt_nx] <;> omega) | decide) only [rUz, ↓reduceIte, Nat.reduceEqDiff, Nat.reduceAdd]; exact hcf) ?_
  rintro u g hk rfl
  simp (disch := first | omega | (simp only [add_nx, upd_nx, res_nx, putAt_nx] <;> omega) | decide) only [rUz, ↓reduceIte, Nat.reduceEqDiff, Nat.reduceAdd, un_not, Bool.not_not]
  refine S.ret ?_
  try simp only [seqK_ret, blockK_ret]
  subst hF
  simp only [finish, endMarks]
  rw [show Try.f53.results.toList = [.tmp 4] from rfl]
  simp (disch := first | omega | (simp only [add_nx, upd_nx, res_nx, putAt_nx] <;> omega) | decide) only [resA, ev_tmp, tget_ne, tget_eq, get_ne, get_eq, upd_eq, upd_ne, ag_eq, ag_ne, result1]
  exact hK _ _ (Kp.refl.add.trans hk) rfl
end Go.Proofs.Rg
