import Derived.Test.YtfbkgnojdngiiaaMh8
/- lists.All over days, loans, ranges; slices.EqualFunc. -/
namespace Go.Proofs.Mg
open Go Go.Ev Go.RowKit
set_option linter.unusedSimpArgs false
variable {pr : Prim} {R : ExT}
theorem pFcD (c : List Value) (o : Nat) : partL Try.prog 141 c o = c[o]? := by kernel_rfl
set_option maxHeartbeats 4000000 in
theorem closcD_y (S : Ev.Steps Try.prog pr R) (hoff : Off pr) (h : AHeap) (Bf f : Nat) (ro : Bool) (G : FuncId) (hG : offB G = true) (first : Array Value) (c : PD) (b : Bool) (hb : h.bl.get Bf = some (.cells [.func (.func G) first #[]] f ro))
    (hq : ∀ h', Kp h h' → Brings Try.prog R G (first.toList ++ [.agg ⟨cD c⟩]) h' fun u _ => u = .bool b) (hlt : Bf < h.nx) :
    Brings Try.prog R 95 [.agg ⟨cD c⟩, ptr0 Bf] h fun u _ => u = .bool (!b) := by
  refine brings_of (fn := Try.f95) (c := (Try.f95.body).getD .skip) (by kernel_rfl) rfl (by kernel_rfl) rfl (fun K hK => ?_)
  generalize hF : finish Try.prog Try.f95 K = KF
  simp only [Try.f95, Option.getD_some, argsT, setArgs, fV1_eq, T.setK_eq, id]
  repeat refine S.seq ?_
  refine S.region ?_
  simp (disch := first | omega | (simp only [add_nx, upd_nx] <;> omega) | decide) only [rUz, ↓reduceIte, Nat.reduceEqDiff, Nat.reduceAdd]
  have hbx : (h.add (cD c)).bl.get Bf = some (.cells [.func (.func G) first #[]] f ro) := by rw [ag_ne (by omega)]; exact hb
  repeat refine S.seq ?_
  refine S.region ?_
  simp (disch := first | omega | (simp only [add_nx, upd_nx] <;> omega) | decide) only [rUz, ↓reduceIte, Nat.reduceEqDiff, Nat.reduceAdd, hbx, pFcD, part_0 pcD (cD_len c)]
  refine wr_brings (fid := G) (first := first) (captured := #[]) (Post := fun u _ => u = .bool b) (by simp (disch := first | omega | (simp only [add_nx, upd_nx] <;> omega) | decide) only [rUz, ↓reduceIte, Nat.reduceEqDiff, Nat.reduceAdd]) (hoff _ _ _ hG) (by simp (disch := first | omega | (simp only [add_nx, upd_nx] <;> omega) | decide) only [rUz, ↓reduceIte, Nat.reduceEqDiff, Nat.reduceAdd]; exact hq _ Kp.refl.add) ?_
  rintro u g hk rfl
  simp (disch := first | omega | (simp only [add_nx, upd_nx] <;> omega) | decide) only [rUz, ↓reduceIte, Nat.reduceEqDiff, Nat.reduceAdd, un_not]
  refine S.ret ?_
  try simp only [seqK_ret, blockK_ret]
  subst hF
  simp only [finish, endMarks]
  rw [show Try.f95.results.toList = [.tmp 3] from rfl]
  simp (disch := first | omega | (simp only [add_nx, upd_nx] <;> omega) | decide) only [resA, ev_tmp, tget_ne, tget_eq, get_ne, get_eq, upd_eq, upd_ne, ag_eq, ag_ne, result1]
  exact hK _ _ (Kp.refl.add.trans hk) rfl

def IXcD (q : PD → Bool) (cs : List (PD)) (H : AHeap) (cv fv : Value) (k : Nat) (t : T Value) (h : AHeap) : Prop :=
  k ≤ cs.length ∧ firstBad q cs 0 = firstBad q (cs.drop k) k ∧ Kp H h ∧ tget t 0 = cv ∧ tget t 1 = fv ∧ tget t 7 = iv (cs.length : Int) ∧ tget t 8 = iv (k : Int)

set_option maxHeartbeats 4000000 in
theorem idxcD_y (S : Ev.Steps Try.prog pr R) (hoff : Off pr) (h0 : AHeap) (cv : Value) (cs : List (PD)) (hc : SlAt h0 3 cv (cs.map cD)) (hsz : (cs.length : Int) ≤ 1000000) (Bf f : Nat) (ro : Bool) (G : FuncId) (hG : offB G = true) (first : Array Value) (q : PD → Bool) (hlt : Bf < h0.nx) (hb : h0.bl.get Bf = some (.cells [.func (.func G) first #[]] f ro))
    (hq : ∀ h', Kp h0 h' → ∀ c, c ∈ cs → Brings Try.prog R G (first.toList ++ [.agg ⟨cD c⟩]) h' fun u _ => u = .bool (q c)) :
    Brings Try.prog R 104 [cv, .func (.func 95) #[] #[ptr0 Bf]] h0 fun u _ => u = iv (firstBad q cs 0) := by
  refine brings_of (fn := Try.f104) (c := (Try.f104.body).getD .skip) (by kernel_rfl) rfl (by kernel_rfl) rfl (fun K hK => ?_)
  generalize hF : finish Try.prog Try.f104 K = KF
  simp only [Try.f104, Option.getD_some, argsT, setArgs, fV1_eq, T.setK_eq, id]
  have hlen := fun t h1 o => row_len hc iscD t h1 o
  repeat refine S.seq ?_
  refine S.region ?_
  simp (disch := first | omega | (simp only [add_nx, upd_nx] <;> omega) | decide) only [rUz, ↓reduceIte, Nat.reduceEqDiff, Nat.reduceAdd]
  repeat refine S.seq ?_
  refine S.region ?_
  simp (disch := first | omega | (simp only [add_nx, upd_nx] <;> omega) | decide) only [rUz, ↓reduceIte, Nat.reduceEqDiff, Nat.reduceAdd, hlen]
  repeat refine S.seq ?_
  refine S.block ?_
  refine S.loop (ι := Nat) (IXcD q cs h0 cv (.func (.func 95) #[] #[ptr0 Bf])) (fun k => cs.length - k) ?_ 0 _ _ ?_
  · intro k t h ⟨hk, hfb, hkp, t0, t1, t7, t8⟩ K' hn he
    repeat refine S.seq ?_
    refine S.region ?_
    simp (disch := first | omega | (simp only [add_nx, upd_nx] <;> omega) | decide) only [rUz, ↓reduceIte, Nat.reduceEqDiff, Nat.reduceAdd, t7, t8]
    repeat refine S.seq ?_
    refine S.cond (v := decide ((k : Int) < (cs.length : Int))) (by first | rfl | (simp (disch := first | omega | (simp only [add_nx, upd_nx] <;> omega) | decide) only [rUz, ↓reduceIte, Nat.reduceEqDiff, Nat.reduceAdd] <;> rfl)) (fun e => ?_) (fun e => ?_)
    · have hkn : k < cs.length := by have := of_decide_eq_true e; omega
      clear e
      have hps : cs[k]? = some cs[k] := List.getElem?_eq_getElem hkn
      have hmem : cs[k] ∈ cs := List.getElem_mem hkn
      rw [List.drop_eq_getElem_cons hkn] at hfb
      simp only [firstBad] at hfb
      generalize cs[k] = c at hps hmem hfb
      obtain ⟨b, f2, ro2, cells, q1, q2, q3, q4, q5, _⟩ := row_idx (SlAt.mono hc hkp) slcD scD hps
      have qp := part_at pcD q4 q5
      repeat refine S.seq ?_
      refine S.skip ?_
      simp (disch := first | omega | (simp only [add_nx, upd_nx] <;> omega) | decide) only [rUz, ↓reduceIte, Nat.reduceEqDiff, Nat.reduceAdd]
      repeat refine S.seq ?_
      refine S.block ?_
      repeat refine S.seq ?_
      refine S.region ?_
      simp (disch := first | omega | (simp only [add_nx, upd_nx] <;> omega) | decide) only [rUz, ↓reduceIte, Nat.reduceEqDiff, Nat.reduceAdd, t8]
      repeat refine S.seq ?_
      refine S.region ?_
      simp (disch := first | omega | (simp only [add_nx, upd_nx] <;> omega) | decide) only [rUz, ↓reduceIte, Nat.reduceEqDiff, Nat.reduceAdd, t0, t1, t8, q1, q3, qp]
      refine wr_brings (fid := 95) (first := #[]) (captured := #[ptr0 Bf]) (Post := fun u _ => u = .bool (!(q c))) (by simp (disch := first | omega | (simp only [add_nx, upd_nx] <;> omega) | decide) only [rUz, ↓reduceIte, Nat.reduceEqDiff, Nat.reduceAdd, t1]) (hoff _ _ _ rfl) (by simp (disch := first | omega | (simp only [add_nx, upd_nx] <;> omega) | decide) only [rUz, ↓reduceIte, Nat.reduceEqDiff, Nat.reduceAdd]; exact closcD_y S hoff h Bf f ro G hG first c (q c) ((hkp.get hlt).trans hb) (fun h' hk' => hq h' (hkp.trans hk') c hmem) (Nat.lt_of_lt_of_le hlt hkp.1)) ?_
      rintro u g hk2 rfl
      simp (disch := first | omega | (simp only [add_nx, upd_nx] <;> omega) | decide) only [rUz, ↓reduceIte, Nat.reduceEqDiff, Nat.reduceAdd]
      cases hqp : q c with
      | true =>
        rw [hqp, cond_true] at hfb
        repeat refine S.seq ?_
        refine S.cond (v := false) (by first | rfl | (simp (disch := first | omega | (simp only [add_nx, upd_nx] <;> omega) | decide) only [rUz, ↓reduceIte, Nat.reduceEqDiff, Nat.reduceAdd, hqp, Bool.not_true] <;> rfl)) (fun e => by cases e) (fun _ => ?_)
        repeat refine S.seq ?_
        refine S.skip ?_
        simp (disch := first | omega | (simp only [add_nx, upd_nx] <;> omega) | decide) only [rUz, ↓reduceIte, Nat.reduceEqDiff, Nat.reduceAdd]
        repeat refine S.seq ?_
        refine S.region ?_
        simp (disch := first | omega | (simp only [add_nx, upd_nx] <;> omega) | decide) only [rUz, ↓reduceIte, Nat.reduceEqDiff, Nat.reduceAdd, t8]
        refine hn (k + 1) _ _ (by omega) ⟨by omega, hfb, hkp.trans hk2, ?_, ?_, ?_, ?_⟩
        all_goals (first | rfl | (simp (disch := first | omega | (simp only [add_nx, upd_nx] <;> omega) | decide) only [rUz, ↓reduceIte, Nat.reduceEqDiff, Nat.reduceAdd, t0, t1, t7, t8]; done) | (simp (disch := first | omega | (simp only [add_nx, upd_nx] <;> omega) | decide) only [rUz, ↓reduceIte, Nat.reduceEqDiff, Nat.reduceAdd, t0, t1, t7, t8]; rfl))
      | false =>
        rw [hqp, cond_false] at hfb
        repeat refine S.seq ?_
        refine S.cond (v := true) (by first | rfl | (simp (disch := first | omega | (simp only [add_nx, upd_nx] <;> omega) | decide) only [rUz, ↓reduceIte, Nat.reduceEqDiff, Nat.reduceAdd, hqp, Bool.not_false] <;> rfl)) (fun _ => ?_) (fun e => by cases e)
        repeat refine S.seq ?_
        refine S.region ?_
        simp (disch := first | omega | (simp only [add_nx, upd_nx] <;> omega) | decide) only [rUz, ↓reduceIte, Nat.reduceEqDiff, Nat.reduceAdd, t8]
        refine S.ret ?_
        simp only [seqK_ret, blockK_ret]
        refine he _ _ _ _ (fun e => by cases e) ?_
        try simp only [seqK_ret, blockK_ret]
        subst hF
        simp only [finish, endMarks]
        rw [show Try.f104.results.toList = [.tmp 4] from rfl]
        simp (disch := first | omega | (simp only [add_nx, upd_nx] <;> omega) | decide) only [resA, ev_tmp, tget_ne, tget_eq, get_ne, get_eq, upd_eq, upd_ne, ag_eq, ag_ne, result1]
        exact hK _ _ (hkp.trans hk2) (by rw [hfb])
    · have hkn : k = cs.length := by have := of_decide_eq_false e; omega
      subst hkn
      rw [List.drop_of_length_le (Nat.le_refl _)] at hfb
      refine S.exit (he _ _ _ _ (fun e => by cases e) ?_)
      simp (disch := first | omega | (simp only [add_nx, upd_nx] <;> omega) | decide) only [rUz, ↓reduceIte, Nat.reduceEqDiff, Nat.reduceAdd]
      repeat refine S.seq ?_
      refine S.region ?_
      simp (disch := first | omega | (simp only [add_nx, upd_nx] <;> omega) | decide) only [rUz, ↓reduceIte, Nat.reduceEqDiff, Nat.reduceAdd]
      refine S.ret ?_
      try simp only [seqK_ret, blockK_ret]
      subst hF
      simp only [finish, endMarks]
      rw [show Try.f104.results.toList = [.tmp 4] from rfl]
      simp (disch := first | omega | (simp only [add_nx, upd_nx] <;> omega) | decide) only [resA, ev_tmp, tget_ne, tget_eq, get_ne, get_eq, upd_eq, upd_ne, ag_eq, ag_ne, result1]
      exact hK _ _ hkp (by rw [hfb]; rfl)
  · refine ⟨Nat.zero_le _, rfl, Kp.refl, ?_, ?_, ?_, ?_⟩
    all_goals (first | rfl | (simp (disch := first | omega | (simp only [add_nx, upd_nx] <;> omega) | decide) only [rUz, ↓reduceIte, Nat.reduceEqDiff, Nat.reduceAdd]; done) | (simp (disch := first | omega | (simp only [add_nx, upd_nx] <;> omega) | decide) only [rUz, ↓reduceIte, Nat.reduceEqDiff, Nat.reduceAdd]; rfl))

set_option maxHeartbeats 4000000 in
theorem allcD_y (S : Ev.Steps Try.prog pr R) (hoff : Off pr) (h0 : AHeap) (cv : Value) (cs : List (PD)) (hc : SlAt h0 3 cv (cs.map cD)) (hsz : (cs.length : Int) ≤ 1000000) (G : FuncId) (hG : offB G = true) (first : Array Value) (q : PD → Bool)
    (hq : ∀ h', Kp h0 h' → ∀ c, c ∈ cs → Brings Try.prog R G (first.toList ++ [.agg ⟨cD c⟩]) h' fun u _ => u = .bool (q c)) :
    Brings Try.prog R 82 [cv, .func (.func G) first #[]] h0 fun u _ => u = .bool (cs.all q) := by
  refine brings_of (fn := Try.f82) (c := (Try.f82.body).getD .skip) (by kernel_rfl) rfl (by kernel_rfl) rfl (fun K hK => ?_)
  generalize hF : finish Try.prog Try.f82 K = KF
  simp only [Try.f82, Option.getD_some, argsT, setArgs, fV1_eq, T.setK_eq, id]
  repeat refine S.seq ?_
  refine S.region ?_
  simp (disch := first | omega | (simp only [add_nx, upd_nx] <;> omega) | decide) only [rUz, ↓reduceIte, Nat.reduceEqDiff, Nat.reduceAdd]
  repeat refine S.seq ?_
  refine S.region ?_
  simp (disch := first | omega | (simp only [add_nx, upd_nx] <;> omega) | decide) only [rUz, ↓reduceIte, Nat.reduceEqDiff, Nat.reduceAdd]
  have hidx := idxcD_y S hoff (h0.add [.func (.func G) first #[]]) cv cs (SlAt.mono hc Kp.refl.add) hsz h0.nx h0.nx false G hG first q (Nat.lt_succ_self _) (ag_eq rfl) (fun h' hk => hq h' (Kp.refl.add.trans hk))
  have hcf : Brings Try.prog R 94 [cv, .func (.func 95) #[] #[ptr0 h0.nx]] (h0.add [.func (.func G) first #[]]) fun u _ => u = .bool (!(cs.all q)) := by
    clear hK hF K KF
    refine brings_of (fn := Try.f94) (c := (Try.f94.body).getD .skip) (by kernel_rfl) rfl (by kernel_rfl) rfl (fun K hK => ?_)
    generalize hF : finish Try.prog Try.f94 K = KF
    simp only [Try.f94, Option.getD_some, argsT, setArgs, fV1_eq, T.setK_eq, id]
    repeat refine S.seq ?_
    refine S.region ?_
    simp (disch := first | omega | (simp only [add_nx, upd_nx] <;> omega) | decide) only [rUz, ↓reduceIte, Nat.reduceEqDiff, Nat.reduceAdd]
    repeat refine S.seq ?_
    refine S.region ?_
    simp (disch := first | omega | (simp only [add_nx, upd_nx] <;> omega) | decide) only [rUz, ↓reduceIte, Nat.reduceEqDiff, Nat.reduceAdd]
    refine wr_brings (fid := 104) (first := #[]) (captured := #[]) (Post := fun u _ => u = iv (firstBad q cs 0)) rfl (hoff _ _ _ rfl) (by simp (disch := first | omega | (simp only [add_nx, upd_nx] <;> omega) | decide) only [rUz, ↓reduceIte, Nat.reduceEqDiff, Nat.reduceAdd]; exact hidx) ?_
    rintro u g hk rfl
    simp (disch := first | omega | (simp only [add_nx, upd_nx] <;> omega) | decide) only [rUz, ↓reduceIte, Nat.reduceEqDiff, Nat.reduceAdd, firstBad_ge q cs 0 (Int.le_refl _)]
    refine S.ret ?_
    try simp only [seqK_ret, blockK_ret]
    subst hF
    simp only [finish, endMarks]
    rw [show Try.f94.results.toList = [.tmp 4] from rfl]
    simp (disch := first | omega | (simp only [add_nx, upd_nx] <;> omega) | decide) only [resA, ev_tmp, tget_ne, tget_eq, get_ne, get_eq, upd_eq, upd_ne, ag_eq, ag_ne, result1]
    exact hK _ _ hk rfl
  refine wr_brings (fid := 94) (first := #[]) (captured := #[]) (Post := fun u _ => u = .bool (!(cs.all q))) rfl (hoff _ _ _ rfl) (by simp (disch := first | omega | (simp only [add_nx, upd_nx] <;> omega) | decide) only [rUz, ↓reduceIte, Nat.reduceEqDiff, Nat.reduceAdd]; exact hcf) ?_
  rintro u g hk rfl
  simp (disch := first | omega | (simp only [add_nx, upd_nx] <;> omega) | decide) only [rUz, ↓reduceIte, Nat.reduceEqDiff, Nat.reduceAdd, un_not, Bool.not_not]
  refine S.ret ?_
  try simp only [seqK_ret, blockK_ret]
  subst hF
  simp only [finish, endMarks]
  rw [show Try.f82.results.toList = [.tmp 4] from rfl]
  simp (disch := first | omega | (simp only [add_nx, upd_nx] <;> omega) | decide) only [resA, ev_tmp, tget_ne, tget_eq, get_ne, get_eq, upd_eq, upd_ne, ag_eq, ag_ne, result1]
  exact hK _ _ (Kp.refl.add.trans hk) rfl

theorem pFcL (c : List Value) (o : Nat) : partL Try.prog 143 c o = c[o]? := by kernel_rfl
set_option maxHeartbeats 4000000 in
theorem closcL_y (S : Ev.Steps Try.prog pr R) (hoff : Off pr) (h : AHeap) (Bf f : Nat) (ro : Bool) (G : FuncId) (hG : offB G = true) (first : Array Value) (c : PL) (b : Bool) (hb : h.bl.get Bf = some (.cells [.func (.func G) first #[]] f ro))
    (hq : ∀ h', Kp h h' → Brings Try.prog R G (first.toList ++ [.agg ⟨cL c⟩]) h' fun u _ => u = .bool b) (hlt : Bf < h.nx) :
    Brings Try.prog R 100 [.agg ⟨cL c⟩, ptr0 Bf] h fun u _ => u = .bool (!b) := by
  refine brings_of (fn := Try.f100) (c := (Try.f100.body).getD .skip) (by kernel_rfl) rfl (by kernel_rfl) rfl (fun K hK => ?_)
  generalize hF : finish Try.prog Try.f100 K = KF
  simp only [Try.f100, Option.getD_some, argsT, setArgs, fV1_eq, T.setK_eq, id]
  repeat refine S.seq ?_
  refine S.region ?_
  simp (disch := first | omega | (simp only [add_nx, upd_nx] <;> omega) | decide) only [rUz, ↓reduceIte, Nat.reduceEqDiff, Nat.reduceAdd]
  have hbx : (h.add (cL c)).bl.get Bf = some (.cells [.func (.func G) first #[]] f ro) := by rw [ag_ne (by omega)]; exact hb
  repeat refine S.seq ?_
  refine S.region ?_
  simp (disch := first | omega | (simp only [add_nx, upd_nx] <;> omega) | decide) only [rUz, ↓reduceIte, Nat.reduceEqDiff, Nat.reduceAdd, hbx, pFcL, part_0 pcL (cL_len c)]
  refine wr_brings (fid := G) (first := first) (captured := #[]) (Post := fun u _ => u = .bool b) (by simp (disch := first | omega | (simp only [add_nx, upd_nx] <;> omega) | decide) only [rUz, ↓reduceIte, Nat.reduceEqDiff, Nat.reduceAdd]) (hoff _ _ _ hG) (by simp (disch := first | omega | (simp only [add_nx, upd_nx] <;> omega) | decide) only [rUz, ↓reduceIte, Nat.reduceEqDiff, Nat.reduceAdd]; exact hq _ Kp.refl.add) ?_
  rintro u g hk rfl
  simp (disch := first | omega | (simp only [add_nx, upd_nx] <;> omega) | decide) only [rUz, ↓reduceIte, Nat.reduceEqDiff, Nat.reduceAdd, un_not]
  refine S.ret ?_
  try simp only [seqK_ret, blockK_ret]
  subst hF
  simp only [finish, endMarks]
  rw [show Try.f100.results.toList = [.tmp 3] from rfl]
  simp (disch := first | omega | (simp only [add_nx, upd_nx] <;> omega) | decide) only [resA, ev_tmp, tget_ne, tget_eq, get_ne, get_eq, upd_eq, upd_ne, ag_eq, ag_ne, result1]
  exact hK _ _ (Kp.refl.add.trans hk) rfl

def IXcL (q : PL → Bool) (cs : List (PL)) (H : AHeap) (cv fv : Value) (k : Nat) (t : T Value) (h : AHeap) : Prop :=
  k ≤ cs.length ∧ firstBad q cs 0 = firstBad q (cs.drop k) k ∧ Kp H h ∧ tget t 0 = cv ∧ tget t 1 = fv ∧ tget t 7 = iv (cs.length : Int) ∧ tget t 8 = iv (k : Int)

set_option maxHeartbeats 4000000 in
theorem idxcL_y (S : Ev.Steps Try.prog pr R) (hoff : Off pr) (h0 : AHeap) (cv : Value) (cs : List (PL)) (hc : SlAt h0 3 cv (cs.map cL)) (hsz : (cs.length : Int) ≤ 1000000) (Bf f : Nat) (ro : Bool) (G : FuncId) (hG : offB G = true) (first : Array Value) (q : PL → Bool) (hlt : Bf < h0.nx) (hb : h0.bl.get Bf = some (.cells [.func (.func G) first #[]] f ro))
    (hq : ∀ h', Kp h0 h' → ∀ c, c ∈ cs → Brings Try.prog R G (first.toList ++ [.agg ⟨cL c⟩]) h' fun u _ => u = .bool (q c)) :
    Brings Try.prog R 107 [cv, .func (.func 100) #[] #[ptr0 Bf]] h0 fun u _ => u = iv (firstBad q cs 0) := by
  refine brings_of (fn := Try.f107) (c := (Try.f107.body).getD .skip) (by kernel_rfl) rfl (by kernel_rfl) rfl (fun K hK => ?_)
  generalize hF : finish Try.prog Try.f107 K = KF
  simp only [Try.f107, Option.getD_some, argsT, setArgs, fV1_eq, T.setK_eq, id]
  have hlen := fun t h1 o => row_len hc iscL t h1 o
  repeat refine S.seq ?_
  refine S.region ?_
  simp (disch := first | omega | (simp only [add_nx, upd_nx] <;> omega) | decide) only [rUz, ↓reduceIte, Nat.reduceEqDiff, Nat.reduceAdd]
  repeat refine S.seq ?_
  refine S.region ?_
  simp (disch := first | omega | (simp only [add_nx, upd_nx] <;> omega) | decide) only [rUz, ↓reduceIte, Nat.reduceEqDiff, Nat.reduceAdd, hlen]
  repeat refine S.seq ?_
  refine S.block ?_
  refine S.loop (ι := Nat) (IXcL q cs h0 cv (.func (.func 100) #[] #[ptr0 Bf])) (fun k => cs.length - k) ?_ 0 _ _ ?_
  · intro k t h ⟨hk, hfb, hkp, t0, t1, t7, t8⟩ K' hn he
    repeat refine S.seq ?_
    refine S.region ?_
    simp (disch := first | omega | (simp only [add_nx, upd_nx] <;> omega) | decide) only [rUz, ↓reduceIte, Nat.reduceEqDiff, Nat.reduceAdd, t7, t8]
    repeat refine S.seq ?_
    refine S.cond (v := decide ((k : Int) < (cs.length : Int))) (by first | rfl | (simp (disch := first | omega | (simp only [add_nx, upd_nx] <;> omega) | decide) only [rUz, ↓reduceIte, Nat.reduceEqDiff, Nat.reduceAdd] <;> rfl)) (fun e => ?_) (fun e => ?_)
    · have hkn : k < cs.length := by have := of_decide_eq_true e; omega
      clear e
      have hps : cs[k]? = some cs[k] := List.getElem?_eq_getElem hkn
      have hmem : cs[k] ∈ cs := List.getElem_mem hkn
      rw [List.drop_eq_getElem_cons hkn] at hfb
      simp only [firstBad] at hfb
      generalize cs[k] = c at hps hmem hfb
      obtain ⟨b, f2, ro2, cells, q1, q2, q3, q4, q5, _⟩ := row_idx (SlAt.mono hc hkp) slcL scL hps
      have qp := part_at pcL q4 q5
      repeat refine S.seq ?_
      refine S.skip ?_
      simp (disch := first | omega | (simp only [add_nx, upd_nx] <;> omega) | decide) only [rUz, ↓reduceIte, Nat.reduceEqDiff, Nat.reduceAdd]
      repeat refine S.seq ?_
      refine S.block ?_
      repeat refine S.seq ?_
      refine S.region ?_
      simp (disch := first | omega | (simp only [add_nx, upd_nx] <;> omega) | decide) only [rUz, ↓reduceIte, Nat.reduceEqDiff, Nat.reduceAdd, t8]
      repeat refine S.seq ?_
      refine S.region ?_
      simp (disch := first | omega | (simp only [add_nx, upd_nx] <;> omega) | decide) only [rUz, ↓reduceIte, Nat.reduceEqDiff, Nat.reduceAdd, t0, t1, t8, q1, q3, qp]
      refine wr_brings (fid := 100) (first := #[]) (captured := #[ptr0 Bf]) (Post := fun u _ => u = .bool (!(q c))) (by simp (disch := first | omega | (simp only [add_nx, upd_nx] <;> omega) | decide) only [rUz, ↓reduceIte, Nat.reduceEqDiff, Nat.reduceAdd, t1]) (hoff _ _ _ rfl) (by simp (disch := first | omega | (simp only [add_nx, upd_nx] <;> omega) | decide) only [rUz, ↓reduceIte, Nat.reduceEqDiff, Nat.reduceAdd]; exact closcL_y S hoff h Bf f ro G hG first c (q c) ((hkp.get hlt).trans hb) (fun h' hk' => hq h' (hkp.trans hk') c hmem) (Nat.lt_of_lt_of_le hlt hkp.1)) ?_
      rintro u g hk2 rfl
      simp (disch := first | omega | (simp only [add_nx, upd_nx] <;> omega) | decide) only [rUz, ↓reduceIte, Nat.reduceEqDiff, Nat.reduceAdd]
      cases hqp : q c with
      | true =>
        rw [hqp, cond_true] at hfb
        repeat refine S.seq ?_
        refine S.cond (v := false) (by first | rfl | (simp (disch := first | omega | (simp only [add_nx, upd_nx] <;> omega) | decide) only [rUz, ↓reduceIte, Nat.reduceEqDiff, Nat.reduceAdd, hqp, Bool.not_true] <;> rfl)) (fun e => by cases e) (fun _ => ?_)
        repeat refine S.seq ?_
        refine S.skip ?_
        simp (disch := first | omega | (simp only [add_nx, upd_nx] <;> omega) | decide) only [rUz, ↓reduceIte, Nat.reduceEqDiff, Nat.reduceAdd]
        repeat refine S.seq ?_
        refine S.region ?_
        simp (disch := first | omega | (simp only [add_nx, upd_nx] <;> omega) | decide) only [rUz, ↓reduceIte, Nat.reduceEqDiff, Nat.reduceAdd, t8]
        refine hn (k + 1) _ _ (by omega) ⟨by omega, hfb, hkp.trans hk2, ?_, ?_, ?_, ?_⟩
        all_goals (first | rfl | (simp (disch := first | omega | (simp only [add_nx, upd_nx] <;> omega) | decide) only [rUz, ↓reduceIte, Nat.reduceEqDiff, Nat.reduceAdd, t0, t1, t7, t8]; done) | (simp (disch := first | omega | (simp only [add_nx, upd_nx] <;> omega) | decide) only [rUz, ↓reduceIte, Nat.reduceEqDiff, Nat.reduceAdd, t0, t1, t7, t8]; rfl))
      | false =>
        rw [hqp, cond_false] at hfb
        repeat refine S.seq ?_
        refine S.cond (v := true) (by first | rfl | (simp (disch := first | omega | (simp only [add_nx, upd_nx] <;> omega) | decide) only [rUz, ↓reduceIte, Nat.reduceEqDiff, Nat.reduceAdd, hqp, Bool.not_false] <;> rfl)) (fun _ => ?_) (fun e => by cases e)
        repeat refine S.seq ?_
        refine S.region ?_
        simp (disch := first | omega | (simp only [add_nx, upd_nx] <;> omega) | decide) only [rUz, ↓reduceIte, Nat.reduceEqDiff, Nat.reduceAdd, t8]
        refine S.ret ?_
        simp only [seqK_ret, blockK_ret]
        refine he _ _ _ _ (fun e => by cases e) ?_
        try simp only [seqK_ret, blockK_ret]
        subst hF
        simp only [finish, endMarks]
        rw [show Try.f107.results.toList = [.tmp 4] from rfl]
        simp (disch := first | omega | (simp only [add_nx, upd_nx] <;> omega) | decide) only [resA, ev_tmp, tget_ne, tget_eq, get_ne, get_eq, upd_eq, upd_ne, ag_eq, ag_ne, result1]
        exact hK _ _ (hkp.trans hk2) (by rw [hfb])
    · have hkn : k = cs.length := by have := of_decide_eq_false e; omega
      subst hkn
      rw [List.drop_of_length_le (Nat.le_refl _)] at hfb
      refine S.exit (he _ _ _ _ (fun e => by cases e) ?_)
      simp (disch := first | omega | (simp only [add_nx, upd_nx] <;> omega) | decide) only [rUz, ↓reduceIte, Nat.reduceEqDiff, Nat.reduceAdd]
      repeat refine S.seq ?_
      refine S.region ?_
      simp (disch := first | omega | (simp only [add_nx, upd_nx] <;> omega) | decide) only [rUz, ↓reduceIte, Nat.reduceEqDiff, Nat.reduceAdd]
      refine S.ret ?_
      try simp only [seqK_ret, blockK_ret]
      subst hF
      simp only [finish, endMarks]
      rw [show Try.f107.results.toList = [.tmp 4] from rfl]
      simp (disch := first | omega | (simp only [add_nx, upd_nx] <;> omega) | decide) only [resA, ev_tmp, tget_ne, tget_eq, get_ne, get_eq, upd_eq, upd_ne, ag_eq, ag_ne, result1]
      exact hK _ _ hkp (by rw [hfb]; rfl)
  · refine ⟨Nat.zero_le _, rfl, Kp.refl, ?_, ?_, ?_, ?_⟩
    all_goals (first | rfl | (simp (disch := first | omega | (simp only [add_nx, upd_nx] <;> omega) | decide) only [rUz, ↓reduceIte, Nat.reduceEqDiff, Nat.reduceAdd]; done) | (simp (disch := first | omega | (simp only [add_nx, upd_nx] <;> omega) | decide) only [rUz, ↓reduceIte, Nat.reduceEqDiff, Nat.reduceAdd]; rfl))

set_option maxHeartbeats 4000000 in
theorem allcL_y (S : Ev.Steps Try.prog pr R) (hoff : Off pr) (h0 : AHeap) (cv : Value) (cs : List (PL)) (hc : SlAt h0 3 cv (cs.map cL)) (hsz : (cs.length : Int) ≤ 1000000) (G : FuncId) (hG : offB G = true) (first : Array Value) (q : PL → Bool)
    (hq : ∀ h', Kp h0 h' → ∀ c, c ∈ cs → Brings Try.prog R G (first.toList ++ [.agg ⟨cL c⟩]) h' fun u _ => u = .bool (q c)) :
    Brings Try.prog R 84 [cv, .func (.func G) first #[]] h0 fun u _ => u = .bool (cs.all q) := by
  refine brings_of (fn := Try.f84) (c := (Try.f84.body).getD .skip) (by kernel_rfl) rfl (by kernel_rfl) rfl (fun K hK => ?_)
  generalize hF : finish Try.prog Try.f84 K = KF
  simp only [Try.f84, Option.getD_some, argsT, setArgs, fV1_eq, T.setK_eq, id]
  repeat refine S.seq ?_
  refine S.region ?_
  simp (disch := first | omega | (simp only [add_nx, upd_nx] <;> omega) | decide) only [rUz, ↓reduceIte, Nat.reduceEqDiff, Nat.reduceAdd]
  repeat refine S.seq ?_
  refine S.region ?_
  simp (disch := first | omega | (simp only [add_nx, upd_nx] <;> omega) | decide) only [rUz, ↓reduceIte, Nat.reduceEqDiff, Nat.reduceAdd]
  have hidx := idxcL_y S hoff (h0.add [.func (.func G) first #[]]) cv cs (SlAt.mono hc Kp.refl.add) hsz h0.nx h0.nx false G hG first q (Nat.lt_succ_self _) (ag_eq rfl) (fun h' hk => hq h' (Kp.refl.add.trans hk))
  have hcf : Brings Try.prog R 99 [cv, .func (.func 100) #[] #[ptr0 h0.nx]] (h0.add [.func (.func G) first #[]]) fun u _ => u = .bool (!(cs.all q)) := by
    clear hK hF K KF
    refine brings_of (fn := Try.f99) (c := (Try.f99.body).getD .skip) (by kernel_rfl) rfl (by kernel_rfl) rfl (fun K hK => ?_)
    generalize hF : finish Try.prog Try.f99 K = KF
    simp only [Try.f99, Option.getD_some, argsT, setArgs, fV1_eq, T.setK_eq, id]
    repeat refine S.seq ?_
    refine S.region ?_
    simp (disch := first | omega | (simp only [add_nx, upd_nx] <;> omega) | decide) only [rUz, ↓reduceIte, Nat.reduceEqDiff, Nat.reduceAdd]
    repeat refine S.seq ?_
    refine S.region ?_
    simp (disch := first | omega | (simp only [add_nx, upd_nx] <;> omega) | decide) only [rUz, ↓reduceIte, Nat.reduceEqDiff, Nat.reduceAdd]
    refine wr_brings (fid := 107) (first := #[]) (captured := #[]) (Post := fun u _ => u = iv (firstBad q cs 0)) rfl (hoff _ _ _ rfl) (by simp (disch := first | omega | (simp only [add_nx, upd_nx] <;> omega) | decide) only [rUz, ↓reduceIte, Nat.reduceEqDiff, Nat.reduceAdd]; exact hidx) ?_
    rintro u g hk rfl
    simp (disch := first | omega | (simp only [add_nx, upd_nx] <;> omega) | decide) only [rUz, ↓reduceIte, Nat.reduceEqDiff, Nat.reduceAdd, firstBad_ge q cs 0 (Int.le_refl _)]
    refine S.ret ?_
    try simp only [seqK_ret, blockK_ret]
    subst hF
    simp only [finish, endMarks]
    rw [show Try.f99.results.toList = [.tmp 4] from rfl]
    simp (disch := first | omega | (simp only [add_nx, upd_nx] <;> omega) | decide) only [resA, ev_tmp, tget_ne, tget_eq, get_ne, get_eq, upd_eq, upd_ne, ag_eq, ag_ne, result1]
    exact hK _ _ hk rfl
  refine wr_brings (fid := 99) (first := #[]) (captured := #[]) (Post := fun u _ => u = .bool (!(cs.all q))) rfl (hoff _ _ _ rfl) (by simp (disch := first | omega | (simp only [add_nx, upd_nx] <;> omega) | decide) only [rUz, ↓reduceIte, Nat.reduceEqDiff, Nat.reduceAdd]; exact hcf) ?_
  rintro u g hk rfl
  simp (disch := first | omega | (simp only [add_nx, upd_nx] <;> omega) | decide) only [rUz, ↓reduceIte, Nat.reduceEqDiff, Nat.reduceAdd, un_not, Bool.not_not]
  refine S.ret ?_
  try simp only [seqK_ret, blockK_ret]
  subst hF
  simp only [finish, endMarks]
  rw [show Try.f84.results.toList = [.tmp 4] from rfl]
  simp (disch := first | omega | (simp only [add_nx, upd_nx] <;> omega) | decide) only [resA, ev_tmp, tget_ne, tget_eq, get_ne, get_eq, upd_eq, upd_ne, ag_eq, ag_ne, result1]
  exact hK _ _ (Kp.refl.add.trans hk) rfl

theorem pFcR (c : List Value) (o : Nat) : partL Try.prog 151 c o = c[o]? := by kernel_rfl
set_option maxHeartbeats 4000000 in
theorem closcR_y (S : Ev.Steps Try.prog pr R) (hoff : Off pr) (h : AHeap) (Bf f : Nat) (ro : Bool) (G : FuncId) (hG : offB G = true) (first : Array Value) (c : R2) (b : Bool) (hb : h.bl.get Bf = some (.cells [.func (.func G) first #[]] f ro))
    (hq : ∀ h', Kp h h' → Brings Try.prog R G (first.toList ++ [.agg ⟨c2 c⟩]) h' fun u _ => u = .bool b) (hlt : Bf < h.nx) :
    Brings Try.prog R 106 [.agg ⟨c2 c⟩, ptr0 Bf] h fun u _ => u = .bool (!b) := by
  refine brings_of (fn := Try.f106) (c := (Try.f106.body).getD .skip) (by kernel_rfl) rfl (by kernel_rfl) rfl (fun K hK => ?_)
  generalize hF : finish Try.prog Try.f106 K = KF
  simp only [Try.f106, Option.getD_some, argsT, setArgs, fV1_eq, T.setK_eq, id]
  repeat refine S.seq ?_
  refine S.region ?_
  simp (disch := first | omega | (simp only [add_nx, upd_nx] <;> omega) | decide) only [rUz, ↓reduceIte, Nat.reduceEqDiff, Nat.reduceAdd]
  have hbx : (h.add (c2 c)).bl.get Bf = some (.cells [.func (.func G) first #[]] f ro) := by rw [ag_ne (by omega)]; exact hb
  repeat refine S.seq ?_
  refine S.region ?_
  simp (disch := first | omega | (simp only [add_nx, upd_nx] <;> omega) | decide) only [rUz, ↓reduceIte, Nat.reduceEqDiff, Nat.reduceAdd, hbx, pFcR, part_0 pcR (c2_len c)]
  refine wr_brings (fid := G) (first := first) (captured := #[]) (Post := fun u _ => u = .bool b) (by simp (disch := first | omega | (simp only [add_nx, upd_nx] <;> omega) | decide) only [rUz, ↓reduceIte, Nat.reduceEqDiff, Nat.reduceAdd]) (hoff _ _ _ hG) (by simp (disch := first | omega | (simp only [add_nx, upd_nx] <;> omega) | decide) only [rUz, ↓reduceIte, Nat.reduceEqDiff, Nat.reduceAdd]; exact hq _ Kp.refl.add) ?_
  rintro u g hk rfl
  simp (disch := first | omega | (simp only [add_nx, upd_nx] <;> omega) | decide) only [rUz, ↓reduceIte, Nat.reduceEqDiff, Nat.reduceAdd, un_not]
  refine S.ret ?_
  try simp only [seqK_ret, blockK_ret]
  subst hF
  simp only [finish, endMarks]
  rw [show Try.f106.results.toList = [.tmp 3] from rfl]
  simp (disch := first | omega | (simp only [add_nx, upd_nx] <;> omega) | decide) only [resA, ev_tmp, tget_ne, tget_eq, get_ne, get_eq, upd_eq, upd_ne, ag_eq, ag_ne, result1]
  exact hK _ _ (Kp.refl.add.trans hk) rfl

def IXcR (q : R2 → Bool) (cs : List (R2)) (H : AHeap) (cv fv : Value) (k : Nat) (t : T Value) (h : AHeap) : Prop :=
  k ≤ cs.length ∧ firstBad q cs 0 = firstBad q (cs.drop k) k ∧ Kp H h ∧ tget t 0 = cv ∧ tget t 1 = fv ∧ tget t 7 = iv (cs.length : Int) ∧ tget t 8 = iv (k : Int)

set_option maxHeartbeats 4000000 in
theorem idxcR_y (S : Ev.Steps Try.prog pr R) (hoff : Off pr) (h0 : AHeap) (cv : Value) (cs : List (R2)) (hc : SlAt h0 2 cv (cs.map c2)) (hsz : (cs.length : Int) ≤ 1000000) (Bf f : Nat) (ro : Bool) (G : FuncId) (hG : offB G = true) (first : Array Value) (q : R2 → Bool) (hlt : Bf < h0.nx) (hb : h0.bl.get Bf = some (.cells [.func (.func G) first #[]] f ro))
    (hq : ∀ h', Kp h0 h' → ∀ c, c ∈ cs → Brings Try.prog R G (first.toList ++ [.agg ⟨c2 c⟩]) h' fun u _ => u = .bool (q c)) :
    Brings Try.prog R 108 [cv, .func (.func 106) #[] #[ptr0 Bf]] h0 fun u _ => u = iv (firstBad q cs 0) := by
  refine brings_of (fn := Try.f108) (c := (Try.f108.body).getD .skip) (by kernel_rfl) rfl (by kernel_rfl) rfl (fun K hK => ?_)
  generalize hF : finish Try.prog Try.f108 K = KF
  simp only [Try.f108, Option.getD_some, argsT, setArgs, fV1_eq, T.setK_eq, id]
  have hlen := fun t h1 o => row_len hc iscR t h1 o
  repeat refine S.seq ?_
  refine S.region ?_
  simp (disch := first | omega | (simp only [add_nx, upd_nx] <;> omega) | decide) only [rUz, ↓reduceIte, Nat.reduceEqDiff, Nat.reduceAdd]
  repeat refine S.seq ?_
  refine S.region ?_
  simp (disch := first | omega | (simp only [add_nx, upd_nx] <;> omega) | decide) only [rUz, ↓reduceIte, Nat.reduceEqDiff, Nat.reduceAdd, hlen]
  repeat refine S.seq ?_
  refine S.block ?_
  refine S.loop (ι := Nat) (IXcR q cs h0 cv (.func (.func 106) #[] #[ptr0 Bf])) (fun k => cs.length - k) ?_ 0 _ _ ?_
  · intro k t h ⟨hk, hfb, hkp, t0, t1, t7, t8⟩ K' hn he
    repeat refine S.seq ?_
    refine S.region ?_
    simp (disch := first | omega | (simp only [add_nx, upd_nx] <;> omega) | decide) only [rUz, ↓reduceIte, Nat.reduceEqDiff, Nat.reduceAdd, t7, t8]
    repeat refine S.seq ?_
    refine S.cond (v := decide ((k : Int) < (cs.length : Int))) (by first | rfl | (simp (disch := first | omega | (simp only [add_nx, upd_nx] <;> omega) | decide) only [rUz, ↓reduceIte, Nat.reduceEqDiff, Nat.reduceAdd] <;> rfl)) (fun e => ?_) (fun e => ?_)
    · have hkn : k < cs.length := by have := of_decide_eq_true e; omega
      clear e
      have hps : cs[k]? = some cs[k] := List.getElem?_eq_getElem hkn
      have hmem : cs[k] ∈ cs := List.getElem_mem hkn
      rw [List.drop_eq_getElem_cons hkn] at hfb
      simp only [firstBad] at hfb
      generalize cs[k] = c at hps hmem hfb
      obtain ⟨b, f2, ro2, cells, q1, q2, q3, q4, q5, _⟩ := row_idx (SlAt.mono hc hkp) slcR scR hps
      have qp := part_at pcR q4 q5
      repeat refine S.seq ?_
      refine S.skip ?_
      simp (disch := first | omega | (simp only [add_nx, upd_nx] <;> omega) | decide) only [rUz, ↓reduceIte, Nat.reduceEqDiff, Nat.reduceAdd]
      repeat refine S.seq ?_
      refine S.block ?_
      repeat refine S.seq ?_
      refine S.region ?_
      simp (disch := first | omega | (simp only [add_nx, upd_nx] <;> omega) | decide) only [rUz, ↓reduceIte, Nat.reduceEqDiff, Nat.reduceAdd, t8]
      repeat refine S.seq ?_
      refine S.region ?_
      simp (disch := first | omega | (simp only [add_nx, upd_nx] <;> omega) | decide) only [rUz, ↓reduceIte, Nat.reduceEqDiff, Nat.reduceAdd, t0, t1, t8, q1, q3, qp]
      refine wr_brings (fid := 106) (first := #[]) (captured := #[ptr0 Bf]) (Post := fun u _ => u = .bool (!(q c))) (by simp (disch := first | omega | (simp only [add_nx, upd_nx] <;> omega) | decide) only [rUz, ↓reduceIte, Nat.reduceEqDiff, Nat.reduceAdd, t1]) (hoff _ _ _ rfl) (by simp (disch := first | omega | (simp only [add_nx, upd_nx] <;> omega) | decide) only [rUz, ↓reduceIte, Nat.reduceEqDiff, Nat.reduceAdd]; exact closcR_y S hoff h Bf f ro G hG first c (q c) ((hkp.get hlt).trans hb) (fun h' hk' => hq h' (hkp.trans hk') c hmem) (Nat.lt_of_lt_of_le hlt hkp.1)) ?_
      rintro u g hk2 rfl
      simp (disch := first | omega | (simp only [add_nx, upd_nx] <;> omega) | decide) only [rUz, ↓reduceIte, Nat.reduceEqDiff, Nat.reduceAdd]
      cases hqp : q c with
      | true =>
        rw [hqp, cond_true] at hfb
        repeat refine S.seq ?_
        refine S.cond (v := false) (by first | rfl | (simp (disch := first | omega | (simp only [add_nx, upd_nx] <;> omega) | decide) only [rUz, ↓reduceIte, Nat.reduceEqDiff, Nat.reduceAdd, hqp, Bool.not_true] <;> rfl)) (fun e => by cases e) (fun _ => ?_)
        repeat refine S.seq ?_
        refine S.skip ?_
        simp (disch := first | omega | (simp only [add_nx, upd_nx] <;> omega) | decide) only [rUz, ↓reduceIte, Nat.reduceEqDiff, Nat.reduceAdd]
        repeat refine S.seq ?_
        refine S.region ?_
        simp (disch := first | omega | (simp only [add_nx, upd_nx] <;> omega) | decide) only [rUz, ↓reduceIte, Nat.reduceEqDiff, Nat.reduceAdd, t8]
        refine hn (k + 1) _ _ (by omega) ⟨by omega, hfb, hkp.trans hk2, ?_, ?_, ?_, ?_⟩
        all_goals (first | rfl | (simp (disch := first | omega | (simp only [add_nx, upd_nx] <;> omega) | decide) only [rUz, ↓reduceIte, Nat.reduceEqDiff, Nat.reduceAdd, t0, t1, t7, t8]; done) | (simp (disch := first | omega | (simp only [add_nx, upd_nx] <;> omega) | decide) only [rUz, ↓reduceIte, Nat.reduceEqDiff, Nat.reduceAdd, t0, t1, t7, t8]; rfl))
      | false =>
        rw [hqp, cond_false] at hfb
        repeat refine S.seq ?_
        refine S.cond (v := true) (by first | rfl | (simp (disch := first | omega | (simp only [add_nx, upd_nx] <;> omega) | decide) only [rUz, ↓reduceIte, Nat.reduceEqDiff, Nat.reduceAdd, hqp, Bool.not_false] <;> rfl)) (fun _ => ?_) (fun e => by cases e)
        repeat refine S.seq ?_
        refine S.region ?_
        simp (disch := first | omega | (simp only [add_nx, upd_nx] <;> omega) | decide) only [rUz, ↓reduceIte, Nat.reduceEqDiff, Nat.reduceAdd, t8]
        refine S.ret ?_
        simp only [seqK_ret, blockK_ret]
        refine he _ _ _ _ (fun e => by cases e) ?_
        try simp only [seqK_ret, blockK_ret]
        subst hF
        simp only [finish, endMarks]
        rw [show Try.f108.results.toList = [.tmp 4] from rfl]
        simp (disch := first | omega | (simp only [add_nx, upd_nx] <;> omega) | decide) only [resA, ev_tmp, tget_ne, tget_eq, get_ne, get_eq, upd_eq, upd_ne, ag_eq, ag_ne, result1]
        exact hK _ _ (hkp.trans hk2) (by rw [hfb])
    · have hkn : k = cs.length := by have := of_decide_eq_false e; omega
      subst hkn
      rw [List.drop_of_length_le (Nat.le_refl _)] at hfb
      refine S.exit (he _ _ _ _ (fun e => by cases e) ?_)
      simp (disch := first | omega | (simp only [add_nx, upd_nx] <;> omega) | decide) only [rUz, ↓reduceIte, Nat.reduceEqDiff, Nat.reduceAdd]
      repeat refine S.seq ?_
      refine S.region ?_
      simp (disch := first | omega | (simp only [add_nx, upd_nx] <;> omega) | decide) only [rUz, ↓reduceIte, Nat.reduceEqDiff, Nat.reduceAdd]
      refine S.ret ?_
      try simp only [seqK_ret, blockK_ret]
      subst hF
      simp only [finish, endMarks]
      rw [show Try.f108.results.toList = [.tmp 4] from rfl]
      simp (disch := first | omega | (simp only [add_nx, upd_nx] <;> omega) | decide) only [resA, ev_tmp, tget_ne, tget_eq, get_ne, get_eq, upd_eq, upd_ne, ag_eq, ag_ne, result1]
      exact hK _ _ hkp (by rw [hfb]; rfl)
  · refine ⟨Nat.zero_le _, rfl, Kp.refl, ?_, ?_, ?_, ?_⟩
    all_goals (first | rfl | (simp (disch := first | omega | (simp only [add_nx, upd_nx] <;> omega) | decide) only [rUz, ↓reduceIte, Nat.reduceEqDiff, Nat.reduceAdd]; done) | (simp (disch := first | omega | (simp only [add_nx, upd_nx] <;> omega) | decide) only [rUz, ↓reduceIte, Nat.reduceEqDiff, Nat.reduceAdd]; rfl))

set_option maxHeartbeats 4000000 in
theorem allcR_y (S : Ev.Steps Try.prog pr R) (hoff : Off pr) (h0 : AHeap) (cv : Value) (cs : List (R2)) (hc : SlAt h0 2 cv (cs.map c2)) (hsz : (cs.length : Int) ≤ 1000000) (G : FuncId) (hG : offB G = true) (first : Array Value) (q : R2 → Bool)
    (hq : ∀ h', Kp h0 h' → ∀ c, c ∈ cs → Brings Try.prog R G (first.toList ++ [.agg ⟨c2 c⟩]) h' fun u _ => u = .bool (q c)) :
    Brings Try.prog R 96 [cv, .func (.func G) first #[]] h0 fun u _ => u = .bool (cs.all q) := by
  refine brings_of (fn := Try.f96) (c := (Try.f96.body).getD .skip) (by kernel_rfl) rfl (by kernel_rfl) rfl (fun K hK => ?_)
  generalize hF : finish Try.prog Try.f96 K = KF
  simp only [Try.f96, Option.getD_some, argsT, setArgs, fV1_eq, T.setK_eq, id]
  repeat refine S.seq ?_
  refine S.region ?_
  simp (disch := first | omega | (simp only [add_nx, upd_nx] <;> omega) | decide) only [rUz, ↓reduceIte, Nat.reduceEqDiff, Nat.reduceAdd]
  repeat refine S.seq ?_
  refine S.region ?_
  simp (disch := first | omega | (simp only [add_nx, upd_nx] <;> omega) | decide) only [rUz, ↓reduceIte, Nat.reduceEqDiff, Nat.reduceAdd]
  have hidx := idxcR_y S hoff (h0.add [.func (.func G) first #[]]) cv cs (SlAt.mono hc Kp.refl.add) hsz h0.nx h0.nx false G hG first q (Nat.lt_succ_self _) (ag_eq rfl) (fun h' hk => hq h' (Kp.refl.add.trans hk))
  have hcf : Brings Try.prog R 105 [cv, .func (.func 106) #[] #[ptr0 h0.nx]] (h0.add [.func (.func G) first #[]]) fun u _ => u = .bool (!(cs.all q)) := by
    clear hK hF K KF
    refine brings_of (fn := Try.f105) (c := (Try.f105.body).getD .skip) (by kernel_rfl) rfl (by kernel_rfl) rfl (fun K hK => ?_)
    generalize hF : finish Try.prog Try.f105 K = KF
    simp only [Try.f105, Option.getD_some, argsT, setArgs, fV1_eq, T.setK_eq, id]
    repeat refine S.seq ?_
    refine S.region ?_
    simp (disch := first | omega | (simp only [add_nx, upd_nx] <;> omega) | decide) only [rUz, ↓reduceIte, Nat.reduceEqDiff, Nat.reduceAdd]
    repeat refine S.seq ?_
    refine S.region ?_
    simp (disch := first | omega | (simp only [add_nx, upd_nx] <;> omega) | decide) only [rUz, ↓reduceIte, Nat.reduceEqDiff, Nat.reduceAdd]
    refine wr_brings (fid := 108) (first := #[]) (captured := #[]) (Post := fun u _ => u = iv (firstBad q cs 0)) rfl (hoff _ _ _ rfl) (by simp (disch := first | omega | (simp only [add_nx, upd_nx] <;> omega) | decide) only [rUz, ↓reduceIte, Nat.reduceEqDiff, Nat.reduceAdd]; exact hidx) ?_
    rintro u g hk rfl
    simp (disch := first | omega | (simp only [add_nx, upd_nx] <;> omega) | decide) only [rUz, ↓reduceIte, Nat.reduceEqDiff, Nat.reduceAdd, firstBad_ge q cs 0 (Int.le_refl _)]
    refine S.ret ?_
    try simp only [seqK_ret, blockK_ret]
    subst hF
    simp only [finish, endMarks]
    rw [show Try.f105.results.toList = [.tmp 4] from rfl]
    simp (disch := first | omega | (simp only [add_nx, upd_nx] <;> omega) | decide) only [resA, ev_tmp, tget_ne, tget_eq, get_ne, get_eq, upd_eq, upd_ne, ag_eq, ag_ne, result1]
    exact hK _ _ hk rfl
  refine wr_brings (fid := 105) (first := #[]) (captured := #[]) (Post := fun u _ => u = .bool (!(cs.all q))) rfl (hoff _ _ _ rfl) (by simp (disch := first | omega | (simp only [add_nx, upd_nx] <;> omega) | decide) only [rUz, ↓reduceIte, Nat.reduceEqDiff, Nat.reduceAdd]; exact hcf) ?_
  rintro u g hk rfl
  simp (disch := first | omega | (simp only [add_nx, upd_nx] <;> omega) | decide) only [rUz, ↓reduceIte, Nat.reduceEqDiff, Nat.reduceAdd, un_not, Bool.not_not]
  refine S.ret ?_
  try simp only [seqK_ret, blockK_ret]
  subst hF
  simp only [finish, endMarks]
  rw [show Try.f96.results.toList = [.tmp 4] from rfl]
  simp (disch := first | omega | (simp only [add_nx, upd_nx] <;> omega) | decide) only [resA, ev_tmp, tget_ne, tget_eq, get_ne, get_eq, upd_eq, upd_ne, ag_eq, ag_ne, result1]
  exact hK _ _ (Kp.refl.add.trans hk) rfl

structure IEDT (cs : List PD) (ps : List PT) (q : PD × PT → Bool) (H : AHeap) (cv pv fv : Value) (k : Nat) (t : T Value) (h : AHeap) : Prop where
  kp : Kp H h
  ha : (List.zip cs ps).all q = ((List.zip cs ps).drop k).all q
  t1 : tget t 1 = pv
  t2 : tget t 2 = fv
  t15 : tget t 15 = cv
  t16 : tget t 16 = iv (cs.length : Int)
  t17 : tget t 17 = iv (k : Int)
  hk : k ≤ cs.length
set_option maxHeartbeats 8000000 in
theorem eqDT_y (S : Ev.Steps Try.prog pr R) (hoff : Off pr) (h0 : AHeap) (cv pv : Value) (cs : List PD) (ps : List PT) (hc : SlAt h0 3 cv (cs.map cD)) (hp : SlAt h0 1 pv (ps.map cT)) (hsz : (cs.length : Int) ≤ 1000000) (G : FuncId) (hG : offB G = true) (q : PD × PT → Bool)
    (hq : ∀ h', Kp h0 h' → ∀ x p, x ∈ cs → p ∈ ps → Brings Try.prog R G [.agg ⟨cD x⟩, p.1] h' fun u _ => u = .bool (q (x, p))) :
    Brings Try.prog R 89 [cv, pv, .func (.func G) #[] #[]] h0 fun u _ => u = .bool (decide ((cs.length : Int) = (ps.length : Int)) && (List.zip cs ps).all q) := by
  refine brings_of (fn := Try.f89) (c := (Try.f89.body).getD .skip) (by kernel_rfl) rfl (by kernel_rfl) rfl (fun K hK => ?_)
  generalize hF : finish Try.prog Try.f89 K = KF
  simp only [Try.f89, Option.getD_some, argsT, setArgs, fV1_eq, T.setK_eq, id]
  have hlen := fun t h1 o => row_len hc iscD t h1 o
  have plen := fun t h1 o => row_len hp isII t h1 o
  have hKb : (decide ((cs.length : Int) = (ps.length : Int)) && (List.zip cs ps).all q) = false → ∀ g, Kp h0 g → K (.bool false) g = true := fun e g hk => hK _ _ hk (by rw [e])
  have hKg : (decide ((cs.length : Int) = (ps.length : Int)) && (List.zip cs ps).all q) = true → ∀ g, Kp h0 g → K (.bool true) g = true := fun e g hk => hK _ _ hk (by rw [e])
  clear hK
  repeat refine S.seq ?_
  refine S.region ?_
  simp (disch := first | omega | (simp only [add_nx, upd_nx] <;> omega) | decide) only [rUz, ↓reduceIte, Nat.reduceEqDiff, Nat.reduceAdd]
  cases h1 : decide ((cs.length : Int) = (ps.length : Int)) with
  | false =>
    rw [h1, Bool.false_and] at hKb
    repeat refine S.seq ?_
    refine S.region ?_
    simp (disch := first | omega | (simp only [add_nx, upd_nx] <;> omega) | decide) only [rUz, ↓reduceIte, Nat.reduceEqDiff, Nat.reduceAdd, hlen, plen, h1, Bool.not_false]
    repeat refine S.seq ?_
    refine S.cond (v := true) (by first | rfl | (simp (disch := first | omega | (simp only [add_nx, upd_nx] <;> omega) | decide) only [rUz, ↓reduceIte, Nat.reduceEqDiff, Nat.reduceAdd] <;> rfl)) (fun _ => ?_) (fun e => by cases e)
    repeat refine S.seq ?_
    refine S.region ?_
    simp (disch := first | omega | (simp only [add_nx, upd_nx] <;> omega) | decide) only [rUz, ↓reduceIte, Nat.reduceEqDiff, Nat.reduceAdd]
    refine S.ret ?_
    try simp only [seqK_ret, blockK_ret]
    subst hF
    simp only [finish, endMarks]
    rw [show Try.f89.results.toList = [.tmp 6] from rfl]
    simp (disch := first | omega | (simp only [add_nx, upd_nx] <;> omega) | decide) only [resA, ev_tmp, tget_ne, tget_eq, get_ne, get_eq, upd_eq, upd_ne, ag_eq, ag_ne, result1]
    exact hKb rfl _ Kp.refl
  | true =>
  rw [h1, Bool.true_and] at hKb hKg
  repeat refine S.seq ?_
  refine S.region ?_
  simp (disch := first | omega | (simp only [add_nx, upd_nx] <;> omega) | decide) only [rUz, ↓reduceIte, Nat.reduceEqDiff, Nat.reduceAdd, hlen, plen, h1, Bool.not_true]
  repeat refine S.seq ?_
  refine S.cond (v := false) (by first | rfl | (simp (disch := first | omega | (simp only [add_nx, upd_nx] <;> omega) | decide) only [rUz, ↓reduceIte, Nat.reduceEqDiff, Nat.reduceAdd] <;> rfl)) (fun e => by cases e) (fun _ => ?_)
  repeat refine S.seq ?_
  refine S.skip ?_
  simp (disch := first | omega | (simp only [add_nx, upd_nx] <;> omega) | decide) only [rUz, ↓reduceIte, Nat.reduceEqDiff, Nat.reduceAdd]
  have hcp := of_decide_eq_true h1
  have hzl : (List.zip cs ps).length = cs.length := by rw [List.length_zip]; omega
  repeat refine S.seq ?_
  refine S.region ?_
  simp (disch := first | omega | (simp only [add_nx, upd_nx] <;> omega) | decide) only [rUz, ↓reduceIte, Nat.reduceEqDiff, Nat.reduceAdd, hlen]
  repeat refine S.seq ?_
  refine S.block ?_
  refine S.loop (ι := Nat) (IEDT cs ps q h0 cv pv (.func (.func G) #[] #[])) (fun k => cs.length - k) ?_ 0 _ _ ?_
  rotate_left
  · refine ⟨Kp.refl, rfl, ?_, ?_, ?_, ?_, ?_, Nat.zero_le _⟩
    all_goals (first | rfl | (simp (disch := first | omega | (simp only [add_nx, upd_nx] <;> omega) | decide) only [rUz, ↓reduceIte, Nat.reduceEqDiff, Nat.reduceAdd]; done) | (simp (disch := first | omega | (simp only [add_nx, upd_nx] <;> omega) | decide) only [rUz, ↓reduceIte, Nat.reduceEqDiff, Nat.reduceAdd]; rfl))
  intro k t h ⟨hkp, ha, t1, t2, t15, t16, t17, hk⟩ K' hn he
  have hnx := hkp.1
  repeat refine S.seq ?_
  refine S.region ?_
  simp (disch := first | omega | (simp only [add_nx, upd_nx] <;> omega) | decide) only [rUz, ↓reduceIte, Nat.reduceEqDiff, Nat.reduceAdd, t16, t17]
  repeat refine S.seq ?_
  refine S.cond (v := decide ((k : Int) < (cs.length : Int))) (by first | rfl | (simp (disch := first | omega | (simp only [add_nx, upd_nx] <;> omega) | decide) only [rUz, ↓reduceIte, Nat.reduceEqDiff, Nat.reduceAdd] <;> rfl)) (fun e => ?_) (fun e => ?_)
  · have hkn : k < cs.length := by have := of_decide_eq_true e; omega
    clear e
    have hkq : k < ps.length := by omega
    have hkz : k < (List.zip cs ps).length := by omega
    have hgz : (List.zip cs ps)[k] = (cs[k], ps[k]) := List.getElem_zip
    rw [List.drop_eq_getElem_cons hkz, List.all_cons, hgz] at ha
    have hps : cs[k]? = some cs[k] := List.getElem?_eq_getElem hkn
    have hpp : ps[k]? = some ps[k] := List.getElem?_eq_getElem hkq
    have hxm : cs[k] ∈ cs := List.getElem_mem hkn
    have hpm : ps[k] ∈ ps := List.getElem_mem hkq
    generalize ps[k] = p at ha hpp hpm
    obtain ⟨rb, rf, rw0, rce, r1, r2, r3, _, _, r6⟩ := row_idx (SlAt.mono hp hkp) slII lI' hpp
    have r4 := r6 0 _ (cT0 p)
    rw [Nat.mul_one] at r1
    rw [Nat.mul_one, Nat.add_zero] at r4
    generalize cs[k] = x at ha hps hxm
    obtain ⟨b, f, ro, cells, q1, q2, q3, q4, q5, _⟩ := row_idx (SlAt.mono hc hkp) slcD scD hps
    have qp := part_at pcD q4 q5
    repeat refine S.seq ?_
    refine S.skip ?_
    simp (disch := first | omega | (simp only [add_nx, upd_nx] <;> omega) | decide) only [rUz, ↓reduceIte, Nat.reduceEqDiff, Nat.reduceAdd]
    repeat refine S.seq ?_
    refine S.block ?_
    repeat refine S.seq ?_
    refine S.region ?_
    simp (disch := first | omega | (simp only [add_nx, upd_nx] <;> omega) | decide) only [rUz, ↓reduceIte, Nat.reduceEqDiff, Nat.reduceAdd, t15, t17, q1, q3, qp, wr_alloc zcD]
    refine wr_storeN (B := h.nx) (c := [nl, iv 0, iv 0]) (fam := h.nx) (k := h.nx) (l := cD x) (by simp (disch := first | omega | (simp only [add_nx, upd_nx] <;> omega) | decide) only [rUz, ↓reduceIte, Nat.reduceEqDiff, Nat.reduceAdd]) (by simp (disch := first | omega | (simp only [add_nx, upd_nx] <;> omega) | decide) only [rUz, ↓reduceIte, Nat.reduceEqDiff, Nat.reduceAdd]) scD (by omega) rfl (ag_eq rfl) (af_eq rfl) rfl ?_
    have hk0 : Kp h ((h.add [nl, iv 0, iv 0]).upd h.nx (cD x) h.nx) := Kp.refl.add.upd (Nat.le_refl _)
    have hk4 : Kp h0 ((h.add [nl, iv 0, iv 0]).upd h.nx (cD x) h.nx) := hkp.add.upd hnx
    have hg4 : ((h.add [nl, iv 0, iv 0]).upd h.nx (cD x) h.nx).bl.get h.nx = some (.cells (cD x) h.nx false) := upd_eq _ _ _
    simp (disch := first | omega | (simp only [add_nx, upd_nx] <;> omega) | decide) only [rUz, ↓reduceIte, Nat.reduceEqDiff, Nat.reduceAdd]
    generalize (h.add [nl, iv 0, iv 0]).upd h.nx (cD x) h.nx = h4 at hk0 hk4 hg4 ⊢
    have hr3 := (hk0.get r2).trans r3
    generalize h.nx = B8 at hg4 ⊢
    repeat refine S.seq ?_
    refine S.region ?_
    simp (disch := first | omega | (simp only [add_nx, upd_nx] <;> omega) | decide) only [rUz, ↓reduceIte, Nat.reduceEqDiff, Nat.reduceAdd, t1, r1, hr3, qI, r4]
    repeat refine S.seq ?_
    refine S.region ?_
    simp (disch := first | omega | (simp only [add_nx, upd_nx] <;> omega) | decide) only [rUz, ↓reduceIte, Nat.reduceEqDiff, Nat.reduceAdd, t2, hg4, part_0 pcD (cD_len x)]
    refine wr_brings (fid := G) (first := #[]) (captured := #[]) (Post := fun u _ => u = .bool (q (x, p))) (by simp (disch := first | omega | (simp only [add_nx, upd_nx] <;> omega) | decide) only [rUz, ↓reduceIte, Nat.reduceEqDiff, Nat.reduceAdd]) (hoff _ _ _ hG) (by simp (disch := first | omega | (simp only [add_nx, upd_nx] <;> omega) | decide) only [rUz, ↓reduceIte, Nat.reduceEqDiff, Nat.reduceAdd]; exact hq _ hk4 x p hxm hpm) ?_
    rintro u g hkg rfl
    simp (disch := first | omega | (simp only [add_nx, upd_nx] <;> omega) | decide) only [rUz, ↓reduceIte, Nat.reduceEqDiff, Nat.reduceAdd, un_not]
    cases hqp : q (x, p) with
    | true =>
      rw [hqp, Bool.true_and] at ha
      repeat refine S.seq ?_
      refine S.cond (v := false) (by first | rfl | (simp (disch := first | omega | (simp only [add_nx, upd_nx] <;> omega) | decide) only [rUz, ↓reduceIte, Nat.reduceEqDiff, Nat.reduceAdd, hqp, Bool.not_true] <;> rfl)) (fun e => by cases e) (fun _ => ?_)
      repeat refine S.seq ?_
      refine S.skip ?_
      simp (disch := first | omega | (simp only [add_nx, upd_nx] <;> omega) | decide) only [rUz, ↓reduceIte, Nat.reduceEqDiff, Nat.reduceAdd]
      repeat refine S.seq ?_
      refine S.region ?_
      simp (disch := first | omega | (simp only [add_nx, upd_nx] <;> omega) | decide) only [rUz, ↓reduceIte, Nat.reduceEqDiff, Nat.reduceAdd, t17]
      refine hn (k + 1) _ _ (by omega) ⟨hk4.trans hkg, ha, ?_, ?_, ?_, ?_, ?_, by omega⟩
      all_goals (first | rfl | (simp (disch := first | omega | (simp only [add_nx, upd_nx] <;> omega) | decide) only [rUz, ↓reduceIte, Nat.reduceEqDiff, Nat.reduceAdd, t1, t2, t15, t16]; done) | (simp (disch := first | omega | (simp only [add_nx, upd_nx] <;> omega) | decide) only [rUz, ↓reduceIte, Nat.reduceEqDiff, Nat.reduceAdd, t1, t2, t15, t16]; rfl))
    | false =>
      rw [hqp, Bool.false_and] at ha
      repeat refine S.seq ?_
      refine S.cond (v := true) (by first | rfl | (simp (disch := first | omega | (simp only [add_nx, upd_nx] <;> omega) | decide) only [rUz, ↓reduceIte, Nat.reduceEqDiff, Nat.reduceAdd, hqp, Bool.not_false] <;> rfl)) (fun _ => ?_) (fun e => by cases e)
      repeat refine S.seq ?_
      refine S.region ?_
      simp (disch := first | omega | (simp only [add_nx, upd_nx] <;> omega) | decide) only [rUz, ↓reduceIte, Nat.reduceEqDiff, Nat.reduceAdd]
      refine S.ret ?_
      simp only [seqK_ret, blockK_ret]
      refine he _ _ _ _ (fun e => by cases e) ?_
      try simp only [seqK_ret, blockK_ret]
      subst hF
      simp only [finish, endMarks]
      rw [show Try.f89.results.toList = [.tmp 6] from rfl]
      simp (disch := first | omega | (simp only [add_nx, upd_nx] <;> omega) | decide) only [resA, ev_tmp, tget_ne, tget_eq, get_ne, get_eq, upd_eq, upd_ne, ag_eq, ag_ne, result1]
      exact hKb ha _ (hk4.trans hkg)
  have hkn : k = cs.length := by have := of_decide_eq_false e; omega
  subst hkn
  rw [List.drop_of_length_le (Nat.le_of_eq hzl), List.all_nil] at ha
  refine S.exit (he _ _ _ _ (fun e => by cases e) ?_)
  simp (disch := first | omega | (simp only [add_nx, upd_nx] <;> omega) | decide) only [rUz, ↓reduceIte, Nat.reduceEqDiff, Nat.reduceAdd]
  repeat refine S.seq ?_
  refine S.region ?_
  simp (disch := first | omega | (simp only [add_nx, upd_nx] <;> omega) | decide) only [rUz, ↓reduceIte, Nat.reduceEqDiff, Nat.reduceAdd]
  refine S.ret ?_
  try simp only [seqK_ret, blockK_ret]
  subst hF
  simp only [finish, endMarks]
  rw [show Try.f89.results.toList = [.tmp 6] from rfl]
  simp (disch := first | omega | (simp only [add_nx, upd_nx] <;> omega) | decide) only [resA, ev_tmp, tget_ne, tget_eq, get_ne, get_eq, upd_eq, upd_ne, ag_eq, ag_ne, result1]
  exact hKg ha _ hkp

structure IEDI (cs : List PD) (ps : List Int) (q : PD × Int → Bool) (H : AHeap) (cv pv fv : Value) (k : Nat) (t : T Value) (h : AHeap) : Prop where
  kp : Kp H h
  ha : (List.zip cs ps).all q = ((List.zip cs ps).drop k).all q
  t1 : tget t 1 = pv
  t2 : tget t 2 = fv
  t15 : tget t 15 = cv
  t16 : tget t 16 = iv (cs.length : Int)
  t17 : tget t 17 = iv (k : Int)
  hk : k ≤ cs.length
set_option maxHeartbeats 8000000 in
theorem eqDI_y (S : Ev.Steps Try.prog pr R) (hoff : Off pr) (h0 : AHeap) (cv pv : Value) (cs : List PD) (ps : List Int) (hc : SlAt h0 3 cv (cs.map cD)) (hp : IAt h0 pv ps) (hsz : (cs.length : Int) ≤ 1000000) (G : FuncId) (hG : offB G = true) (q : PD × Int → Bool)
    (hq : ∀ h', Kp h0 h' → ∀ x p, x ∈ cs → p ∈ ps → Brings Try.prog R G [.agg ⟨cD x⟩, iv p] h' fun u _ => u = .bool (q (x, p))) :
    Brings Try.prog R 91 [cv, pv, .func (.func G) #[] #[]] h0 fun u _ => u = .bool (decide ((cs.length : Int) = (ps.length : Int)) && (List.zip cs ps).all q) := by
  refine brings_of (fn := Try.f91) (c := (Try.f91.body).getD .skip) (by kernel_rfl) rfl (by kernel_rfl) rfl (fun K hK => ?_)
  generalize hF : finish Try.prog Try.f91 K = KF
  simp only [Try.f91, Option.getD_some, argsT, setArgs, fV1_eq, T.setK_eq, id]
  have hlen := fun t h1 o => row_len hc iscD t h1 o
  have plen := fun t h1 o => iv_len hp t h1 o
  have hKb : (decide ((cs.length : Int) = (ps.length : Int)) && (List.zip cs ps).all q) = false → ∀ g, Kp h0 g → K (.bool false) g = true := fun e g hk => hK _ _ hk (by rw [e])
  have hKg : (decide ((cs.length : Int) = (ps.length : Int)) && (List.zip cs ps).all q) = true → ∀ g, Kp h0 g → K (.bool true) g = true := fun e g hk => hK _ _ hk (by rw [e])
  clear hK
  repeat refine S.seq ?_
  refine S.region ?_
  simp (disch := first | omega | (simp only [add_nx, upd_nx] <;> omega) | decide) only [rUz, ↓reduceIte, Nat.reduceEqDiff, Nat.reduceAdd]
  cases h1 : decide ((cs.length : Int) = (ps.length : Int)) with
  | false =>
    rw [h1, Bool.false_and] at hKb
    repeat refine S.seq ?_
    refine S.region ?_
    simp (disch := first | omega | (simp only [add_nx, upd_nx] <;> omega) | decide) only [rUz, ↓reduceIte, Nat.reduceEqDiff, Nat.reduceAdd, hlen, plen, h1, Bool.not_false]
    repeat refine S.seq ?_
    refine S.cond (v := true) (by first | rfl | (simp (disch := first | omega | (simp only [add_nx, upd_nx] <;> omega) | decide) only [rUz, ↓reduceIte, Nat.reduceEqDiff, Nat.reduceAdd] <;> rfl)) (fun _ => ?_) (fun e => by cases e)
    repeat refine S.seq ?_
    refine S.region ?_
    simp (disch := first | omega | (simp only [add_nx, upd_nx] <;> omega) | decide) only [rUz, ↓reduceIte, Nat.reduceEqDiff, Nat.reduceAdd]
    refine S.ret ?_
    try simp only [seqK_ret, blockK_ret]
    subst hF
    simp only [finish, endMarks]
    rw [show Try.f91.results.toList = [.tmp 6] from rfl]
    simp (disch := first | omega | (simp only [add_nx, upd_nx] <;> omega) | decide) only [resA, ev_tmp, tget_ne, tget_eq, get_ne, get_eq, upd_eq, upd_ne, ag_eq, ag_ne, result1]
    exact hKb rfl _ Kp.refl
  | true =>
  rw [h1, Bool.true_and] at hKb hKg
  repeat refine S.seq ?_
  refine S.region ?_
  simp (disch := first | omega | (simp only [add_nx, upd_nx] <;> omega) | decide) only [rUz, ↓reduceIte, Nat.reduceEqDiff, Nat.reduceAdd, hlen, plen, h1, Bool.not_true]
  repeat refine S.seq ?_
  refine S.cond (v := false) (by first | rfl | (simp (disch := first | omega | (simp only [add_nx, upd_nx] <;> omega) | decide) only [rUz, ↓reduceIte, Nat.reduceEqDiff, Nat.reduceAdd] <;> rfl)) (fun e => by cases e) (fun _ => ?_)
  repeat refine S.seq ?_
  refine S.skip ?_
  simp (disch := first | omega | (simp only [add_nx, upd_nx] <;> omega) | decide) only [rUz, ↓reduceIte, Nat.reduceEqDiff, Nat.reduceAdd]
  have hcp := of_decide_eq_true h1
  have hzl : (List.zip cs ps).length = cs.length := by rw [List.length_zip]; omega
  repeat refine S.seq ?_
  refine S.region ?_
  simp (disch := first | omega | (simp only [add_nx, upd_nx] <;> omega) | decide) only [rUz, ↓reduceIte, Nat.reduceEqDiff, Nat.reduceAdd, hlen]
  repeat refine S.seq ?_
  refine S.block ?_
  refine S.loop (ι := Nat) (IEDI cs ps q h0 cv pv (.func (.func G) #[] #[])) (fun k => cs.length - k) ?_ 0 _ _ ?_
  rotate_left
  · refine ⟨Kp.refl, rfl, ?_, ?_, ?_, ?_, ?_, Nat.zero_le _⟩
    all_goals (first | rfl | (simp (disch := first | omega | (simp only [add_nx, upd_nx] <;> omega) | decide) only [rUz, ↓reduceIte, Nat.reduceEqDiff, Nat.reduceAdd]; done) | (simp (disch := first | omega | (simp only [add_nx, upd_nx] <;> omega) | decide) only [rUz, ↓reduceIte, Nat.reduceEqDiff, Nat.reduceAdd]; rfl))
  intro k t h ⟨hkp, ha, t1, t2, t15, t16, t17, hk⟩ K' hn he
  have hnx := hkp.1
  repeat refine S.seq ?_
  refine S.region ?_
  simp (disch := first | omega | (simp only [add_nx, upd_nx] <;> omega) | decide) only [rUz, ↓reduceIte, Nat.reduceEqDiff, Nat.reduceAdd, t16, t17]
  repeat refine S.seq ?_
  refine S.cond (v := decide ((k : Int) < (cs.length : Int))) (by first | rfl | (simp (disch := first | omega | (simp only [add_nx, upd_nx] <;> omega) | decide) only [rUz, ↓reduceIte, Nat.reduceEqDiff, Nat.reduceAdd] <;> rfl)) (fun e => ?_) (fun e => ?_)
  · have hkn : k < cs.length := by have := of_decide_eq_true e; omega
    clear e
    have hkq : k < ps.length := by omega
    have hkz : k < (List.zip cs ps).length := by omega
    have hgz : (List.zip cs ps)[k] = (cs[k], ps[k]) := List.getElem_zip
    rw [List.drop_eq_getElem_cons hkz, List.all_cons, hgz] at ha
    have hps : cs[k]? = some cs[k] := List.getElem?_eq_getElem hkn
    have hpp : ps[k]? = some ps[k] := List.getElem?_eq_getElem hkq
    have hxm : cs[k] ∈ cs := List.getElem_mem hkn
    have hpm : ps[k] ∈ ps := List.getElem_mem hkq
    obtain ⟨rb, rf, rw0, r1, r2, r3, r4⟩ := (hp.mono hkp).idx slI s3' hkq
    generalize ps[k] = p at ha hpp hpm r4
    generalize cs[k] = x at ha hps hxm
    obtain ⟨b, f, ro, cells, q1, q2, q3, q4, q5, _⟩ := row_idx (SlAt.mono hc hkp) slcD scD hps
    have qp := part_at pcD q4 q5
    repeat refine S.seq ?_
    refine S.skip ?_
    simp (disch := first | omega | (simp only [add_nx, upd_nx] <;> omega) | decide) only [rUz, ↓reduceIte, Nat.reduceEqDiff, Nat.reduceAdd]
    repeat refine S.seq ?_
    refine S.block ?_
    repeat refine S.seq ?_
    refine S.region ?_
    simp (disch := first | omega | (simp only [add_nx, upd_nx] <;> omega) | decide) only [rUz, ↓reduceIte, Nat.reduceEqDiff, Nat.reduceAdd, t15, t17, q1, q3, qp, wr_alloc zcD]
    refine wr_storeN (B := h.nx) (c := [nl, iv 0, iv 0]) (fam := h.nx) (k := h.nx) (l := cD x) (by simp (disch := first | omega | (simp only [add_nx, upd_nx] <;> omega) | decide) only [rUz, ↓reduceIte, Nat.reduceEqDiff, Nat.reduceAdd]) (by simp (disch := first | omega | (simp only [add_nx, upd_nx] <;> omega) | decide) only [rUz, ↓reduceIte, Nat.reduceEqDiff, Nat.reduceAdd]) scD (by omega) rfl (ag_eq rfl) (af_eq rfl) rfl ?_
    have hk0 : Kp h ((h.add [nl, iv 0, iv 0]).upd h.nx (cD x) h.nx) := Kp.refl.add.upd (Nat.le_refl _)
    have hk4 : Kp h0 ((h.add [nl, iv 0, iv 0]).upd h.nx (cD x) h.nx) := hkp.add.upd hnx
    have hg4 : ((h.add [nl, iv 0, iv 0]).upd h.nx (cD x) h.nx).bl.get h.nx = some (.cells (cD x) h.nx false) := upd_eq _ _ _
    simp (disch := first | omega | (simp only [add_nx, upd_nx] <;> omega) | decide) only [rUz, ↓reduceIte, Nat.reduceEqDiff, Nat.reduceAdd]
    generalize (h.add [nl, iv 0, iv 0]).upd h.nx (cD x) h.nx = h4 at hk0 hk4 hg4 ⊢
    have hr3 := (hk0.get r2).trans r3
    generalize h.nx = B8 at hg4 ⊢
    repeat refine S.seq ?_
    refine S.region ?_
    simp (disch := first | omega | (simp only [add_nx, upd_nx] <;> omega) | decide) only [rUz, ↓reduceIte, Nat.reduceEqDiff, Nat.reduceAdd, t1, r1, hr3, p3, r4]
    repeat refine S.seq ?_
    refine S.region ?_
    simp (disch := first | omega | (simp only [add_nx, upd_nx] <;> omega) | decide) only [rUz, ↓reduceIte, Nat.reduceEqDiff, Nat.reduceAdd, t2, hg4, part_0 pcD (cD_len x)]
    refine wr_brings (fid := G) (first := #[]) (captured := #[]) (Post := fun u _ => u = .bool (q (x, p))) (by simp (disch := first | omega | (simp only [add_nx, upd_nx] <;> omega) | decide) only [rUz, ↓reduceIte, Nat.reduceEqDiff, Nat.reduceAdd]) (hoff _ _ _ hG) (by simp (disch := first | omega | (simp only [add_nx, upd_nx] <;> omega) | decide) only [rUz, ↓reduceIte, Nat.reduceEqDiff, Nat.reduceAdd]; exact hq _ hk4 x p hxm hpm) ?_
    rintro u g hkg rfl
    simp (disch := first | omega | (simp only [add_nx, upd_nx] <;> omega) | decide) only [rUz, ↓reduceIte, Nat.reduceEqDiff, Nat.reduceAdd, un_not]
    cases hqp : q (x, p) with
    | true =>
      rw [hqp, Bool.true_and] at ha
      repeat refine S.seq ?_
      refine S.cond (v := false) (by first | rfl | (simp (disch := first | omega | (simp only [add_nx, upd_nx] <;> omega) | decide) only [rUz, ↓reduceIte, Nat.reduceEqDiff, Nat.reduceAdd, hqp, Bool.not_true] <;> rfl)) (fun e => by cases e) (fun _ => ?_)
      repeat refine S.seq ?_
      refine S.skip ?_
      simp (disch := first | omega | (simp only [add_nx, upd_nx] <;> omega) | decide) only [rUz, ↓reduceIte, Nat.reduceEqDiff, Nat.reduceAdd]
      repeat refine S.seq ?_
      refine S.region ?_
      simp (disch := first | omega | (simp only [add_nx, upd_nx] <;> omega) | decide) only [rUz, ↓reduceIte, Nat.reduceEqDiff, Nat.reduceAdd, t17]
      refine hn (k + 1) _ _ (by omega) ⟨hk4.trans hkg, ha, ?_, ?_, ?_, ?_, ?_, by omega⟩
      all_goals (first | rfl | (simp (disch := first | omega | (simp only [add_nx, upd_nx] <;> omega) | decide) only [rUz, ↓reduceIte, Nat.reduceEqDiff, Nat.reduceAdd, t1, t2, t15, t16]; done) | (simp (disch := first | omega | (simp only [add_nx, upd_nx] <;> omega) | decide) only [rUz, ↓reduceIte, Nat.reduceEqDiff, Nat.reduceAdd, t1, t2, t15, t16]; rfl))
    | false =>
      rw [hqp, Bool.false_and] at ha
      repeat refine S.seq ?_
      refine S.cond (v := true) (by first | rfl | (simp (disch := first | omega | (simp only [add_nx, upd_nx] <;> omega) | decide) only [rUz, ↓reduceIte, Nat.reduceEqDiff, Nat.reduceAdd, hqp, Bool.not_false] <;> rfl)) (fun _ => ?_) (fun e => by cases e)
      repeat refine S.seq ?_
      refine S.region ?_
      simp (disch := first | omega | (simp only [add_nx, upd_nx] <;> omega) | decide) only [rUz, ↓reduceIte, Nat.reduceEqDiff, Nat.reduceAdd]
      refine S.ret ?_
      simp only [seqK_ret, blockK_ret]
      refine he _ _ _ _ (fun e => by cases e) ?_
      try simp only [seqK_ret, blockK_ret]
      subst hF
      simp only [finish, endMarks]
      rw [show Try.f91.results.toList = [.tmp 6] from rfl]
      simp (disch := first | omega | (simp only [add_nx, upd_nx] <;> omega) | decide) only [resA, ev_tmp, tget_ne, tget_eq, get_ne, get_eq, upd_eq, upd_ne, ag_eq, ag_ne, result1]
      exact hKb ha _ (hk4.trans hkg)
  have hkn : k = cs.length := by have := of_decide_eq_false e; omega
  subst hkn
  rw [List.drop_of_length_le (Nat.le_of_eq hzl), List.all_nil] at ha
  refine S.exit (he _ _ _ _ (fun e => by cases e) ?_)
  simp (disch := first | omega | (simp only [add_nx, upd_nx] <;> omega) | decide) only [rUz, ↓reduceIte, Nat.reduceEqDiff, Nat.reduceAdd]
  repeat refine S.seq ?_
  refine S.region ?_
  simp (disch := first | omega | (simp only [add_nx, upd_nx] <;> omega) | decide) only [rUz, ↓reduceIte, Nat.reduceEqDiff, Nat.reduceAdd]
  refine S.ret ?_
  try simp only [seqK_ret, blockK_ret]
  subst hF
  simp only [finish, endMarks]
  rw [show Try.f91.results.toList = [.tmp 6] from rfl]
  simp (disch := first | omega | (simp only [add_nx, upd_nx] <;> omega) | decide) only [resA, ev_tmp, tget_ne, tget_eq, get_ne, get_eq, upd_eq, upd_ne, ag_eq, ag_ne, result1]
  exact hKg ha _ hkp

structure IERI (cs : List R2) (ps : List Int) (q : R2 × Int → Bool) (H : AHeap) (cv pv fv : Value) (k : Nat) (t : T Value) (h : AHeap) : Prop where
  kp : Kp H h
  ha : (List.zip cs ps).all q = ((List.zip cs ps).drop k).all q
  t1 : tget t 1 = pv
  t2 : tget t 2 = fv
  t15 : tget t 15 = cv
  t16 : tget t 16 = iv (cs.length : Int)
  t17 : tget t 17 = iv (k : Int)
  hk : k ≤ cs.length
set_option maxHeartbeats 8000000 in
theorem eqRI_y (S : Ev.Steps Try.prog pr R) (hoff : Off pr) (h0 : AHeap) (cv pv : Value) (cs : List R2) (ps : List Int) (hc : SlAt h0 2 cv (cs.map c2)) (hp : IAt h0 pv ps) (hsz : (cs.length : Int) ≤ 1000000) (G : FuncId) (hG : offB G = true) (q : R2 × Int → Bool)
    (hq : ∀ h', Kp h0 h' → ∀ x p, x ∈ cs → p ∈ ps → Brings Try.prog R G [.agg ⟨c2 x⟩, iv p] h' fun u _ => u = .bool (q (x, p))) :
    Brings Try.prog R 103 [cv, pv, .func (.func G) #[] #[]] h0 fun u _ => u = .bool (decide ((cs.length : Int) = (ps.length : Int)) && (List.zip cs ps).all q) := by
  refine brings_of (fn := Try.f103) (c := (Try.f103.body).getD .skip) (by kernel_rfl) rfl (by kernel_rfl) rfl (fun K hK => ?_)
  generalize hF : finish Try.prog Try.f103 K = KF
  simp only [Try.f103, Option.getD_some, argsT, setArgs, fV1_eq, T.setK_eq, id]
  have hlen := fun t h1 o => row_len hc iscR t h1 o
  have plen := fun t h1 o => iv_len hp t h1 o
  have hKb : (decide ((cs.length : Int) = (ps.length : Int)) && (List.zip cs ps).all q) = false → ∀ g, Kp h0 g → K (.bool false) g = true := fun e g hk => hK _ _ hk (by rw [e])
  have hKg : (decide ((cs.length : Int) = (ps.length : Int)) && (List.zip cs ps).all q) = true → ∀ g, Kp h0 g → K (.bool true) g = true := fun e g hk => hK _ _ hk (by rw [e])
  clear hK
  repeat refine S.seq ?_
  refine S.region ?_
  simp (disch := first | omega | (simp only [add_nx, upd_nx] <;> omega) | decide) only [rUz, ↓reduceIte, Nat.reduceEqDiff, Nat.reduceAdd]
  cases h1 : decide ((cs.length : Int) = (ps.length : Int)) with
  | false =>
    rw [h1, Bool.false_and] at hKb
    repeat refine S.seq ?_
    refine S.region ?_
    simp (disch := first | omega | (simp only [add_nx, upd_nx] <;> omega) | decide) only [rUz, ↓reduceIte, Nat.reduceEqDiff, Nat.reduceAdd, hlen, plen, h1, Bool.not_false]
    repeat refine S.seq ?_
    refine S.cond (v := true) (by first | rfl | (simp (disch := first | omega | (simp only [add_nx, upd_nx] <;> omega) | decide) only [rUz, ↓reduceIte, Nat.reduceEqDiff, Nat.reduceAdd] <;> rfl)) (fun _ => ?_) (fun e => by cases e)
    repeat refine S.seq ?_
    refine S.region ?_
    simp (disch := first | omega | (simp only [add_nx, upd_nx] <;> omega) | decide) only [rUz, ↓reduceIte, Nat.reduceEqDiff, Nat.reduceAdd]
    refine S.ret ?_
    try simp only [seqK_ret, blockK_ret]
    subst hF
    simp only [finish, endMarks]
    rw [show Try.f103.results.toList = [.tmp 6] from rfl]
    simp (disch := first | omega | (simp only [add_nx, upd_nx] <;> omega) | decide) only [resA, ev_tmp, tget_ne, tget_eq, get_ne, get_eq, upd_eq, upd_ne, ag_eq, ag_ne, result1]
    exact hKb rfl _ Kp.refl
  | true =>
  rw [h1, Bool.true_and] at hKb hKg
  repeat refine S.seq ?_
  refine S.region ?_
  simp (disch := first | omega | (simp only [add_nx, upd_nx] <;> omega) | decide) only [rUz, ↓reduceIte, Nat.reduceEqDiff, Nat.reduceAdd, hlen, plen, h1, Bool.not_true]
  repeat refine S.seq ?_
  refine S.cond (v := false) (by first | rfl | (simp (disch := first | omega | (simp only [add_nx, upd_nx] <;> omega) | decide) only [rUz, ↓reduceIte, Nat.reduceEqDiff, Nat.reduceAdd] <;> rfl)) (fun e => by cases e) (fun _ => ?_)
  repeat refine S.seq ?_
  refine S.skip ?_
  simp (disch := first | omega | (simp only [add_nx, upd_nx] <;> omega) | decide) only [rUz, ↓reduceIte, Nat.reduceEqDiff, Nat.reduceAdd]
  have hcp := of_decide_eq_true h1
  have hzl : (List.zip cs ps).length = cs.length := by rw [List.length_zip]; omega
  repeat refine S.seq ?_
  refine S.region ?_
  simp (disch := first | omega | (simp only [add_nx, upd_nx] <;> omega) | decide) only [rUz, ↓reduceIte, Nat.reduceEqDiff, Nat.reduceAdd, hlen]
  repeat refine S.seq ?_
  refine S.block ?_
  refine S.loop (ι := Nat) (IERI cs ps q h0 cv pv (.func (.func G) #[] #[])) (fun k => cs.length - k) ?_ 0 _ _ ?_
  rotate_left
  · refine ⟨Kp.refl, rfl, ?_, ?_, ?_, ?_, ?_, Nat.zero_le _⟩
    all_goals (first | rfl | (simp (disch := first | omega | (simp only [add_nx, upd_nx] <;> omega) | decide) only [rUz, ↓reduceIte, Nat.reduceEqDiff, Nat.reduceAdd]; done) | (simp (disch := first | omega | (simp only [add_nx, upd_nx] <;> omega) | decide) only [rUz, ↓reduceIte, Nat.reduceEqDiff, Nat.reduceAdd]; rfl))
  intro k t h ⟨hkp, ha, t1, t2, t15, t16, t17, hk⟩ K' hn he
  have hnx := hkp.1
  repeat refine S.seq ?_
  refine S.region ?_
  simp (disch := first | omega | (simp only [add_nx, upd_nx] <;> omega) | decide) only [rUz, ↓reduceIte, Nat.reduceEqDiff, Nat.reduceAdd, t16, t17]
  repeat refine S.seq ?_
  refine S.cond (v := decide ((k : Int) < (cs.length : Int))) (by first | rfl | (simp (disch := first | omega | (simp only [add_nx, upd_nx] <;> omega) | decide) only [rUz, ↓reduceIte, Nat.reduceEqDiff, Nat.reduceAdd] <;> rfl)) (fun e => ?_) (fun e => ?_)
  · have hkn : k < cs.length := by have := of_decide_eq_true e; omega
    clear e
    have hkq : k < ps.length := by omega
    have hkz : k < (List.zip cs ps).length := by omega
    have hgz : (List.zip cs ps)[k] = (cs[k], ps[k]) := List.getElem_zip
    rw [List.drop_eq_getElem_cons hkz, List.all_cons, hgz] at ha
    have hps : cs[k]? = some cs[k] := List.getElem?_eq_getElem hkn
    have hpp : ps[k]? = some ps[k] := List.getElem?_eq_getElem hkq
    have hxm : cs[k] ∈ cs := List.getElem_mem hkn
    have hpm : ps[k] ∈ ps := List.getElem_mem hkq
    obtain ⟨rb, rf, rw0, r1, r2, r3, r4⟩ := (hp.mono hkp).idx slI s3' hkq
    generalize ps[k] = p at ha hpp hpm r4
    generalize cs[k] = x at ha hps hxm
    obtain ⟨b, f, ro, cells, q1, q2, q3, q4, q5, _⟩ := row_idx (SlAt.mono hc hkp) slcR scR hps
    have qp := part_at pcR q4 q5
    repeat refine S.seq ?_
    refine S.skip ?_
    simp (disch := first | omega | (simp only [add_nx, upd_nx] <;> omega) | decide) only [rUz, ↓reduceIte, Nat.reduceEqDiff, Nat.reduceAdd]
    repeat refine S.seq ?_
    refine S.block ?_
    repeat refine S.seq ?_
    refine S.region ?_
    simp (disch := first | omega | (simp only [add_nx, upd_nx] <;> omega) | decide) only [rUz, ↓reduceIte, Nat.reduceEqDiff, Nat.reduceAdd, t15, t17, q1, q3, qp, wr_alloc zcR]
    refine wr_storeN (B := h.nx) (c := [iv 0, iv 0]) (fam := h.nx) (k := h.nx) (l := c2 x) (by simp (disch := first | omega | (simp only [add_nx, upd_nx] <;> omega) | decide) only [rUz, ↓reduceIte, Nat.reduceEqDiff, Nat.reduceAdd]) (by simp (disch := first | omega | (simp only [add_nx, upd_nx] <;> omega) | decide) only [rUz, ↓reduceIte, Nat.reduceEqDiff, Nat.reduceAdd]) scR (by omega) rfl (ag_eq rfl) (af_eq rfl) rfl ?_
    have hk0 : Kp h ((h.add [iv 0, iv 0]).upd h.nx (c2 x) h.nx) := Kp.refl.add.upd (Nat.le_refl _)
    have hk4 : Kp h0 ((h.add [iv 0, iv 0]).upd h.nx (c2 x) h.nx) := hkp.add.upd hnx
    have hg4 : ((h.add [iv 0, iv 0]).upd h.nx (c2 x) h.nx).bl.get h.nx = some (.cells (c2 x) h.nx false) := upd_eq _ _ _
    simp (disch := first | omega | (simp only [add_nx, upd_nx] <;> omega) | decide) only [rUz, ↓reduceIte, Nat.reduceEqDiff, Nat.reduceAdd]
    generalize (h.add [iv 0, iv 0]).upd h.nx (c2 x) h.nx = h4 at hk0 hk4 hg4 ⊢
    have hr3 := (hk0.get r2).trans r3
    generalize h.nx = B8 at hg4 ⊢
    repeat refine S.seq ?_
    refine S.region ?_
    simp (disch := first | omega | (simp only [add_nx, upd_nx] <;> omega) | decide) only [rUz, ↓reduceIte, Nat.reduceEqDiff, Nat.reduceAdd, t1, r1, hr3, p3, r4]
    repeat refine S.seq ?_
    refine S.region ?_
    simp (disch := first | omega | (simp only [add_nx, upd_nx] <;> omega) | decide) only [rUz, ↓reduceIte, Nat.reduceEqDiff, Nat.reduceAdd, t2, hg4, part_0 pcR (c2_len x)]
    refine wr_brings (fid := G) (first := #[]) (captured := #[]) (Post := fun u _ => u = .bool (q (x, p))) (by simp (disch := first | omega | (simp only [add_nx, upd_nx] <;> omega) | decide) only [rUz, ↓reduceIte, Nat.reduceEqDiff, Nat.reduceAdd]) (hoff _ _ _ hG) (by simp (disch := first | omega | (simp only [add_nx, upd_nx] <;> omega) | decide) only [rUz, ↓reduceIte, Nat.reduceEqDiff, Nat.reduceAdd]; exact hq _ hk4 x p hxm hpm) ?_
    rintro u g hkg rfl
    simp (disch := first | omega | (simp only [add_nx, upd_nx] <;> omega) | decide) only [rUz, ↓reduceIte, Nat.reduceEqDiff, Nat.reduceAdd, un_not]
    cases hqp : q (x, p) with
    | true =>
      rw [hqp, Bool.true_and] at ha
      repeat refine S.seq ?_
      refine S.cond (v := false) (by first | rfl | (simp (disch := first | omega | (simp only [add_nx, upd_nx] <;> omega) | decide) only [rUz, ↓reduceIte, Nat.reduceEqDiff, Nat.reduceAdd, hqp, Bool.not_true] <;> rfl)) (fun e => by cases e) (fun _ => ?_)
      repeat refine S.seq ?_
      refine S.skip ?_
      simp (disch := first | omega | (simp only [add_nx, upd_nx] <;> omega) | decide) only [rUz, ↓reduceIte, Nat.reduceEqDiff, Nat.reduceAdd]
      repeat refine S.seq ?_
      refine S.region ?_
      simp (disch := first | omega | (simp only [add_nx, upd_nx] <;> omega) | decide) only [rUz, ↓reduceIte, Nat.reduceEqDiff, Nat.reduceAdd, t17]
      refine hn (k + 1) _ _ (by omega) ⟨hk4.trans hkg, ha, ?_, ?_, ?_, ?_, ?_, by omega⟩
      all_goals (first | rfl | (simp (disch := first | omega | (simp only [add_nx, upd_nx] <;> omega) | decide) only [rUz, ↓reduceIte, Nat.reduceEqDiff, Nat.reduceAdd, t1, t2, t15, t16]; done) | (simp (disch := first | omega | (simp only [add_nx, upd_nx] <;> omega) | decide) only [rUz, ↓reduceIte, Nat.reduceEqDiff, Nat.reduceAdd, t1, t2, t15, t16]; rfl))
    | false =>
      rw [hqp, Bool.false_and] at ha
      repeat refine S.seq ?_
      refine S.cond (v := true) (by first | rfl | (simp (disch := first | omega | (simp only [add_nx, upd_nx] <;> omega) | decide) only [rUz, ↓reduceIte, Nat.reduceEqDiff, Nat.reduceAdd, hqp, Bool.not_false] <;> rfl)) (fun _ => ?_) (fun e => by cases e)
      repeat refine S.seq ?_
      refine S.region ?_
      simp (disch := first | omega | (simp only [add_nx, upd_nx] <;> omega) | decide) only [rUz, ↓reduceIte, Nat.reduceEqDiff, Nat.reduceAdd]
      refine S.ret ?_
      simp only [seqK_ret, blockK_ret]
      refine he _ _ _ _ (fun e => by cases e) ?_
      try simp only [seqK_ret, blockK_ret]
      subst hF
      simp only [finish, endMarks]
      rw [show Try.f103.results.toList = [.tmp 6] from rfl]
      simp (disch := first | omega | (simp only [add_nx, upd_nx] <;> omega) | decide) only [resA, ev_tmp, tget_ne, tget_eq, get_ne, get_eq, upd_eq, upd_ne, ag_eq, ag_ne, result1]
      exact hKb ha _ (hk4.trans hkg)
  have hkn : k = cs.length := by have := of_decide_eq_false e; omega
  subst hkn
  rw [List.drop_of_length_le (Nat.le_of_eq hzl), List.all_nil] at ha
  refine S.exit (he _ _ _ _ (fun e => by cases e) ?_)
  simp (disch := first | omega | (simp only [add_nx, upd_nx] <;> omega) | decide) only [rUz, ↓reduceIte, Nat.reduceEqDiff, Nat.reduceAdd]
  repeat refine S.seq ?_
  refine S.region ?_
  simp (disch := first | omega | (simp only [add_nx, upd_nx] <;> omega) | decide) only [rUz, ↓reduceIte, Nat.reduceEqDiff, Nat.reduceAdd]
  refine S.ret ?_
  try simp only [seqK_ret, blockK_ret]
  subst hF
  simp only [finish, endMarks]
  rw [show Try.f103.results.toList = [.tmp 6] from rfl]
  simp (disch := first | omega | (simp only [add_nx, upd_nx] <;> omega) | decide) only [resA, ev_tmp, tget_ne, tget_eq, get_ne, get_eq, upd_eq, upd_ne, ag_eq, ag_ne, result1]
  exact hKg ha _ hkp

end Go.Proofs.Mg
