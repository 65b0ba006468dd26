import Derived.Test.YtemmpnipmklacaaRpA
namespace Go.Proofs.Rg
open Go Go.Ev
set_option linter.unusedSimpArgs false

/-! ## Parts of the numbers -/
variable {pr : Prim} {R : ExT}
def partB : List C4 → List Int → Bool
  | c :: cs, a :: am => inB a 0 c.2.2.1 && partB cs am
  | [], [] => true
  | _, _ => false
theorem partB_len : ∀ {cs : List C4} {am : List Int}, partB cs am = true → am.length = cs.length
  | [], [], _ => rfl
  | [], _ :: _, h => by simp [partB] at h
  | _ :: _, [], h => by simp [partB] at h
  | c :: cs, a :: am, h => by
    simp only [partB, Bool.and_eq_true] at h
    simp [partB_len h.2]
theorem partB_ne : ∀ {cs : List C4} {am : List Int}, am.length ≠ cs.length → partB cs am = false := fun {cs am} h => by
  cases e : partB cs am with
  | false => rfl
  | true => exact absurd (partB_len e) h
theorem partB_bnd {n : Nat} : ∀ {cs : List C4} {am : List Int}, Hs n cs → partB cs am = true → bnd 200000 am
  | [], [], _, _ => fun x hx => by cases hx
  | [], _ :: _, _, h => by simp [partB] at h
  | _ :: _, [], _, h => by simp [partB] at h
  | c :: cs, a :: am, hv, h => by
    simp only [partB, inB, Bool.and_eq_true, decide_eq_true_eq] at h
    obtain ⟨⟨h1, h2⟩, h3⟩ := h
    intro x hx
    rcases List.mem_cons.1 hx with rfl | hx
    · have := (hv c (by simp)).2; omega
    · exact partB_bnd (fun c hc => hv c (by simp [hc])) h3 x hx

def IEq (cs : List C4) (am : List Int) (H : AHeap) (cv av fv : Value) (k : Nat) (t : T Value) (h : AHeap) : Prop :=
  k ≤ cs.length ∧ Kp H h ∧ partB cs am = partB (cs.drop k) (am.drop k) ∧ tget t 1 = av ∧ tget t 2 = fv ∧ tget t 15 = cv ∧ tget t 16 = iv (cs.length : Int) ∧ tget t 17 = iv (k : Int)
set_option maxHeartbeats 8000000 in
theorem eqf_y (S : Ev.Steps Try.prog pr R) (hoff : Off pr) (h0 : AHeap) (cv : Value) (cs : List C4) (hc : CAt h0 cv cs) (hsz : cs.length ≤ 12) (av : Value) (am : List Int) (ha : IAt h0 av am) :
    Brings Try.prog R 77 [cv, av, .func (.func 78) #[] #[]] h0 fun u _ => u = .bool (partB cs am) := by
  refine brings_of (fn := Try.f77) (c := (Try.f77.body).getD .skip) (by kernel_rfl) rfl (by kernel_rfl) rfl (fun K hK => ?_)
  generalize hF : finish Try.prog Try.f77 K = KF
  simp only [Try.f77, Option.getD_some, argsT, setArgs, fV1_eq, T.setK_eq, id]
  have hlc := fun t h1 o => hc.len isB t h1 o
  have hla := fun t h1 o => ha.len isI t h1 o
  repeat refine S.seq ?_
  refine S.region ?_
  simp (disch := first | omega | (simp only [add_nx, upd_nx] <;> omega) | decide) only [rUz, ↓reduceIte, Nat.reduceEqDiff, Nat.reduceAdd]
  by_cases hl : (cs.length : Int) = (am.length : Int)
  · have hd : (!decide ((cs.length : Int) = (am.length : Int))) = false := by rw [decide_eq_true hl]; rfl
    repeat refine S.seq ?_
    refine S.region ?_
    simp (disch := first | omega | (simp only [add_nx, upd_nx] <;> omega) | decide) only [rUz, ↓reduceIte, Nat.reduceEqDiff, Nat.reduceAdd, hlc, hla, hd]
    repeat refine S.seq ?_
    refine S.cond (v := false) (by first | rfl | (simp (disch := first | omega | (simp only [add_nx, upd_nx] <;> omega) | decide) only [rUz, ↓reduceIte, Nat.reduceEqDiff, Nat.reduceAdd] <;> rfl)) (fun e => by cases e) (fun _ => ?_)
    repeat refine S.seq ?_
    refine S.skip ?_
    simp (disch := first | omega | (simp only [add_nx, upd_nx] <;> omega) | decide) only [rUz, ↓reduceIte, Nat.reduceEqDiff, Nat.reduceAdd]
    repeat refine S.seq ?_
    refine S.region ?_
    simp (disch := first | omega | (simp only [add_nx, upd_nx] <;> omega) | decide) only [rUz, ↓reduceIte, Nat.reduceEqDiff, Nat.reduceAdd, hlc]
    repeat refine S.seq ?_
    refine S.block ?_
    refine S.loop (ι := Nat) (IEq cs am h0 cv av (.func (.func 78) #[] #[])) (fun k => cs.length - k) ?_ 0 _ _ ?_
    · intro k t h ⟨hk, hkp, hpb, t1, t2, t15, t16, t17⟩ K' hn he
      repeat refine S.seq ?_
      refine S.region ?_
      simp (disch := first | omega | (simp only [add_nx, upd_nx] <;> omega) | decide) only [rUz, ↓reduceIte, Nat.reduceEqDiff, Nat.reduceAdd, t16, t17]
      repeat refine S.seq ?_
      refine S.cond (v := decide ((k : Int) < (cs.length : Int))) (by first | rfl | (simp (disch := first | omega | (simp only [add_nx, upd_nx] <;> omega) | decide) only [rUz, ↓reduceIte, Nat.reduceEqDiff, Nat.reduceAdd] <;> rfl)) (fun e => ?_) (fun e => ?_)
      · have hkn : k < cs.length := by have := of_decide_eq_true e; omega
        clear e
        have hka : k < am.length := by omega
        have hps : cs[k]? = some cs[k] := List.getElem?_eq_getElem hkn
        rw [List.drop_eq_getElem_cons hkn, List.drop_eq_getElem_cons hka] at hpb
        simp only [partB] at hpb
        obtain ⟨b1, f1, ro1, a1, a2, a3, a4⟩ := (ha.mono hkp).idx slI s3' hka
        generalize cs[k] = c at hps hpb
        generalize am[k] = a at hpb a4
        obtain ⟨b, f, ro, cells, q1, q2, q3, q4, q5, _⟩ := (hc.mono hkp).idx slB sL hps
        have qp := part_cc pL q4 q5
        repeat refine S.seq ?_
        refine S.skip ?_
        simp (disch := first | omega | (simp only [add_nx, upd_nx] <;> omega) | decide) only [rUz, ↓reduceIte, Nat.reduceEqDiff, Nat.reduceAdd]
        repeat refine S.seq ?_
        refine S.block ?_
        repeat refine S.seq ?_
        refine S.region ?_
        simp (disch := first | omega | (simp only [add_nx, upd_nx] <;> omega) | decide) only [rUz, ↓reduceIte, Nat.reduceEqDiff, Nat.reduceAdd, t15, t17, q1, q3, qp, wr_alloc zL]
        refine wr_storeN (B := h.nx) (c := [iv 0, iv 0, iv 0, iv 0]) (fam := h.nx) (k := h.nx) (l := cc c) (by simp (disch := first | omega | (simp only [add_nx, upd_nx] <;> omega) | decide) only [rUz, ↓reduceIte, Nat.reduceEqDiff, Nat.reduceAdd]) (by simp (disch := first | omega | (simp only [add_nx, upd_nx] <;> omega) | decide) only [rUz, ↓reduceIte, Nat.reduceEqDiff, Nat.reduceAdd]) sL (by omega) rfl (ag_eq rfl) (af_eq rfl) rfl ?_
        have hk4 : Kp h ((h.add [iv 0, iv 0, iv 0, iv 0]).upd h.nx (cc c) h.nx) := Kp.refl.add.upd (Nat.le_refl _)
        have hg4 : ((h.add [iv 0, iv 0, iv 0, iv 0]).upd h.nx (cc c) h.nx).bl.get h.nx = some (.cells (cc c) h.nx false) := upd_eq _ _ _
        simp (disch := first | omega | (simp only [add_nx, upd_nx] <;> omega) | decide) only [rUz, ↓reduceIte, Nat.reduceEqDiff, Nat.reduceAdd]
        have a3' := (hk4.get a2).trans a3
        generalize (h.add [iv 0, iv 0, iv 0, iv 0]).upd h.nx (cc c) h.nx = h4 at hk4 hg4 a3' ⊢
        have hkp4 := hkp.trans hk4
        generalize h.nx = B8 at hg4 ⊢
        clear q1 q2 q3 q4 q5 qp hk4 hkp
        repeat refine S.seq ?_
        refine S.region ?_
        simp (disch := first | omega | (simp only [add_nx, upd_nx] <;> omega) | decide) only [rUz, ↓reduceIte, Nat.reduceEqDiff, Nat.reduceAdd, t1, t17, a1, a3', a4, p3]
        repeat refine S.seq ?_
        refine S.region ?_
        simp (disch := first | omega | (simp only [add_nx, upd_nx] <;> omega) | decide) only [rUz, ↓reduceIte, Nat.reduceEqDiff, Nat.reduceAdd, t2, hg4, part_c0 pL]
        refine wr_brings (fid := 78) (first := #[]) (captured := #[]) (Post := fun u _ => u = .bool (inB a 0 c.2.2.1)) (by simp (disch := first | omega | (simp only [add_nx, upd_nx] <;> omega) | decide) only [rUz, ↓reduceIte, Nat.reduceEqDiff, Nat.reduceAdd, t2]) (hoff _ _ _ rfl) (by simp (disch := first | omega | (simp only [add_nx, upd_nx] <;> omega) | decide) only [rUz, ↓reduceIte, Nat.reduceEqDiff, Nat.reduceAdd]; exact allows_y S h4 c a) ?_
        rintro u g hk5 rfl
        simp (disch := first | omega | (simp only [add_nx, upd_nx] <;> omega) | decide) only [rUz, ↓reduceIte, Nat.reduceEqDiff, Nat.reduceAdd, un_not]
        cases hi : inB a 0 c.2.2.1 with
        | true =>
          rw [hi, Bool.true_and] at hpb
          repeat refine S.seq ?_
          refine S.cond (v := false) (by first | rfl | (simp (disch := first | omega | (simp only [add_nx, upd_nx] <;> omega) | decide) only [rUz, ↓reduceIte, Nat.reduceEqDiff, Nat.reduceAdd, hi, Bool.not_true] <;> rfl)) (fun e => by cases e) (fun _ => ?_)
          repeat refine S.seq ?_
          refine S.skip ?_
          simp (disch := first | omega | (simp only [add_nx, upd_nx] <;> omega) | decide) only [rUz, ↓reduceIte, Nat.reduceEqDiff, Nat.reduceAdd]
          repeat refine S.seq ?_
          refine S.region ?_
          simp (disch := first | omega | (simp only [add_nx, upd_nx] <;> omega) | decide) only [rUz, ↓reduceIte, Nat.reduceEqDiff, Nat.reduceAdd, t17]
          refine hn (k + 1) _ _ (by omega) ⟨by omega, hkp4.trans hk5, hpb, ?_, ?_, ?_, ?_, ?_⟩
          all_goals (first | rfl | (simp (disch := first | omega | (simp only [add_nx, upd_nx] <;> omega) | decide) only [rUz, ↓reduceIte, Nat.reduceEqDiff, Nat.reduceAdd, t1, t2, t15, t16, t17]; done) | (simp (disch := first | omega | (simp only [add_nx, upd_nx] <;> omega) | decide) only [rUz, ↓reduceIte, Nat.reduceEqDiff, Nat.reduceAdd, t1, t2, t15, t16, t17]; rfl))
        | false =>
          rw [hi, Bool.false_and] at hpb
          repeat refine S.seq ?_
          refine S.cond (v := true) (by first | rfl | (simp (disch := first | omega | (simp only [add_nx, upd_nx] <;> omega) | decide) only [rUz, ↓reduceIte, Nat.reduceEqDiff, Nat.reduceAdd, hi, Bool.not_false] <;> rfl)) (fun _ => ?_) (fun e => by cases e)
          repeat refine S.seq ?_
          refine S.region ?_
          simp (disch := first | omega | (simp only [add_nx, upd_nx] <;> omega) | decide) only [rUz, ↓reduceIte, Nat.reduceEqDiff, Nat.reduceAdd]
          refine S.ret ?_
          simp only [seqK_ret, blockK_ret]
          refine he _ _ _ _ (fun e => by cases e) ?_
          simp only [seqK_ret, blockK_ret]
          subst hF
          simp only [finish, endMarks]
          rw [show Try.f77.results.toList = [.tmp 6] from rfl]
          simp (disch := omega) only [resA, ev_tmp, tget_ne, tget_eq, result1]
          exact hK _ _ (hkp4.trans hk5) (by rw [hpb])
      · have hkn : k = cs.length := by have := of_decide_eq_false e; omega
        subst hkn
        rw [List.drop_of_length_le (Nat.le_refl _), List.drop_of_length_le (by omega)] at hpb
        refine S.exit (he _ _ _ _ (fun e => by cases e) ?_)
        simp (disch := first | omega | (simp only [add_nx, upd_nx] <;> omega) | decide) only [rUz, ↓reduceIte, Nat.reduceEqDiff, Nat.reduceAdd]
        repeat refine S.seq ?_
        refine S.region ?_
        simp (disch := first | omega | (simp only [add_nx, upd_nx] <;> omega) | decide) only [rUz, ↓reduceIte, Nat.reduceEqDiff, Nat.reduceAdd]
        refine S.ret ?_
        try simp only [seqK_ret, blockK_ret]
        subst hF
        simp only [finish, endMarks]
        rw [show Try.f77.results.toList = [.tmp 6] from rfl]
        simp (disch := first | omega | (simp only [add_nx, upd_nx] <;> omega) | decide) only [resA, ev_tmp, tget_ne, tget_eq, get_ne, get_eq, upd_eq, upd_ne, ag_eq, ag_ne, result1]
        exact hK _ _ hkp (by rw [hpb]; rfl)
    · refine ⟨Nat.zero_le _, Kp.refl, rfl, ?_, ?_, ?_, ?_, ?_⟩
      all_goals (first | rfl | (simp (disch := first | omega | (simp only [add_nx, upd_nx] <;> omega) | decide) only [rUz, ↓reduceIte, Nat.reduceEqDiff, Nat.reduceAdd]; done) | (simp (disch := first | omega | (simp only [add_nx, upd_nx] <;> omega) | decide) only [rUz, ↓reduceIte, Nat.reduceEqDiff, Nat.reduceAdd]; rfl))
  · have hd : (!decide ((cs.length : Int) = (am.length : Int))) = true := by rw [decide_eq_false hl]; rfl
    rw [partB_ne (by omega)] at hK
    repeat refine S.seq ?_
    refine S.region ?_
    simp (disch := first | omega | (simp only [add_nx, upd_nx] <;> omega) | decide) only [rUz, ↓reduceIte, Nat.reduceEqDiff, Nat.reduceAdd, hlc, hla, hd]
    repeat refine S.seq ?_
    refine S.cond (v := true) (by first | rfl | (simp (disch := first | omega | (simp only [add_nx, upd_nx] <;> omega) | decide) only [rUz, ↓reduceIte, Nat.reduceEqDiff, Nat.reduceAdd] <;> rfl)) (fun _ => ?_) (fun e => by cases e)
    repeat refine S.seq ?_
    refine S.region ?_
    simp (disch := first | omega | (simp only [add_nx, upd_nx] <;> omega) | decide) only [rUz, ↓reduceIte, Nat.reduceEqDiff, Nat.reduceAdd]
    refine S.ret ?_
    try simp only [seqK_ret, blockK_ret]
    subst hF
    simp only [finish, endMarks]
    rw [show Try.f77.results.toList = [.tmp 6] from rfl]
    simp (disch := first | omega | (simp only [add_nx, upd_nx] <;> omega) | decide) only [resA, ev_tmp, tget_ne, tget_eq, get_ne, get_eq, upd_eq, upd_ne, ag_eq, ag_ne, result1]
    exact hK _ _ Kp.refl rfl

set_option maxHeartbeats 8000000 in
theorem isPart_y (S : Ev.Steps Try.prog pr R) (hoff : Off pr) (h0 : AHeap) (hs : Int) (cv : Value) (cs : List C4) (hc : CAt h0 cv cs) (hsz : cs.length ≤ 12) (av : Value) (am : List Int) (ha : IAt h0 av am) :
    Brings Try.prog R 56 [.agg ⟨[iv hs, cv]⟩, av] h0 fun u _ => u = .bool (partB cs am) := by
  refine brings_of (fn := Try.f56) (c := (Try.f56.body).getD .skip) (by kernel_rfl) rfl (by kernel_rfl) rfl (fun K hK => ?_)
  generalize hF : finish Try.prog Try.f56 K = KF
  simp only [Try.f56, Option.getD_some, argsT, setArgs, fV1_eq, T.setK_eq, id]
  repeat refine S.seq ?_
  refine S.region ?_
  simp (disch := first | omega | (simp only [add_nx, upd_nx] <;> omega) | decide) only [rUz, ↓reduceIte, Nat.reduceEqDiff, Nat.reduceAdd]
  repeat refine S.seq ?_
  refine S.region ?_
  simp (disch := first | omega | (simp only [add_nx, upd_nx] <;> omega) | decide) only [rUz, ↓reduceIte, Nat.reduceEqDiff, Nat.reduceAdd, fieldAddr_ptr fB1 sBc, pBc]
  refine wr_brings (fid := 77) (first := #[]) (captured := #[]) (Post := fun u _ => u = .bool (partB cs am)) rfl (hoff _ _ _ rfl) (by simp (disch := first | omega | (simp only [add_nx, upd_nx] <;> omega) | decide) only [rUz, ↓reduceIte, Nat.reduceEqDiff, Nat.reduceAdd]; exact eqf_y S hoff _ cv cs (hc.mono Kp.refl.add) hsz av am (ha.mono Kp.refl.add)) ?_
  rintro u g hk rfl
  simp (disch := first | omega | (simp only [add_nx, upd_nx] <;> omega) | decide) only [rUz, ↓reduceIte, Nat.reduceEqDiff, Nat.reduceAdd]
  refine S.ret ?_
  try simp only [seqK_ret, blockK_ret]
  subst hF
  simp only [finish, endMarks]
  rw [show Try.f56.results.toList = [.tmp 4] from rfl]
  simp (disch := first | omega | (simp only [add_nx, upd_nx] <;> omega) | decide) only [resA, ev_tmp, tget_ne, tget_eq, get_ne, get_eq, upd_eq, upd_ne, ag_eq, ag_ne, result1]
  exact hK _ _ (Kp.refl.add.trans hk) rfl

set_option maxHeartbeats 8000000 in
theorem isSettingOff_y (S : Ev.Steps Try.prog pr R) (hoff : Off pr) (h0 : AHeap) (n : Nat) (hn6 : n ≤ 6) (cv : Value) (cs : List C4) (hc : CAt h0 cv cs) (hsz : cs.length ≤ 12) (hv : Hs n cs) (av : Value) (am : List Int) (ha : IAt h0 av am) :
    Brings Try.prog R 49 [.agg ⟨[iv (n : Int), cv]⟩, av] h0 fun u _ => u = .bool (partB cs am && (bal n cs am).all fun x => decide (x = 0)) := by
  refine brings_of (fn := Try.f49) (c := (Try.f49.body).getD .skip) (by kernel_rfl) rfl (by kernel_rfl) rfl (fun K hK => ?_)
  generalize hF : finish Try.prog Try.f49 K = KF
  simp only [Try.f49, Option.getD_some, argsT, setArgs, fV1_eq, T.setK_eq, id]
  repeat refine S.seq ?_
  refine S.region ?_
  simp (disch := first | omega | (simp only [add_nx, upd_nx] <;> omega) | decide) only [rUz, ↓reduceIte, Nat.reduceEqDiff, Nat.reduceAdd]
  have hb1 : (h0.add [iv (n : Int), cv]).bl.get h0.nx = some (.cells [iv (n : Int), cv] h0.nx false) := ag_eq rfl
  have hk1 : Kp h0 (h0.add [iv (n : Int), cv]) := Kp.refl.add
  have hlt : h0.nx < (h0.add [iv (n : Int), cv]).nx := Nat.lt_succ_self _
  generalize h0.add [iv (n : Int), cv] = H1 at hb1 hk1 hlt ⊢
  repeat refine S.seq ?_
  refine S.region ?_
  simp (disch := first | omega | (simp only [add_nx, upd_nx] <;> omega) | decide) only [rUz, ↓reduceIte, Nat.reduceEqDiff, Nat.reduceAdd, hb1, pB]
  refine wr_brings (fid := 56) (first := #[]) (captured := #[]) (Post := fun u _ => u = .bool (partB cs am)) (by first | rfl | (simp (disch := first | omega | (simp only [add_nx, upd_nx] <;> omega) | decide) only [rUz, ↓reduceIte, Nat.reduceEqDiff, Nat.reduceAdd] <;> rfl)) (hoff _ _ _ rfl) (by simp (disch := first | omega | (simp only [add_nx, upd_nx] <;> omega) | decide) only [rUz, ↓reduceIte, Nat.reduceEqDiff, Nat.reduceAdd]; exact isPart_y S hoff _ _ cv cs (hc.mono hk1) hsz av am (ha.mono hk1)) ?_
  rintro v g hk rfl
  have hb2 := (hk.get hlt).trans hb1
  have hk2 := hk1.trans hk
  cases hp : partB cs am with
  | false =>
    rw [hp, Bool.false_and] at hK
    simp (disch := first | omega | (simp only [add_nx, upd_nx] <;> omega) | decide) only [rUz, ↓reduceIte, Nat.reduceEqDiff, Nat.reduceAdd, hp]
    refine S.ret ?_
    try simp only [seqK_ret, blockK_ret]
    subst hF
    simp only [finish, endMarks]
    rw [show Try.f49.results.toList = [.tmp 4] from rfl]
    simp (disch := first | omega | (simp only [add_nx, upd_nx] <;> omega) | decide) only [resA, ev_tmp, tget_ne, tget_eq, get_ne, get_eq, upd_eq, upd_ne, ag_eq, ag_ne, result1]
    exact hK _ _ hk2 rfl
  | true =>
    rw [hp, Bool.true_and] at hK
    simp (disch := first | omega | (simp only [add_nx, upd_nx] <;> omega) | decide) only [rUz, ↓reduceIte, Nat.reduceEqDiff, Nat.reduceAdd, hp, hb2, pB]
    refine wr_brings (fid := 43) (first := #[]) (captured := #[]) (Post := fun v h => ∃ B, v = .slice (some ⟨B, 0, none⟩) n n ∧ g.nx ≤ B ∧ Own h B (bal n cs am)) (by first | rfl | (simp (disch := first | omega | (simp only [add_nx, upd_nx] <;> omega) | decide) only [rUz, ↓reduceIte, Nat.reduceEqDiff, Nat.reduceAdd] <;> rfl)) (hoff _ _ _ rfl) (by simp (disch := first | omega | (simp only [add_nx, upd_nx] <;> omega) | decide) only [rUz, ↓reduceIte, Nat.reduceEqDiff, Nat.reduceAdd]; exact balances_y S hoff g n hn6 cv cs (hc.mono hk2) hsz hv av am (ha.mono hk2) (partB_len hp) (partB_bnd hv hp)) ?_
    rintro v g2 hk3 ⟨B, rfl, _, hO⟩
    simp (disch := first | omega | (simp only [add_nx, upd_nx] <;> omega) | decide) only [rUz, ↓reduceIte, Nat.reduceEqDiff, Nat.reduceAdd]
    refine wr_brings (fid := 71) (first := #[]) (captured := #[]) (Post := fun u _ => u = .bool ((bal n cs am).all fun x => decide (x = 0))) rfl (hoff _ _ _ rfl) (by simp (disch := first | omega | (simp only [add_nx, upd_nx] <;> omega) | decide) only [rUz, ↓reduceIte, Nat.reduceEqDiff, Nat.reduceAdd]; exact allI_y S hoff g2 _ _ (hO.at' (by rw [bal_len])) (by rw [bal_len]; omega) 72 rfl #[] (fun x => decide (x = 0)) (fun h' _ x _ => isNone_y S h' x)) ?_
    rintro u g3 hk4 rfl
    simp (disch := first | omega | (simp only [add_nx, upd_nx] <;> omega) | decide) only [rUz, ↓reduceIte, Nat.reduceEqDiff, Nat.reduceAdd]
    refine S.ret ?_
    try simp only [seqK_ret, blockK_ret]
    subst hF
    simp only [finish, endMarks]
    rw [show Try.f49.results.toList = [.tmp 4] from rfl]
    simp (disch := first | omega | (simp only [add_nx, upd_nx] <;> omega) | decide) only [resA, ev_tmp, tget_ne, tget_eq, get_ne, get_eq, upd_eq, upd_ne, ag_eq, ag_ne, result1]
    exact hK _ _ (hk2.trans (hk3.trans hk4)) rfl

set_option maxHeartbeats 8000000 in
theorem areHeights_y (S : Ev.Steps Try.prog pr R) (hoff : Off pr) (h0 : AHeap) (hs : Int) (cv av : Value) (am : List Int) (ha : IAt h0 av am) (hsz : am.length ≤ 1000) :
    Brings Try.prog R 50 [.agg ⟨[iv hs, cv]⟩, av] h0 fun u _ => u = .bool (decide ((am.length : Int) = hs) && am.all fun x => inB x (-10) 10) := by
  refine brings_of (fn := Try.f50) (c := (Try.f50.body).getD .skip) (by kernel_rfl) rfl (by kernel_rfl) rfl (fun K hK => ?_)
  generalize hF : finish Try.prog Try.f50 K = KF
  simp only [Try.f50, Option.getD_some, argsT, setArgs, fV1_eq, T.setK_eq, id]
  have hla := fun t h1 o => ha.len isI t h1 o
  repeat refine S.seq ?_
  refine S.region ?_
  simp (disch := first | omega | (simp only [add_nx, upd_nx] <;> omega) | decide) only [rUz, ↓reduceIte, Nat.reduceEqDiff, Nat.reduceAdd]
  by_cases hl : (am.length : Int) = hs
  · rw [decide_eq_true hl, Bool.true_and] at hK
    repeat refine S.seq ?_
    refine S.region ?_
    simp (disch := first | omega | (simp only [add_nx, upd_nx] <;> omega) | decide) only [rUz, ↓reduceIte, Nat.reduceEqDiff, Nat.reduceAdd, hla, fieldAddr_ptr fB0 s3, p3, decide_eq_true hl]
    refine wr_brings (fid := 71) (first := #[]) (captured := #[]) (Post := fun u _ => u = .bool (am.all fun x => inB x (-10) 10)) rfl (hoff _ _ _ rfl) (by simp (disch := first | omega | (simp only [add_nx, upd_nx] <;> omega) | decide) only [rUz, ↓reduceIte, Nat.reduceEqDiff, Nat.reduceAdd]; exact allI_y S hoff _ av am (ha.mono Kp.refl.add) (by omega) 73 rfl #[] (fun x => inB x (-10) 10) (fun h' _ x _ => isHeight_y S h' x)) ?_
    rintro u g hk rfl
    simp (disch := first | omega | (simp only [add_nx, upd_nx] <;> omega) | decide) only [rUz, ↓reduceIte, Nat.reduceEqDiff, Nat.reduceAdd]
    refine S.ret ?_
    try simp only [seqK_ret, blockK_ret]
    subst hF
    simp only [finish, endMarks]
    rw [show Try.f50.results.toList = [.tmp 4] from rfl]
    simp (disch := first | omega | (simp only [add_nx, upd_nx] <;> omega) | decide) only [resA, ev_tmp, tget_ne, tget_eq, get_ne, get_eq, upd_eq, upd_ne, ag_eq, ag_ne, result1]
    exact hK _ _ (Kp.refl.add.trans hk) rfl
  · rw [decide_eq_false hl, Bool.false_and] at hK
    repeat refine S.seq ?_
    refine S.region ?_
    simp (disch := first | omega | (simp only [add_nx, upd_nx] <;> omega) | decide) only [rUz, ↓reduceIte, Nat.reduceEqDiff, Nat.reduceAdd, hla, fieldAddr_ptr fB0 s3, p3, decide_eq_false hl]
    refine S.ret ?_
    try simp only [seqK_ret, blockK_ret]
    subst hF
    simp only [finish, endMarks]
    rw [show Try.f50.results.toList = [.tmp 4] from rfl]
    simp (disch := first | omega | (simp only [add_nx, upd_nx] <;> omega) | decide) only [resA, ev_tmp, tget_ne, tget_eq, get_ne, get_eq, upd_eq, upd_ne, ag_eq, ag_ne, result1]
    exact hK _ _ Kp.refl.add rfl
end Go.Proofs.Rg
