import Derived.Test.YtkocecoddghmbaaGreatPt3
import Derived.Test.YtkocecoddghmbaaGreatPoP
import Derived.Test.YtkocecoddghmbaaGreatPoT
/- Records are explained sale by sale exactly if none is recorded more often than it happened. Pure. -/
namespace Go.Proofs.Po
set_option linter.unusedSimpArgs false
/-- How often a sale is among those that are not used yet. -/
def frC (s : Sa) : List Sa → List Bool → Int
  | a :: l, b :: u => (bif eqSa s a && !b then 1 else 0) + frC s l u
  | [], _ => 0
  | _ :: _, [] => 0
theorem frC_nn (s : Sa) : ∀ (l : List Sa) (u : List Bool), 0 ≤ frC s l u
  | a :: l, b :: u => by
    have := frC_nn s l u
    unfold frC
    cases eqSa s a && !b with
    | true => simp only [cond_true]; omega
    | false => simp only [cond_false]; omega
  | [], _ => Int.le_refl _
  | _ :: _, [] => Int.le_refl _
theorem frC_rep (s : Sa) : ∀ l : List Sa, frC s l (List.replicate l.length false) = cnS s l
  | [] => rfl
  | a :: l => by
    rw [List.length_cons, List.replicate_succ]
    unfold frC cnS
    rw [frC_rep s l, Bool.not_false, Bool.and_true]
theorem eqSa_comm (x y : Sa) : eqSa x y = eqSa y x := by
  rw [Bool.eq_iff_iff, eqSa_iff, eqSa_iff]
  exact ⟨fun h => h.symm, fun h => h.symm⟩
theorem fst_none {r : Sa} : ∀ {l : List Sa} {u : List Bool} {j : Nat}, fstU r l u j = none → frC r l u = 0
  | a :: l, b :: u, j, h => by
    unfold fstU at h
    unfold frC
    rw [eqSa_comm r a]
    cases hq : eqSa a r && !b with
    | true => rw [hq, cond_true] at h; cases h
    | false =>
      rw [hq, cond_false] at h
      rw [cond_false, fst_none h]; rfl
  | [], _, _, _ => rfl
  | _ :: _, [], _, _ => rfl
theorem fst_some {r : Sa} : ∀ {l : List Sa} {u : List Bool} {j k : Nat}, fstU r l u j = some k → j ≤ k ∧ ∀ s, frC s l (u.set (k - j) true) = frC s l u - bif eqSa s r then 1 else 0
  | a :: l, b :: u, j, k, h => by
    unfold fstU at h
    cases hq : eqSa a r && !b with
    | true =>
      rw [hq, cond_true] at h
      obtain rfl : j = k := by injection h
      rw [Bool.and_eq_true] at hq
      obtain rfl := eqSa_iff.1 hq.1
      obtain rfl : b = false := by have := hq.2; cases b <;> simp_all
      refine ⟨Nat.le_refl _, fun s => ?_⟩
      rw [Nat.sub_self, List.set_cons_zero]
      unfold frC
      cases eqSa s a <;> simp <;> omega
    | false =>
      rw [hq, cond_false] at h
      obtain ⟨h1, h2⟩ := fst_some h
      refine ⟨by omega, fun s => ?_⟩
      rw [show k - j = (k - (j + 1)) + 1 by omega, List.set_cons_succ]
      unfold frC
      rw [h2 s]; omega
  | [], _, _, _, h => by simp [fstU] at h
  | _ :: _, [], _, _, h => by simp [fstU] at h
theorem ex_iff (l : List Sa) : ∀ (R : List Sa) (u : List Bool), exZ l R u = true ↔ ∀ s, cnS s R ≤ frC s l u
  | [], u => ⟨fun _ s => frC_nn s l u, fun _ => rfl⟩
  | r :: R, u => by
    have e1 : eqSa r r = true := eqSa_iff.2 rfl
    cases hf : fstU r l u 0 with
    | none =>
      rw [ex_none hf]
      refine ⟨(fun h => by cases h), fun h => ?_⟩
      have h1 := h r
      rw [fst_none hf] at h1
      unfold cnS at h1
      rw [e1, cond_true] at h1
      have := (cnS_bnd r R).1
      omega
    | some k =>
      rw [ex_some hf, ex_iff l R]
      obtain ⟨_, h2⟩ := fst_some hf
      rw [Nat.sub_zero] at h2
      constructor
      · intro h s
        have := h s
        rw [h2 s] at this
        unfold cnS; omega
      · intro h s
        have := h s
        unfold cnS at this
        rw [h2 s]; omega
theorem cn_none {s : Sa} : ∀ {R : List Sa}, s ∉ R → cnS s R = 0
  | [], _ => rfl
  | a :: R, h => by
    unfold cnS
    have h1 : eqSa s a = false := by
      cases q : eqSa s a with
      | false => rfl
      | true => obtain rfl := eqSa_iff.1 q; exact absurd (by simp) h
    rw [h1, cond_false, cn_none (R := R) fun q => h (by simp [q])]; rfl
theorem ex_eq (l R : List Sa) : exZ l R (List.replicate l.length false) = R.all fun s => decide (cnS s R ≤ cnS s l) := by
  rw [Bool.eq_iff_iff, ex_iff, List.all_eq_true]
  constructor
  · intro h s _
    have := h s
    rw [frC_rep] at this
    exact decide_eq_true this
  · intro h s
    rw [frC_rep]
    by_cases hs : s ∈ R
    · exact of_decide_eq_true (h s hs)
    · rw [cn_none hs]; exact (cnS_bnd s l).1
end Go.Proofs.Po

/- PostProves. -/
namespace Go.Proofs.Po
open Go Go.Ev Go.RowKit
set_option linter.unusedSimpArgs false
variable {pr : Prim} {R : ExT}
theorem eqB {i j : Nat} (hij : i ≠ j) {t : T Value} {ty : TypeId} {pos : String} {af : Array Edge} {g : Option (Nat × Bool)} {dst : Option Tmp} {p q : Bool} (h1 : tget t i = .bool p) (h2 : tget t j = .bool q)
    (hr : ground Tryz.prog (T.set (j + 1) (T.set (i + 1) .leaf i (.bool p)) j (.bool q)) ⟨dst, .binOp .eql 4 (.tmp i) (.tmp j) 4, ty, pos, af, g⟩ = some (.bool (p == q))) :
    rBin Tryz.prog t ⟨dst, .binOp .eql 4 (.tmp i) (.tmp j) 4, ty, pos, af, g⟩ .eql 4 (.bool q) (.bool p) = some (.bool (p == q)) := by
  rw [rBin_bool, nilB]
  exact bin_congr (t' := T.set (j + 1) (T.set (i + 1) .leaf i (.bool p)) j (.bool q)) h1 h2 (by rw [tget_ne (Nat.lt_succ_self _) hij, tget_eq (Nat.lt_succ_self _)]) (tget_eq (Nat.lt_succ_self _)) hr
theorem eq39 {t : T Value} {ty : TypeId} {pos : String} {af : Array Edge} {g : Option (Nat × Bool)} {dst : Option Tmp} {p : Bool} (h1 : tget t 39 = .bool p) (h2 : tget t 47 = .bool p) :
    rBin Tryz.prog t ⟨dst, .binOp .eql 4 (.tmp 39) (.tmp 47) 4, ty, pos, af, g⟩ .eql 4 (.bool p) (.bool p) = some (.bool true) := by
  have := eqB (i := 39) (j := 47) (by decide) (ty := ty) (pos := pos) (af := af) (g := g) (dst := dst) h1 h2 (by cases p <;> kernel_rfl)
  rw [this]; cases p <;> rfl
set_option maxRecDepth 100000 in
set_option maxHeartbeats 32000000 in
theorem proves_law (S : Ev.Steps Tryz.prog pr R) (hT : Tab pr) (h0 : AHeap) (v : Value) (O : List Od) (hb : PoAt h0 v O) (tv : Value) (t0 : List Int) (ht : IS h0 tv t0) (w : Value) (L : List Sa) (hw : SlAt h0 4 w (L.map cSa)) :
    Brings Tryz.prog R 5 [.agg ⟨poV v⟩, tv, w] h0 fun u _ => u = .bool true := by
  have hoff := hT.off
  refine brings_of (fn := Tryz.f5) (c := (Tryz.f5.body).getD .skip) (by kernel_rfl) rfl (by kernel_rfl) rfl (fun K hK => ?_)
  generalize hF : finish Tryz.prog Tryz.f5 K = KF
  simp only [Tryz.f5, Option.getD_some, argsT, setArgs, fV1_eq, T.setK_eq, id]
  have hKr : ∀ g, Kp h0 g → K (.bool true) g = true := fun g hk => hK _ _ hk rfl
  clear hK
  have awake : ∀ {ops : Array Oper} {n : Nat} {rest : List Oper} {t : T Value} {h : AHeap} {KR : T Value → AHeap → Bool} {dst : Option Tmp}, putR Tryz.prog (withPrim pr (callVal Tryz.prog R)) ops n rest dst t (.bool true) h KR = true →
      wrR Tryz.prog (withPrim pr (callVal Tryz.prog R)) ops n rest (.call ⟨.value (.func 11), #[], #[]⟩) dst t h KR = true := fun k => wr_prim (fid := 11) (first := #[]) (captured := #[]) (v := .bool true) rfl (hT.awake _) k
  have lT : ∀ t h1 o, rLen Tryz.prog t h1 o 25 tv = some (iv (t0.length : Int)) := fun t h1 o => ht.at.len isI t h1 o
  have lS := fun t h1 o => row_len hw isrS t h1 o
  repeat refine S.seq ?_
  refine S.region ?_
  simp (disch := first | omega | (simp only [add_nx, upd_nx] <;> omega) | decide) only [rUz, ↓reduceIte, Nat.reduceEqDiff, Nat.reduceAdd]
  have hb1 : (h0.add (poV v)).bl.get h0.nx = some (.cells (poV v) h0.nx false) := ag_eq rfl
  have hn1 : h0.nx < (h0.add (poV v)).nx := Nat.lt_succ_self _
  have hk1 : Kp h0 (h0.add (poV v)) := Kp.refl.add
  generalize h0.add (poV v) = H at hb1 hn1 hk1 ⊢
  generalize h0.nx = B1 at hb1 hn1 ⊢
  repeat refine S.seq ?_
  refine S.region ?_
  simp (disch := first | omega | (simp only [add_nx, upd_nx] <;> omega) | decide) only [rUz, ↓reduceIte, Nat.reduceEqDiff, Nat.reduceAdd, hb1, part_0 pA (poV_len v)]
  refine wr_brings (fid := 10) (first := #[]) (captured := #[]) (Post := fun u _ => u = .bool (decide ((O.length : Int) ≤ 9))) rfl (hoff _ _ _ rfl) (by simp (disch := first | omega | (simp only [add_nx, upd_nx] <;> omega) | decide) only [rUz, ↓reduceIte, Nat.reduceEqDiff, Nat.reduceAdd]; exact thin_y S H v O (hb.mono hk1)) ?_
  rintro u g hkg rfl
  replace hb1 := (hkg.get hn1).trans hb1
  replace hn1 := Nat.lt_of_lt_of_le hn1 hkg.1
  replace hk1 := hk1.trans hkg
  clear hkg
  clear H
  cases hth : decide ((O.length : Int) ≤ 9) with
  | false =>
    simp (disch := first | omega | (simp only [add_nx, upd_nx] <;> omega) | decide) only [rUz, ↓reduceIte, Nat.reduceEqDiff, Nat.reduceAdd, un_not, hth, Bool.not_false]
    repeat refine S.seq ?_
    refine S.cond (v := true) (by first | rfl | (simp (disch := first | omega | (simp only [add_nx, upd_nx] <;> omega) | decide) only [rUz, ↓reduceIte, Nat.reduceEqDiff, Nat.reduceAdd] <;> rfl)) (fun _ => ?_) (fun e => by cases e)
    repeat refine S.seq ?_
    refine S.region ?_
    simp (disch := first | omega | (simp only [add_nx, upd_nx] <;> omega) | decide) only [rUz, ↓reduceIte, Nat.reduceEqDiff, Nat.reduceAdd]
    refine awake ?_
    simp (disch := first | omega | (simp only [add_nx, upd_nx] <;> omega) | decide) only [rUz, ↓reduceIte, Nat.reduceEqDiff, Nat.reduceAdd]
    refine S.ret ?_
    try simp only [seqK_ret, blockK_ret]
    subst hF
    simp only [finish, endMarks]
    rw [show Tryz.f5.results.toList = [.tmp 6] from rfl]
    simp (disch := first | omega | (simp only [add_nx, upd_nx] <;> omega) | decide) only [resA, ev_tmp, tget_ne, tget_eq, get_ne, get_eq, upd_eq, upd_ne, ag_eq, ag_ne, result1]
    exact hKr _ hk1
  | true =>
  have h9' : O.length ≤ 9 := by have := of_decide_eq_true hth; omega
  cases h11 : decide (11 < (t0.length : Int)) with
  | true =>
    simp (disch := first | omega | (simp only [add_nx, upd_nx] <;> omega) | decide) only [rUz, ↓reduceIte, Nat.reduceEqDiff, Nat.reduceAdd, un_not, hth, Bool.not_true, lT, h11]
    repeat refine S.seq ?_
    refine S.cond (v := true) (by first | rfl | (simp (disch := first | omega | (simp only [add_nx, upd_nx] <;> omega) | decide) only [rUz, ↓reduceIte, Nat.reduceEqDiff, Nat.reduceAdd] <;> rfl)) (fun _ => ?_) (fun e => by cases e)
    repeat refine S.seq ?_
    refine S.region ?_
    simp (disch := first | omega | (simp only [add_nx, upd_nx] <;> omega) | decide) only [rUz, ↓reduceIte, Nat.reduceEqDiff, Nat.reduceAdd]
    refine awake ?_
    simp (disch := first | omega | (simp only [add_nx, upd_nx] <;> omega) | decide) only [rUz, ↓reduceIte, Nat.reduceEqDiff, Nat.reduceAdd]
    refine S.ret ?_
    try simp only [seqK_ret, blockK_ret]
    subst hF
    simp only [finish, endMarks]
    rw [show Tryz.f5.results.toList = [.tmp 6] from rfl]
    simp (disch := first | omega | (simp only [add_nx, upd_nx] <;> omega) | decide) only [resA, ev_tmp, tget_ne, tget_eq, get_ne, get_eq, upd_eq, upd_ne, ag_eq, ag_ne, result1]
    exact hKr _ hk1
  | false =>
  have h11' : t0.length ≤ 11 := by have := of_decide_eq_false h11; omega
  cases hr9 : decide (9 < (L.length : Int)) with
  | true =>
    simp (disch := first | omega | (simp only [add_nx, upd_nx] <;> omega) | decide) only [rUz, ↓reduceIte, Nat.reduceEqDiff, Nat.reduceAdd, un_not, hth, Bool.not_true, lT, lS, h11, hr9]
    repeat refine S.seq ?_
    refine S.cond (v := true) (by first | rfl | (simp (disch := first | omega | (simp only [add_nx, upd_nx] <;> omega) | decide) only [rUz, ↓reduceIte, Nat.reduceEqDiff, Nat.reduceAdd] <;> rfl)) (fun _ => ?_) (fun e => by cases e)
    repeat refine S.seq ?_
    refine S.region ?_
    simp (disch := first | omega | (simp only [add_nx, upd_nx] <;> omega) | decide) only [rUz, ↓reduceIte, Nat.reduceEqDiff, Nat.reduceAdd]
    refine awake ?_
    simp (disch := first | omega | (simp only [add_nx, upd_nx] <;> omega) | decide) only [rUz, ↓reduceIte, Nat.reduceEqDiff, Nat.reduceAdd]
    refine S.ret ?_
    try simp only [seqK_ret, blockK_ret]
    subst hF
    simp only [finish, endMarks]
    rw [show Tryz.f5.results.toList = [.tmp 6] from rfl]
    simp (disch := first | omega | (simp only [add_nx, upd_nx] <;> omega) | decide) only [resA, ev_tmp, tget_ne, tget_eq, get_ne, get_eq, upd_eq, upd_ne, ag_eq, ag_ne, result1]
    exact hKr _ hk1
  | false =>
  have hr9' : L.length ≤ 9 := by have := of_decide_eq_false hr9; omega
  simp (disch := first | omega | (simp only [add_nx, upd_nx] <;> omega) | decide) only [rUz, ↓reduceIte, Nat.reduceEqDiff, Nat.reduceAdd, un_not, hth, Bool.not_true, lT, lS, h11, hr9]
  repeat refine S.seq ?_
  refine S.cond (v := false) (by first | rfl | (simp (disch := first | omega | (simp only [add_nx, upd_nx] <;> omega) | decide) only [rUz, ↓reduceIte, Nat.reduceEqDiff, Nat.reduceAdd] <;> rfl)) (fun e => by cases e) (fun _ => ?_)
  repeat refine S.seq ?_
  refine S.skip ?_
  simp (disch := first | omega | (simp only [add_nx, upd_nx] <;> omega) | decide) only [rUz, ↓reduceIte, Nat.reduceEqDiff, Nat.reduceAdd]
  clear lT lS h11 hr9 hth
  repeat refine S.seq ?_
  refine S.region ?_
  simp (disch := first | omega | (simp only [add_nx, upd_nx] <;> omega) | decide) only [rUz, ↓reduceIte, Nat.reduceEqDiff, Nat.reduceAdd, hb1, part_0 pA (poV_len v)]
  refine wr_brings (fid := 13) (first := #[]) (captured := #[]) (Post := fun u h => ∃ v', u = .agg ⟨poV v'⟩ ∧ PoAt h v' O) rfl (hoff _ _ _ rfl) (by simp (disch := first | omega | (simp only [add_nx, upd_nx] <;> omega) | decide) only [rUz, ↓reduceIte, Nat.reduceEqDiff, Nat.reduceAdd]; exact postC_y S hoff g v O (hb.mono hk1) h9') ?_
  rintro u g2 hkg2 ⟨v2, rfl, hb2⟩
  simp (disch := first | omega | (simp only [add_nx, upd_nx] <;> omega) | decide) only [rUz, ↓reduceIte, Nat.reduceEqDiff, Nat.reduceAdd]
  refine wr_brings (fid := 14) (first := #[]) (captured := #[]) (Post := fun u h => IAt h u t0) rfl (hoff _ _ _ rfl) (by simp (disch := first | omega | (simp only [add_nx, upd_nx] <;> omega) | decide) only [rUz, ↓reduceIte, Nat.reduceEqDiff, Nat.reduceAdd]; exact list_y S g2 tv t0 (ht.mono (hk1.trans hkg2)) (by omega)) ?_
  rintro tv2 g3 hkg3 ht2
  simp (disch := first | omega | (simp only [add_nx, upd_nx] <;> omega) | decide) only [rUz, ↓reduceIte, Nat.reduceEqDiff, Nat.reduceAdd]
  refine wr_brings (fid := 24) (first := #[]) (captured := #[]) (Post := fun u h => SlAt h 4 u (L.map cSa)) rfl (hoff _ _ _ rfl) (by simp (disch := first | omega | (simp only [add_nx, upd_nx] <;> omega) | decide) only [rUz, ↓reduceIte, Nat.reduceEqDiff, Nat.reduceAdd]; exact salesC_y S g3 w L (SlAt.mono hw ((hk1.trans hkg2).trans hkg3)) (by omega)) ?_
  rintro w2 g4 hkg4 hs2
  simp (disch := first | omega | (simp only [add_nx, upd_nx] <;> omega) | decide) only [rUz, ↓reduceIte, Nat.reduceEqDiff, Nat.reduceAdd]
  refine wr_brings (fid := 23) (first := #[]) (captured := #[]) (Post := fun u _ => u = .bool (proveZ O t0 L)) rfl (hoff _ _ _ rfl) (by simp (disch := first | omega | (simp only [add_nx, upd_nx] <;> omega) | decide) only [rUz, ↓reduceIte, Nat.reduceEqDiff, Nat.reduceAdd]; exact prove_y S hoff g4 v2 tv2 w2 O t0 L (hb2.mono (hkg3.trans hkg4)) (ht2.mono hkg4) hs2 h9' (by omega)) ?_
  rintro u g5 hkg5 rfl
  have hkg25 := ((hkg2.trans hkg3).trans hkg4).trans hkg5
  replace hb1 := (hkg25.get hn1).trans hb1
  replace hn1 := Nat.lt_of_lt_of_le hn1 hkg25.1
  replace hk1 := hk1.trans hkg25
  clear hkg25 hkg2 hkg3 hkg4 hkg5 hb2 ht2 hs2
  simp (disch := first | omega | (simp only [add_nx, upd_nx] <;> omega) | decide) only [rUz, ↓reduceIte, Nat.reduceEqDiff, Nat.reduceAdd]
  repeat refine S.seq ?_
  refine S.region ?_
  simp (disch := first | omega | (simp only [add_nx, upd_nx] <;> omega) | decide) only [rUz, ↓reduceIte, Nat.reduceEqDiff, Nat.reduceAdd, hb1, part_0 pA (poV_len v)]
  refine wr_brings (fid := 25) (first := #[]) (captured := #[]) (Post := fun u _ => u = iv (lookZ O L)) rfl (hoff _ _ _ rfl) (by simp (disch := first | omega | (simp only [add_nx, upd_nx] <;> omega) | decide) only [rUz, ↓reduceIte, Nat.reduceEqDiff, Nat.reduceAdd]; exact recorded_y S hoff g5 v w O L (hb.mono hk1) (SlAt.mono hw hk1)) ?_
  rintro u g6 hkg6 rfl
  replace hb1 := (hkg6.get hn1).trans hb1
  replace hn1 := Nat.lt_of_lt_of_le hn1 hkg6.1
  replace hk1 := hk1.trans hkg6
  clear hkg6
  clear g5 g4 g3 g2 g
  cases h1 : decide (lookZ O L = 0) with
  | false =>
    have hp : proveZ O t0 L = false := by unfold proveZ; rw [h1]; rfl
    rw [hp]
    simp (disch := first | omega | (simp only [add_nx, upd_nx] <;> omega) | decide) only [rUz, ↓reduceIte, Nat.reduceEqDiff, Nat.reduceAdd, h1]
    repeat refine S.seq ?_
    refine S.region ?_
    simp (disch := first | omega | (simp only [add_nx, upd_nx] <;> omega) | decide) only [rUz, ↓reduceIte, Nat.reduceEqDiff, Nat.reduceAdd]
    refine optR_of' (eq39 (p := false) (by simp (disch := first | omega | (simp only [add_nx, upd_nx] <;> omega) | decide) only [rUz, ↓reduceIte, Nat.reduceEqDiff, Nat.reduceAdd]) (by simp (disch := first | omega | (simp only [add_nx, upd_nx] <;> omega) | decide) only [rUz, ↓reduceIte, Nat.reduceEqDiff, Nat.reduceAdd])) ?_
    simp (disch := first | omega | (simp only [add_nx, upd_nx] <;> omega) | decide) only [rUz, ↓reduceIte, Nat.reduceEqDiff, Nat.reduceAdd]
    refine awake ?_
    simp (disch := first | omega | (simp only [add_nx, upd_nx] <;> omega) | decide) only [rUz, ↓reduceIte, Nat.reduceEqDiff, Nat.reduceAdd]
    refine S.ret ?_
    try simp only [seqK_ret, blockK_ret]
    subst hF
    simp only [finish, endMarks]
    rw [show Tryz.f5.results.toList = [.tmp 6] from rfl]
    simp (disch := first | omega | (simp only [add_nx, upd_nx] <;> omega) | decide) only [resA, ev_tmp, tget_ne, tget_eq, get_ne, get_eq, upd_eq, upd_ne, ag_eq, ag_ne, result1]
    exact hKr _ hk1
  | true =>
  have hz : faultZ O = 0 ∧ L.length ≤ 6 := by
    have h2 := of_decide_eq_true h1
    unfold lookZ at h2
    cases h3 : decide (faultZ O = 0) with
    | true =>
      rw [h3, cond_true] at h2
      cases h4 : decide ((L.length : Int) ≤ 6) with
      | true => exact ⟨of_decide_eq_true h3, by have := of_decide_eq_true h4; omega⟩
      | false => rw [h4, cond_false] at h2; omega
    | false => rw [h3, cond_false] at h2; exact absurd h2 (of_decide_eq_false h3)
  have hv := val_iff.1 hz.1
  simp (disch := first | omega | (simp only [add_nx, upd_nx] <;> omega) | decide) only [rUz, ↓reduceIte, Nat.reduceEqDiff, Nat.reduceAdd, h1, hb1, part_0 pA (poV_len v)]
  refine wr_brings (fid := 17) (first := #[]) (captured := #[]) (Post := fun u _ => u = .bool (truthB O t0)) rfl (hoff _ _ _ rfl) (by simp (disch := first | omega | (simp only [add_nx, upd_nx] <;> omega) | decide) only [rUz, ↓reduceIte, Nat.reduceEqDiff, Nat.reduceAdd]; exact isTruth_y S hoff g6 v tv O t0 (hb.mono hk1) (ht.mono hk1).at h9' h11') ?_
  rintro u g7 hkg7 rfl
  replace hb1 := (hkg7.get hn1).trans hb1
  replace hn1 := Nat.lt_of_lt_of_le hn1 hkg7.1
  replace hk1 := hk1.trans hkg7
  clear hkg7
  cases htr : truthB O t0 with
  | false =>
    have hp : proveZ O t0 L = false := by unfold proveZ; rw [h1, htr]; rfl
    rw [hp]
    simp (disch := first | omega | (simp only [add_nx, upd_nx] <;> omega) | decide) only [rUz, ↓reduceIte, Nat.reduceEqDiff, Nat.reduceAdd, htr]
    repeat refine S.seq ?_
    refine S.region ?_
    simp (disch := first | omega | (simp only [add_nx, upd_nx] <;> omega) | decide) only [rUz, ↓reduceIte, Nat.reduceEqDiff, Nat.reduceAdd]
    refine optR_of' (eq39 (p := false) (by simp (disch := first | omega | (simp only [add_nx, upd_nx] <;> omega) | decide) only [rUz, ↓reduceIte, Nat.reduceEqDiff, Nat.reduceAdd]) (by simp (disch := first | omega | (simp only [add_nx, upd_nx] <;> omega) | decide) only [rUz, ↓reduceIte, Nat.reduceEqDiff, Nat.reduceAdd])) ?_
    simp (disch := first | omega | (simp only [add_nx, upd_nx] <;> omega) | decide) only [rUz, ↓reduceIte, Nat.reduceEqDiff, Nat.reduceAdd]
    refine awake ?_
    simp (disch := first | omega | (simp only [add_nx, upd_nx] <;> omega) | decide) only [rUz, ↓reduceIte, Nat.reduceEqDiff, Nat.reduceAdd]
    refine S.ret ?_
    try simp only [seqK_ret, blockK_ret]
    subst hF
    simp only [finish, endMarks]
    rw [show Tryz.f5.results.toList = [.tmp 6] from rfl]
    simp (disch := first | omega | (simp only [add_nx, upd_nx] <;> omega) | decide) only [resA, ev_tmp, tget_ne, tget_eq, get_ne, get_eq, upd_eq, upd_ne, ag_eq, ag_ne, result1]
    exact hKr _ hk1
  | true =>
  have htru := tru_of hv htr
  have h6s := sales_six hv htru
  have hp : proveZ O t0 L = exZ (playZ O t0).2 L (List.replicate (playZ O t0).2.length false) := by
    rw [ex_eq]; unfold proveZ; rw [h1, htr]; rfl
  rw [hp]
  simp (disch := first | omega | (simp only [add_nx, upd_nx] <;> omega) | decide) only [rUz, ↓reduceIte, Nat.reduceEqDiff, Nat.reduceAdd, htr]
  repeat refine S.seq ?_
  refine S.region ?_
  simp (disch := first | omega | (simp only [add_nx, upd_nx] <;> omega) | decide) only [rUz, ↓reduceIte, Nat.reduceEqDiff, Nat.reduceAdd, hb1, part_0 pA (poV_len v)]
  refine wr_brings (fid := 20) (first := #[]) (captured := #[]) (Post := fun u h => SlAt h 4 u ((playZ O t0).2.map cSa)) rfl (hoff _ _ _ rfl) (by simp (disch := first | omega | (simp only [add_nx, upd_nx] <;> omega) | decide) only [rUz, ↓reduceIte, Nat.reduceEqDiff, Nat.reduceAdd]; exact rplay_y S hoff g7 v tv O t0 (hb.mono hk1) (ht.mono hk1).at hv htru) ?_
  rintro u8 g8 hkg8 hs8
  generalize (playZ O t0).2 = M at hs8 h6s hp ⊢
  simp (disch := first | omega | (simp only [add_nx, upd_nx] <;> omega) | decide) only [rUz, ↓reduceIte, Nat.reduceEqDiff, Nat.reduceAdd]
  refine wr_brings (fid := 26) (first := #[]) (captured := #[]) (Post := fun u _ => u = .bool (exZ M L (List.replicate M.length false))) rfl (hoff _ _ _ rfl) (by simp (disch := first | omega | (simp only [add_nx, upd_nx] <;> omega) | decide) only [rUz, ↓reduceIte, Nat.reduceEqDiff, Nat.reduceAdd]; exact rexplains_y S g8 u8 w M L hs8 (SlAt.mono hw (hk1.trans hkg8)) (by omega) hz.2) ?_
  rintro u g9 hkg9 rfl
  generalize exZ M L (List.replicate M.length false) = b
  simp (disch := first | omega | (simp only [add_nx, upd_nx] <;> omega) | decide) only [rUz, ↓reduceIte, Nat.reduceEqDiff, Nat.reduceAdd]
  refine optR_of' (eq39 (p := b) (by simp (disch := first | omega | (simp only [add_nx, upd_nx] <;> omega) | decide) only [rUz, ↓reduceIte, Nat.reduceEqDiff, Nat.reduceAdd]) (by simp (disch := first | omega | (simp only [add_nx, upd_nx] <;> omega) | decide) only [rUz, ↓reduceIte, Nat.reduceEqDiff, Nat.reduceAdd])) ?_
  simp (disch := first | omega | (simp only [add_nx, upd_nx] <;> omega) | decide) only [rUz, ↓reduceIte, Nat.reduceEqDiff, Nat.reduceAdd]
  refine awake ?_
  simp (disch := first | omega | (simp only [add_nx, upd_nx] <;> omega) | decide) only [rUz, ↓reduceIte, Nat.reduceEqDiff, Nat.reduceAdd]
  refine S.ret ?_
  try simp only [seqK_ret, blockK_ret]
  subst hF
  simp only [finish, endMarks]
  rw [show Tryz.f5.results.toList = [.tmp 6] from rfl]
  simp (disch := first | omega | (simp only [add_nx, upd_nx] <;> omega) | decide) only [resA, ev_tmp, tget_ne, tget_eq, get_ne, get_eq, upd_eq, upd_ne, ag_eq, ag_ne, result1]
  exact hKr _ ((hk1.trans hkg8).trans hkg9)
end Go.Proofs.Po
