import Derived.Test.YtemmpnipmklacaaRpP
import Derived.Test.YtemmpnipmklacaaRpC
import Derived.Test.YtemmpnipmklacaaRpE
import Derived.Test.YtemmpnipmklacaaRpF
import Derived.Test.YtemmpnipmklacaaEvD
import Derived.Test.YtemmpnipmklacaaRnD0
namespace Go.Proofs.Rg
open Go Go.Ev Go.RowKit
set_option linter.unusedSimpArgs false
variable {pr : Prim} {R : ExT}
def IT (l : List Int) (h0 : AHeap) (v : Value) (k : Nat) (t : T Value) (h : AHeap) : Prop :=
  k ≤ l.length ∧ h = h0 ∧ tget t 0 = v ∧ tget t 3 = iv (l.take k).sum ∧ tget t 4 = iv (k : Int)
set_option maxHeartbeats 8000000 in
theorem total_y (S : Ev.Steps Try.prog pr R) (h0 : AHeap) (v : Value) (l : List Int) (hl : IAt h0 v l) (hsz : l.length ≤ 1000) (hb : bnd 10000000 l) :
    Brings Try.prog R 23 [v] h0 fun u h => u = iv l.sum ∧ h = h0 := by
  refine brings_of (fn := Try.f23) (c := (Try.f23.body).getD .skip) (by kernel_rfl) rfl (by kernel_rfl) rfl (fun K hK => ?_)
  generalize hF : finish Try.prog Try.f23 K = KF
  simp only [Try.f23, Option.getD_some, argsT, setArgs, fV1_eq, T.setK_eq, id]
  have hlen := fun t h1 o => hl.len isI t h1 o
  repeat refine S.seq ?_
  refine S.region ?_
  simp (disch := first | omega | (simp only [add_nx, upd_nx, res_nx, putAt_nx] <;> omega) | decide) only [rUz, ↓reduceIte, Nat.reduceEqDiff, Nat.reduceAdd]
  repeat refine S.seq ?_
  refine S.region ?_
  simp (disch := first | omega | (simp only [add_nx, upd_nx, res_nx, putAt_nx] <;> omega) | decide) only [rUz, ↓reduceIte, Nat.reduceEqDiff, Nat.reduceAdd]
  repeat refine S.seq ?_
  refine S.region ?_
  simp (disch := first | omega | (simp only [add_nx, upd_nx, res_nx, putAt_nx] <;> omega) | decide) only [rUz, ↓reduceIte, Nat.reduceEqDiff, Nat.reduceAdd]
  repeat refine S.seq ?_
  refine S.block ?_
  refine S.loop (ι := Nat) (IT l h0 v) (fun k => l.length - k) ?_ 0 _ _ ?_
  · intro k t h ⟨hk, hh, t0, t3, t4⟩ K' hn he
    subst hh
    repeat refine S.seq ?_
    refine S.region ?_
    simp (disch := first | omega | (simp only [add_nx, upd_nx, res_nx, putAt_nx] <;> omega) | decide) only [rUz, ↓reduceIte, Nat.reduceEqDiff, Nat.reduceAdd, t0, t4, hlen]
    repeat refine S.seq ?_
    refine S.cond (v := decide ((k : Int) < (l.length : Int))) (by first | rfl | (simp (disch := first | omega | (simp only [add_nx, upd_nx, res_nx, putAt_nx] <;> omega) | decide) only [rUz, ↓reduceIte, Nat.reduceEqDiff, Nat.reduceAdd] <;> rfl)) (fun e => ?_) (fun e => ?_)
    · have hkn : k < l.length := by have := of_decide_eq_true e; omega
      clear e
      obtain ⟨b, f, ro, q1, q2, q3, q4⟩ := hl.idx slI s3' hkn
      have hx := hb l[k] (List.getElem_mem hkn)
      have hbt := bnd_sum (l := l.take k) (B := 10000000) fun y hy => hb y (List.mem_of_mem_take hy)
      have hlt : ((l.take k).length : Int) ≤ 1000 := by rw [List.length_take]; omega
      have hs : (l.take (k + 1)).sum = (l.take k).sum + l[k] := by
        rw [List.take_add_one, List.getElem?_eq_getElem hkn]
        show (l.take k ++ [l[k]]).sum = _
        rw [List.sum_append, List.sum_cons, List.sum_nil, Int.add_zero]
      repeat refine S.seq ?_
      refine S.skip ?_
      simp (disch := first | omega | (simp only [add_nx, upd_nx, res_nx, putAt_nx] <;> omega) | decide) only [rUz, ↓reduceIte, Nat.reduceEqDiff, Nat.reduceAdd]
      repeat refine S.seq ?_
      refine S.block ?_
      repeat refine S.seq ?_
      refine S.region ?_
      simp (disch := first | omega | (simp only [add_nx, upd_nx, res_nx, putAt_nx] <;> omega) | decide) only [rUz, ↓reduceIte, Nat.reduceEqDiff, Nat.reduceAdd, t0, t3, t4, q1, q3, q4, p3]
      repeat refine S.seq ?_
      refine S.region ?_
      simp (disch := first | omega | (simp only [add_nx, upd_nx, res_nx, putAt_nx] <;> omega) | decide) only [rUz, ↓reduceIte, Nat.reduceEqDiff, Nat.reduceAdd, t4]
      refine hn (k + 1) _ _ (by omega) ⟨by omega, rfl, ?_, ?_, ?_⟩
      rotate_right
      all_goals (try rw [hs])
      all_goals (first | rfl | (simp (disch := first | omega | (simp only [add_nx, upd_nx, res_nx, putAt_nx] <;> omega) | decide) only [rUz, ↓reduceIte, Nat.reduceEqDiff, Nat.reduceAdd, t0, t3, t4]; done) | (simp (disch := first | omega | (simp only [add_nx, upd_nx, res_nx, putAt_nx] <;> omega) | decide) only [rUz, ↓reduceIte, Nat.reduceEqDiff, Nat.reduceAdd, t0, t3, t4]; rfl))
    · have hkn : k = l.length := by have := of_decide_eq_false e; omega
      subst hkn
      rw [List.take_of_length_le (Nat.le_refl _)] at t3
      refine S.exit (he _ _ _ _ (fun e => by cases e) ?_)
      simp (disch := first | omega | (simp only [add_nx, upd_nx, res_nx, putAt_nx] <;> omega) | decide) only [rUz, ↓reduceIte, Nat.reduceEqDiff, Nat.reduceAdd]
      repeat refine S.seq ?_
      refine S.region ?_
      simp (disch := first | omega | (simp only [add_nx, upd_nx, res_nx, putAt_nx] <;> omega) | decide) only [rUz, ↓reduceIte, Nat.reduceEqDiff, Nat.reduceAdd, t3]
      refine S.ret ?_
      try simp only [seqK_ret, blockK_ret]
      subst hF
      simp only [finish, endMarks]
      rw [show Try.f23.results.toList = [.tmp 2] from rfl]
      simp (disch := first | omega | (simp only [add_nx, upd_nx, res_nx, putAt_nx] <;> omega) | decide) only [resA, ev_tmp, tget_ne, tget_eq, get_ne, get_eq, upd_eq, upd_ne, ag_eq, ag_ne, result1]
      exact hK _ _ Kp.refl ⟨rfl, rfl⟩
  · refine ⟨Nat.zero_le _, rfl, ?_, ?_, ?_⟩
    all_goals (first | rfl | (simp (disch := first | omega | (simp only [add_nx, upd_nx, res_nx, putAt_nx] <;> omega) | decide) only [rUz, ↓reduceIte, Nat.reduceEqDiff, Nat.reduceAdd, List.take_zero, List.sum_nil]; done) | (simp (disch := first | omega | (simp only [add_nx, upd_nx, res_nx, putAt_nx] <;> omega) | decide) only [rUz, ↓reduceIte, Nat.reduceEqDiff, Nat.reduceAdd, List.take_zero, List.sum_nil]; rfl))

def IPv (rl : List R2) (g : AHeap) (B : Nat) (v1 v2 v3 v4 : Value) (many : Int) (k : Nat) (t : T Value) (h : AHeap) : Prop :=
  k ≤ rl.length ∧ h = g ∧ (∀ r, r ∈ rl.take k → r.1.length ≤ 8) ∧ tget t 1 = v1 ∧ tget t 2 = v2 ∧ tget t 3 = v3 ∧ tget t 4 = v4 ∧ tget t 5 = iv many ∧ tget t 6 = ptr0 B ∧ tget t 13 = iv (k : Int)
theorem rBin_bool {P : Program} {t : T Value} {o : Oper} {op : BinOp} {a : TypeId} {p q : Bool} : rBin P t o op a (.bool q) (.bool p) = rBin2 P t o op (nilEqT P a (.bool p) (.bool q)) := rfl
theorem bin_congr {P : Program} {t t' : T Value} {op : BinOp} {j k : Nat} {u v r : Value} {a c : TypeId} {dst : Option Tmp} {ty : TypeId} {pos : String} {af : Array Edge} {g : Option (Nat × Bool)} (h2 : tget t j = u) (h3 : tget t k = v) (h4 : tget t' j = u) (h5 : tget t' k = v)
    (hr : ground P t' ⟨dst, .binOp op a (.tmp j) (.tmp k) c, ty, pos, af, g⟩ = some r) : ground P t ⟨dst, .binOp op a (.tmp j) (.tmp k) c, ty, pos, af, g⟩ = some r := by
  rw [← hr]
  refine ground_congr (fun cs b e => by cases e) fun x hx => ?_
  simp only [Op.operands] at hx
  have : x = .tmp j ∨ x = .tmp k := by simpa using hx
  rcases this with rfl | rfl
  · simp only [ev, h2, h4]
  · simp only [ev, h3, h5]
theorem neq14 {t : T Value} {ty : TypeId} {pos : String} {af : Array Edge} {g : Option (Nat × Bool)} {dst : Option Tmp} {p q : Bool} (h1 : tget t 102 = .bool p) (h2 : tget t 114 = .bool q) : rBin Try.prog t ⟨dst, .binOp .neq 4 (.tmp 102) (.tmp 114) 4, ty, pos, af, g⟩ .neq 4 (.bool q) (.bool p) = some (.bool (!(p == q))) := by
  rw [rBin_bool]
  have hn : nilEqT Try.prog 4 (.bool p) (.bool q) = none := by cases p <;> cases q <;> kernel_rfl
  rw [hn]
  refine bin_congr (t' := T.set 115 (T.set 103 .leaf 102 (.bool p)) 114 (.bool q)) h1 h2 ?_ ?_ ?_
  · cases p <;> cases q <;> kernel_rfl
  · cases p <;> cases q <;> kernel_rfl
  · cases p <;> cases q <;> kernel_rfl
theorem neq17 {t : T Value} {ty : TypeId} {pos : String} {af : Array Edge} {g : Option (Nat × Bool)} {dst : Option Tmp} {p q : Bool} (h1 : tget t 122 = .bool p) (h2 : tget t 129 = .bool q) : rBin Try.prog t ⟨dst, .binOp .neq 4 (.tmp 122) (.tmp 129) 4, ty, pos, af, g⟩ .neq 4 (.bool q) (.bool p) = some (.bool (!(p == q))) := by
  rw [rBin_bool]
  have hn : nilEqT Try.prog 4 (.bool p) (.bool q) = none := by cases p <;> cases q <;> kernel_rfl
  rw [hn]
  refine bin_congr (t' := T.set 130 (T.set 123 .leaf 122 (.bool p)) 129 (.bool q)) h1 h2 ?_ ?_ ?_
  · cases p <;> cases q <;> kernel_rfl
  · cases p <;> cases q <;> kernel_rfl
  · cases p <;> cases q <;> kernel_rfl
theorem eql20 {t : T Value} {ty : TypeId} {pos : String} {af : Array Edge} {g : Option (Nat × Bool)} {dst : Option Tmp} {p q : Bool} (h1 : tget t 137 = .bool p) (h2 : tget t 143 = .bool q) : rBin Try.prog t ⟨dst, .binOp .eql 4 (.tmp 137) (.tmp 143) 4, ty, pos, af, g⟩ .eql 4 (.bool q) (.bool p) = some (.bool (p == q)) := by
  rw [rBin_bool]
  have hn : nilEqT Try.prog 4 (.bool p) (.bool q) = none := by cases p <;> cases q <;> kernel_rfl
  rw [hn]
  refine bin_congr (t' := T.set 144 (T.set 138 .leaf 137 (.bool p)) 143 (.bool q)) h1 h2 ?_ ?_ ?_
  · cases p <;> cases q <;> kernel_rfl
  · cases p <;> cases q <;> kernel_rfl
  · cases p <;> cases q <;> kernel_rfl
theorem BM.bnd {off : List Int} (k : BM 8000 off) : bnd 10000000 off := fun x hx => by
  obtain ⟨i, hi⟩ := List.mem_iff_getElem?.1 hx
  have := k i
  rw [List.getD_eq_getElem?_getD, hi] at this
  simp only [Option.getD_some] at this
  omega
theorem prP_eq {n : Nat} {cs : List C4} (hz : faultZ (n : Int) cs = 0) (hv : Hs n cs) (rl : List R2) (many : Int) : prP (n : Int) cs rl many = (rl.all (irP n cs) && (partB cs (ads (List.replicate cs.length 0) rl) && decide (many ≤ (ads (List.replicate cs.length 0) rl).sum))) := by
  unfold prP
  rw [decide_eq_true hz, Bool.true_and]
  exact rings_eq hv rl many
theorem pgP_eq {n : Nat} {cs : List C4} (hz : faultZ (n : Int) cs = 0) (am hts : List Int) : pgP (n : Int) cs am hts = ((rpP n cs hts).2 && ((partB cs am && (bal n cs am).all fun x => decide (x = 0)) && decide (am.sum = (rpP n cs hts).1))) := by
  unfold pgP rpP
  rw [decide_eq_true hz, Bool.true_and, Int.toNat_natCast]
  cases decide ((hts.length : Int) = (n : Int)) && hts.all fun x => inB x (-10) 10 with
  | false => rw [Bool.false_and, Bool.and_false, cond_false, Bool.false_and]
  | true => rw [Bool.true_and, cond_true, Bool.true_and, show decide (provP cs hts = am.sum) = decide (am.sum = provP cs hts) from decide_eq_decide.2 ⟨Eq.symm, Eq.symm⟩]
theorem pdP_eq {n : Nat} {cs : List C4} (hz : faultZ (n : Int) cs = 0) (dl : List Int) (many : Int) : pdP (n : Int) cs dl many = ((rdP n cs dl).2 && decide ((rdP n cs dl).1 ≤ many)) := by
  unfold pdP rdP
  rw [decide_eq_true hz, Bool.true_and, Int.toNat_natCast, show decide (bal n cs (nums cs) = bal n cs dl) = decide (bal n cs dl = bal n cs (nums cs)) from decide_eq_decide.2 ⟨Eq.symm, Eq.symm⟩]
  cases partB cs dl with
  | false => rfl
  | true =>
    rw [Bool.true_and, Bool.true_and]
    cases decide (bal n cs dl = bal n cs (nums cs)) with
    | false => rw [Bool.and_false, cond_false, Bool.false_and]
    | true => rw [Bool.and_true, cond_true, Bool.true_and]
set_option maxHeartbeats 64000000 in
theorem proves_law (S : Ev.Steps Try.prog pr R) (hT : Tab pr) (h0 : AHeap) (hs : Int) (cv : Value) (cs : List C4) (hc : CAt h0 cv cs) (v1 : Value) (am : List Int) (ha : IS h0 v1 am) (v2 : Value) (hts : List Int) (hh : IS h0 v2 hts) (v3 : Value) (rl : List R2) (hr : RA IS h0 v3 rl) (v4 : Value) (dl : List Int) (hd : IS h0 v4 dl) (many : Int) (_hmw : (Lit.int .i64 many).wf = true) :
    Brings Try.prog R 6 [.agg ⟨[iv hs, cv]⟩, v1, v2, v3, v4, iv many] h0 fun u _ => u = .bool true := by
  have hoff := hT.off
  refine brings_of (fn := Try.f6) (c := (Try.f6.body).getD .skip) (by kernel_rfl) rfl (by kernel_rfl) rfl (fun K hK => ?_)
  generalize hF : finish Try.prog Try.f6 K = KF
  simp only [Try.f6, Option.getD_some, argsT, setArgs, fV1_eq, T.setK_eq, id]
  have hKr : ∀ g, Kp h0 g → K (.bool true) g = true := fun g hk => hK _ _ hk rfl
  clear hK
  have awake : ∀ {ops : Array Oper} {n : Nat} {rest : List Oper} {t : T Value} {h : AHeap} {KR : T Value → AHeap → Bool} {dst : Option Tmp}, putR Try.prog (withPrim pr (callVal Try.prog R)) ops n rest dst t (.bool true) h KR = true →
      wrR Try.prog (withPrim pr (callVal Try.prog R)) ops n rest (.call ⟨.value (.func 9), #[], #[]⟩) dst t h KR = true := fun k => wr_prim (fid := 9) (first := #[]) (captured := #[]) (v := .bool true) rfl (hT.awake _) k
  have hl1 := fun t h1 o => ha.at.len isI t h1 o
  have hl2 := fun t h1 o => hh.at.len isI t h1 o
  have hl3 := fun t h1 o => hr.len isRr t h1 o
  have hl4 := fun t h1 o => hd.at.len isI t h1 o
  repeat refine S.seq ?_
  refine S.region ?_
  simp (disch := first | omega | (simp only [add_nx, upd_nx, res_nx, putAt_nx] <;> omega) | decide) only [rUz, ↓reduceIte, Nat.reduceEqDiff, Nat.reduceAdd]
  have hb3 : (h0.add [iv hs, cv]).bl.get h0.nx = some (.cells [iv hs, cv] h0.nx false) := ag_eq rfl
  have hk1 : Kp h0 (h0.add [iv hs, cv]) := Kp.refl.add
  have hlt : h0.nx < (h0.add [iv hs, cv]).nx := Nat.lt_succ_self _
  generalize h0.add [iv hs, cv] = H1 at hb3 hk1 hlt ⊢
  have hlB : h0.nx < H1.nx := hlt
  generalize h0.nx = B3 at hb3 hlt hlB ⊢
  repeat refine S.seq ?_
  refine S.region ?_
  simp (disch := first | omega | (simp only [add_nx, upd_nx, res_nx, putAt_nx] <;> omega) | decide) only [rUz, ↓reduceIte, Nat.reduceEqDiff, Nat.reduceAdd, hb3, pA]
  refine wr_brings (fid := 8) (first := #[]) (captured := #[]) (Post := fun v _ => v = .bool (decide ((cs.length : Int) ≤ 12))) (by first | rfl | (simp (disch := first | omega | (simp only [add_nx, upd_nx, res_nx, putAt_nx] <;> omega) | decide) only [rUz, ↓reduceIte, Nat.reduceEqDiff, Nat.reduceAdd] <;> rfl)) (hoff _ _ _ rfl) (by simp (disch := first | omega | (simp only [add_nx, upd_nx, res_nx, putAt_nx] <;> omega) | decide) only [rUz, ↓reduceIte, Nat.reduceEqDiff, Nat.reduceAdd]; exact thin_y S _ hs cv cs (hc.mono hk1)) ?_
  rintro v g hk rfl
  have hb := (hk.get hlt).trans hb3
  have hk2 := hk1.trans hk
  have hlt2 := Nat.lt_of_lt_of_le hlt hk.1
  clear hb3 hk hlt hlB
  by_cases h12 : (cs.length : Int) ≤ 12
  rotate_left
  · simp (disch := first | omega | (simp only [add_nx, upd_nx, res_nx, putAt_nx] <;> omega) | decide) only [rUz, ↓reduceIte, Nat.reduceEqDiff, Nat.reduceAdd, un_not, Bool.not_false, decide_eq_false h12]
    repeat refine S.seq ?_
    refine S.cond (v := true) (by first | rfl | (simp (disch := first | omega | (simp only [add_nx, upd_nx, res_nx, putAt_nx] <;> omega) | decide) only [rUz, ↓reduceIte, Nat.reduceEqDiff, Nat.reduceAdd] <;> rfl)) (fun _ => ?_) (fun e => by cases e)
    repeat refine S.seq ?_
    refine S.region ?_
    simp (disch := first | omega | (simp only [add_nx, upd_nx, res_nx, putAt_nx] <;> omega) | decide) only [rUz, ↓reduceIte, Nat.reduceEqDiff, Nat.reduceAdd]
    refine awake ?_
    simp (disch := first | omega | (simp only [add_nx, upd_nx, res_nx, putAt_nx] <;> omega) | decide) only [rUz, ↓reduceIte, Nat.reduceEqDiff, Nat.reduceAdd]
    refine S.ret ?_
    try simp only [seqK_ret, blockK_ret]
    subst hF
    simp only [finish, endMarks]
    rw [show Try.f6.results.toList = [.tmp 12] from rfl]
    simp (disch := first | omega | (simp only [add_nx, upd_nx, res_nx, putAt_nx] <;> omega) | decide) only [resA, ev_tmp, tget_ne, tget_eq, get_ne, get_eq, upd_eq, upd_ne, ag_eq, ag_ne, result1]
    exact hKr _ hk2
  by_cases ho : 12 < (am.length : Int)
  · simp (disch := first | omega | (simp only [add_nx, upd_nx, res_nx, putAt_nx] <;> omega) | decide) only [rUz, ↓reduceIte, Nat.reduceEqDiff, Nat.reduceAdd, un_not, decide_eq_true h12, Bool.not_true, decide_eq_true ho, hl1]
    repeat refine S.seq ?_
    refine S.cond (v := true) (by first | rfl | (simp (disch := first | omega | (simp only [add_nx, upd_nx, res_nx, putAt_nx] <;> omega) | decide) only [rUz, ↓reduceIte, Nat.reduceEqDiff, Nat.reduceAdd] <;> rfl)) (fun _ => ?_) (fun e => by cases e)
    repeat refine S.seq ?_
    refine S.region ?_
    simp (disch := first | omega | (simp only [add_nx, upd_nx, res_nx, putAt_nx] <;> omega) | decide) only [rUz, ↓reduceIte, Nat.reduceEqDiff, Nat.reduceAdd]
    refine awake ?_
    simp (disch := first | omega | (simp only [add_nx, upd_nx, res_nx, putAt_nx] <;> omega) | decide) only [rUz, ↓reduceIte, Nat.reduceEqDiff, Nat.reduceAdd]
    refine S.ret ?_
    try simp only [seqK_ret, blockK_ret]
    subst hF
    simp only [finish, endMarks]
    rw [show Try.f6.results.toList = [.tmp 12] from rfl]
    simp (disch := first | omega | (simp only [add_nx, upd_nx, res_nx, putAt_nx] <;> omega) | decide) only [resA, ev_tmp, tget_ne, tget_eq, get_ne, get_eq, upd_eq, upd_ne, ag_eq, ag_ne, result1]
    exact hKr _ hk2
  by_cases hht : 8 < (hts.length : Int)
  · simp (disch := first | omega | (simp only [add_nx, upd_nx, res_nx, putAt_nx] <;> omega) | decide) only [rUz, ↓reduceIte, Nat.reduceEqDiff, Nat.reduceAdd, un_not, decide_eq_true h12, Bool.not_true, decide_eq_false ho, hl1, decide_eq_true hht, hl2]
    repeat refine S.seq ?_
    refine S.cond (v := true) (by first | rfl | (simp (disch := first | omega | (simp only [add_nx, upd_nx, res_nx, putAt_nx] <;> omega) | decide) only [rUz, ↓reduceIte, Nat.reduceEqDiff, Nat.reduceAdd] <;> rfl)) (fun _ => ?_) (fun e => by cases e)
    repeat refine S.seq ?_
    refine S.region ?_
    simp (disch := first | omega | (simp only [add_nx, upd_nx, res_nx, putAt_nx] <;> omega) | decide) only [rUz, ↓reduceIte, Nat.reduceEqDiff, Nat.reduceAdd]
    refine awake ?_
    simp (disch := first | omega | (simp only [add_nx, upd_nx, res_nx, putAt_nx] <;> omega) | decide) only [rUz, ↓reduceIte, Nat.reduceEqDiff, Nat.reduceAdd]
    refine S.ret ?_
    try simp only [seqK_ret, blockK_ret]
    subst hF
    simp only [finish, endMarks]
    rw [show Try.f6.results.toList = [.tmp 12] from rfl]
    simp (disch := first | omega | (simp only [add_nx, upd_nx, res_nx, putAt_nx] <;> omega) | decide) only [resA, ev_tmp, tget_ne, tget_eq, get_ne, get_eq, upd_eq, upd_ne, ag_eq, ag_ne, result1]
    exact hKr _ hk2
  by_cases hrl : 10 < (rl.length : Int)
  · simp (disch := first | omega | (simp only [add_nx, upd_nx, res_nx, putAt_nx] <;> omega) | decide) only [rUz, ↓reduceIte, Nat.reduceEqDiff, Nat.reduceAdd, un_not, decide_eq_true h12, Bool.not_true, decide_eq_false ho, hl1, decide_eq_false hht, hl2, decide_eq_true hrl, hl3]
    repeat refine S.seq ?_
    refine S.cond (v := true) (by first | rfl | (simp (disch := first | omega | (simp only [add_nx, upd_nx, res_nx, putAt_nx] <;> omega) | decide) only [rUz, ↓reduceIte, Nat.reduceEqDiff, Nat.reduceAdd] <;> rfl)) (fun _ => ?_) (fun e => by cases e)
    repeat refine S.seq ?_
    refine S.region ?_
    simp (disch := first | omega | (simp only [add_nx, upd_nx, res_nx, putAt_nx] <;> omega) | decide) only [rUz, ↓reduceIte, Nat.reduceEqDiff, Nat.reduceAdd]
    refine awake ?_
    simp (disch := first | omega | (simp only [add_nx, upd_nx, res_nx, putAt_nx] <;> omega) | decide) only [rUz, ↓reduceIte, Nat.reduceEqDiff, Nat.reduceAdd]
    refine S.ret ?_
    try simp only [seqK_ret, blockK_ret]
    subst hF
    simp only [finish, endMarks]
    rw [show Try.f6.results.toList = [.tmp 12] from rfl]
    simp (disch := first | omega | (simp only [add_nx, upd_nx, res_nx, putAt_nx] <;> omega) | decide) only [resA, ev_tmp, tget_ne, tget_eq, get_ne, get_eq, upd_eq, upd_ne, ag_eq, ag_ne, result1]
    exact hKr _ hk2
  by_cases hdl : 12 < (dl.length : Int)
  · simp (disch := first | omega | (simp only [add_nx, upd_nx, res_nx, putAt_nx] <;> omega) | decide) only [rUz, ↓reduceIte, Nat.reduceEqDiff, Nat.reduceAdd, un_not, decide_eq_true h12, Bool.not_true, decide_eq_false ho, hl1, decide_eq_false hht, hl2, decide_eq_false hrl, hl3, decide_eq_true hdl, hl4]
    repeat refine S.seq ?_
    refine S.cond (v := true) (by first | rfl | (simp (disch := first | omega | (simp only [add_nx, upd_nx, res_nx, putAt_nx] <;> omega) | decide) only [rUz, ↓reduceIte, Nat.reduceEqDiff, Nat.reduceAdd] <;> rfl)) (fun _ => ?_) (fun e => by cases e)
    repeat refine S.seq ?_
    refine S.region ?_
    simp (disch := first | omega | (simp only [add_nx, upd_nx, res_nx, putAt_nx] <;> omega) | decide) only [rUz, ↓reduceIte, Nat.reduceEqDiff, Nat.reduceAdd]
    refine awake ?_
    simp (disch := first | omega | (simp only [add_nx, upd_nx, res_nx, putAt_nx] <;> omega) | decide) only [rUz, ↓reduceIte, Nat.reduceEqDiff, Nat.reduceAdd]
    refine S.ret ?_
    try simp only [seqK_ret, blockK_ret]
    subst hF
    simp only [finish, endMarks]
    rw [show Try.f6.results.toList = [.tmp 12] from rfl]
    simp (disch := first | omega | (simp only [add_nx, upd_nx, res_nx, putAt_nx] <;> omega) | decide) only [resA, ev_tmp, tget_ne, tget_eq, get_ne, get_eq, upd_eq, upd_ne, ag_eq, ag_ne, result1]
    exact hKr _ hk2
  simp (disch := first | omega | (simp only [add_nx, upd_nx, res_nx, putAt_nx] <;> omega) | decide) only [rUz, ↓reduceIte, Nat.reduceEqDiff, Nat.reduceAdd, un_not, decide_eq_true h12, Bool.not_true, decide_eq_false ho, hl1, decide_eq_false hht, hl2, decide_eq_false hrl, hl3, decide_eq_false hdl, hl4]
  repeat refine S.seq ?_
  refine S.cond (v := false) (by first | rfl | (simp (disch := first | omega | (simp only [add_nx, upd_nx, res_nx, putAt_nx] <;> omega) | decide) only [rUz, ↓reduceIte, Nat.reduceEqDiff, Nat.reduceAdd] <;> rfl)) (fun e => by cases e) (fun _ => ?_)
  repeat refine S.seq ?_
  refine S.skip ?_
  simp (disch := first | omega | (simp only [add_nx, upd_nx, res_nx, putAt_nx] <;> omega) | decide) only [rUz, ↓reduceIte, Nat.reduceEqDiff, Nat.reduceAdd]
  have h12' : cs.length ≤ 12 := by omega
  repeat refine S.seq ?_
  refine S.region ?_
  simp (disch := first | omega | (simp only [add_nx, upd_nx, res_nx, putAt_nx] <;> omega) | decide) only [rUz, ↓reduceIte, Nat.reduceEqDiff, Nat.reduceAdd]
  repeat refine S.seq ?_
  refine S.block ?_
  refine S.loop (ι := Nat) (IPv rl g B3 v1 v2 v3 v4 many) (fun k => rl.length - k) ?_ 0 _ _ ?_
  rotate_left
  · refine ⟨Nat.zero_le _, rfl, fun r hr => by simp at hr, ?_, ?_, ?_, ?_, ?_, ?_, ?_⟩
    all_goals (first | rfl | (simp (disch := first | omega | (simp only [add_nx, upd_nx, res_nx, putAt_nx] <;> omega) | decide) only [rUz, ↓reduceIte, Nat.reduceEqDiff, Nat.reduceAdd]; done) | (simp (disch := first | omega | (simp only [add_nx, upd_nx, res_nx, putAt_nx] <;> omega) | decide) only [rUz, ↓reduceIte, Nat.reduceEqDiff, Nat.reduceAdd]; rfl))
  intro k t h ⟨hk0, hh2, hr8, t1, t2, t3, t4, t5, t6, t13⟩ K' hn he
  subst hh2
  repeat refine S.seq ?_
  refine S.region ?_
  simp (disch := first | omega | (simp only [add_nx, upd_nx, res_nx, putAt_nx] <;> omega) | decide) only [rUz, ↓reduceIte, Nat.reduceEqDiff, Nat.reduceAdd, t3, t13, hl3]
  repeat refine S.seq ?_
  refine S.cond (v := decide ((k : Int) < (rl.length : Int))) (by first | rfl | (simp (disch := first | omega | (simp only [add_nx, upd_nx, res_nx, putAt_nx] <;> omega) | decide) only [rUz, ↓reduceIte, Nat.reduceEqDiff, Nat.reduceAdd] <;> rfl)) (fun e => ?_) (fun e => ?_)
  · have hkn : k < rl.length := by have := of_decide_eq_true e; omega
    clear e
    have hps : rl[k]? = some rl[k] := List.getElem?_eq_getElem hkn
    have htk : rl.take (k + 1) = rl.take k ++ [rl[k]] := by rw [List.take_add_one, hps]; rfl
    generalize rl[k] = r at hps htk
    obtain ⟨b, f, ro, cells, s, q1, q2, q3, q4, q5, q6, q7, q8⟩ := hr.idx slRr sRr hps
    have q3k := (hk2.get q2).trans q3
    have hls := fun t h1 o => q8.at.len isI t h1 o
    repeat refine S.seq ?_
    refine S.skip ?_
    simp (disch := first | omega | (simp only [add_nx, upd_nx, res_nx, putAt_nx] <;> omega) | decide) only [rUz, ↓reduceIte, Nat.reduceEqDiff, Nat.reduceAdd]
    repeat refine S.seq ?_
    refine S.block ?_
    by_cases h8 : 8 < (r.1.length : Int)
    · repeat refine S.seq ?_
      refine S.region ?_
      simp (disch := first | omega | (simp only [add_nx, upd_nx, res_nx, putAt_nx] <;> omega) | decide) only [rUz, ↓reduceIte, Nat.reduceEqDiff, Nat.reduceAdd, t3, t13, q1, q3k, q6, fieldAddr_ptr fRr0 sI1, pI1, hls, decide_eq_true h8]
      repeat refine S.seq ?_
      refine S.cond (v := true) (by first | rfl | (simp (disch := first | omega | (simp only [add_nx, upd_nx, res_nx, putAt_nx] <;> omega) | decide) only [rUz, ↓reduceIte, Nat.reduceEqDiff, Nat.reduceAdd] <;> rfl)) (fun _ => ?_) (fun e => by cases e)
      repeat refine S.seq ?_
      refine S.region ?_
      simp (disch := first | omega | (simp only [add_nx, upd_nx, res_nx, putAt_nx] <;> omega) | decide) only [rUz, ↓reduceIte, Nat.reduceEqDiff, Nat.reduceAdd]
      refine awake ?_
      simp (disch := first | omega | (simp only [add_nx, upd_nx, res_nx, putAt_nx] <;> omega) | decide) only [rUz, ↓reduceIte, Nat.reduceEqDiff, Nat.reduceAdd]
      refine S.ret ?_
      simp only [seqK_ret, blockK_ret]
      refine he _ _ _ _ (fun e => by cases e) ?_
      simp only [seqK_ret, blockK_ret]
      subst hF
      simp only [finish, endMarks]
      rw [show Try.f6.results.toList = [.tmp 12] from rfl]
      simp (disch := omega) only [resA, ev_tmp, tget_ne, tget_eq, result1]
      exact hKr _ hk2
    · repeat refine S.seq ?_
      refine S.region ?_
      simp (disch := first | omega | (simp only [add_nx, upd_nx, res_nx, putAt_nx] <;> omega) | decide) only [rUz, ↓reduceIte, Nat.reduceEqDiff, Nat.reduceAdd, t3, t13, q1, q3k, q6, fieldAddr_ptr fRr0 sI1, pI1, hls, decide_eq_false h8]
      repeat refine S.seq ?_
      refine S.cond (v := false) (by first | rfl | (simp (disch := first | omega | (simp only [add_nx, upd_nx, res_nx, putAt_nx] <;> omega) | decide) only [rUz, ↓reduceIte, Nat.reduceEqDiff, Nat.reduceAdd] <;> rfl)) (fun e => by cases e) (fun _ => ?_)
      repeat refine S.seq ?_
      refine S.skip ?_
      simp (disch := first | omega | (simp only [add_nx, upd_nx, res_nx, putAt_nx] <;> omega) | decide) only [rUz, ↓reduceIte, Nat.reduceEqDiff, Nat.reduceAdd]
      repeat refine S.seq ?_
      refine S.region ?_
      simp (disch := first | omega | (simp only [add_nx, upd_nx, res_nx, putAt_nx] <;> omega) | decide) only [rUz, ↓reduceIte, Nat.reduceEqDiff, Nat.reduceAdd, t13]
      refine hn (k + 1) _ _ (by omega) ⟨hkn, rfl, fun r' hr' => ?_, ?_, ?_, ?_, ?_, ?_, ?_, ?_⟩
      · rw [htk, List.mem_append, List.mem_singleton] at hr'
        rcases hr' with h | rfl
        · exact hr8 _ h
        · omega
      all_goals (first | rfl | (simp (disch := first | omega | (simp only [add_nx, upd_nx, res_nx, putAt_nx] <;> omega) | decide) only [rUz, ↓reduceIte, Nat.reduceEqDiff, Nat.reduceAdd, t1, t2, t3, t4, t5, t6, t13]; done) | (simp (disch := first | omega | (simp only [add_nx, upd_nx, res_nx, putAt_nx] <;> omega) | decide) only [rUz, ↓reduceIte, Nat.reduceEqDiff, Nat.reduceAdd, t1, t2, t3, t4, t5, t6, t13]; rfl))
  have hkn : k = rl.length := by have := of_decide_eq_false e; omega
  subst hkn
  rw [List.take_of_length_le (Nat.le_refl _)] at hr8
  refine S.exit (he _ _ _ _ (fun e => by cases e) ?_)
  clear he hn e hk0
  simp (disch := first | omega | (simp only [add_nx, upd_nx, res_nx, putAt_nx] <;> omega) | decide) only [rUz, ↓reduceIte, Nat.reduceEqDiff, Nat.reduceAdd]
  repeat refine S.seq ?_
  refine S.region ?_
  simp (disch := first | omega | (simp only [add_nx, upd_nx, res_nx, putAt_nx] <;> omega) | decide) only [rUz, ↓reduceIte, Nat.reduceEqDiff, Nat.reduceAdd, t1, t2, t3, t4, t5, t6, hb, pA]
  refine wr_brings (fid := 11) (first := #[]) (captured := #[]) (Post := fun v h => ∃ cv', v = .agg ⟨[iv hs, cv']⟩ ∧ CAt h cv' cs) (by first | rfl | (simp (disch := first | omega | (simp only [add_nx, upd_nx, res_nx, putAt_nx] <;> omega) | decide) only [rUz, ↓reduceIte, Nat.reduceEqDiff, Nat.reduceAdd] <;> rfl)) (hoff _ _ _ rfl) (by simp (disch := first | omega | (simp only [add_nx, upd_nx, res_nx, putAt_nx] <;> omega) | decide) only [rUz, ↓reduceIte, Nat.reduceEqDiff, Nat.reduceAdd]; exact book_y S _ cv hs cs (hc.mono hk2) h12') ?_
  rintro v g1 a1 ⟨cv2, rfl, hc2⟩
  have kp1 := hk2.trans a1
  have hb1_ := (a1.get hlt2).trans hb
  have lt1 := Nat.lt_of_lt_of_le hlt2 a1.1
  simp (disch := first | omega | (simp only [add_nx, upd_nx, res_nx, putAt_nx] <;> omega) | decide) only [rUz, ↓reduceIte, Nat.reduceEqDiff, Nat.reduceAdd, t1, t2, t3, t4, t5, t6]
  refine wr_brings (fid := 28) (first := #[]) (captured := #[]) (Post := fun u g' => (∀ F, (F < g1.nx ∨ g'.nx ≤ F) → IAf g' u am F) ∧ (u = .slice none 0 0 ∨ ∃ b c, u = .slice (some ⟨b, 0, none⟩) am.length c)) (by first | rfl | (simp (disch := first | omega | (simp only [add_nx, upd_nx, res_nx, putAt_nx] <;> omega) | decide) only [rUz, ↓reduceIte, Nat.reduceEqDiff, Nat.reduceAdd] <;> rfl)) (hoff _ _ _ rfl) (by simp (disch := first | omega | (simp only [add_nx, upd_nx, res_nx, putAt_nx] <;> omega) | decide) only [rUz, ↓reduceIte, Nat.reduceEqDiff, Nat.reduceAdd]; exact list_y S g1 v1 am (ha.mono kp1) (by omega)) ?_
  rintro u1 g2 a2 ⟨hu1, -⟩
  have kp2 := kp1.trans a2
  have hb2_ := (a2.get lt1).trans hb1_
  have lt2 := Nat.lt_of_lt_of_le lt1 a2.1
  have hu1 := (hu1 _ (.inr (Nat.le_refl _))).at
  simp (disch := first | omega | (simp only [add_nx, upd_nx, res_nx, putAt_nx] <;> omega) | decide) only [rUz, ↓reduceIte, Nat.reduceEqDiff, Nat.reduceAdd, t1, t2, t3, t4, t5, t6]
  refine wr_brings (fid := 28) (first := #[]) (captured := #[]) (Post := fun u g' => (∀ F, (F < g2.nx ∨ g'.nx ≤ F) → IAf g' u hts F) ∧ (u = .slice none 0 0 ∨ ∃ b c, u = .slice (some ⟨b, 0, none⟩) hts.length c)) (by first | rfl | (simp (disch := first | omega | (simp only [add_nx, upd_nx, res_nx, putAt_nx] <;> omega) | decide) only [rUz, ↓reduceIte, Nat.reduceEqDiff, Nat.reduceAdd] <;> rfl)) (hoff _ _ _ rfl) (by simp (disch := first | omega | (simp only [add_nx, upd_nx, res_nx, putAt_nx] <;> omega) | decide) only [rUz, ↓reduceIte, Nat.reduceEqDiff, Nat.reduceAdd]; exact list_y S g2 v2 hts (hh.mono kp2) (by omega)) ?_
  rintro u2 g3 a3 ⟨hu2, -⟩
  have kp3 := kp2.trans a3
  have hb3_ := (a3.get lt2).trans hb2_
  have lt3 := Nat.lt_of_lt_of_le lt2 a3.1
  have hu2 := (hu2 _ (.inr (Nat.le_refl _))).at
  simp (disch := first | omega | (simp only [add_nx, upd_nx, res_nx, putAt_nx] <;> omega) | decide) only [rUz, ↓reduceIte, Nat.reduceEqDiff, Nat.reduceAdd]
  refine wr_brings (fid := 27) (first := #[]) (captured := #[]) (Post := fun u _ => u = .bool (pgP hs cs am hts)) (by first | rfl | (simp (disch := first | omega | (simp only [add_nx, upd_nx, res_nx, putAt_nx] <;> omega) | decide) only [rUz, ↓reduceIte, Nat.reduceEqDiff, Nat.reduceAdd] <;> rfl)) (hoff _ _ _ rfl) (by simp (disch := first | omega | (simp only [add_nx, upd_nx, res_nx, putAt_nx] <;> omega) | decide) only [rUz, ↓reduceIte, Nat.reduceEqDiff, Nat.reduceAdd]; exact proveGreatest_y S hoff g3 hs cv2 cs (hc2.mono (a2.trans a3)) h12' u1 am (hu1.mono a3) u2 hts hu2 (by omega)) ?_
  rintro u g4 a4 rfl
  have kp4 := kp3.trans a4
  have hb4_ := (a4.get lt3).trans hb3_
  have lt4 := Nat.lt_of_lt_of_le lt3 a4.1
  simp (disch := first | omega | (simp only [add_nx, upd_nx, res_nx, putAt_nx] <;> omega) | decide) only [rUz, ↓reduceIte, Nat.reduceEqDiff, Nat.reduceAdd]
  repeat refine S.seq ?_
  refine S.region ?_
  simp (disch := first | omega | (simp only [add_nx, upd_nx, res_nx, putAt_nx] <;> omega) | decide) only [rUz, ↓reduceIte, Nat.reduceEqDiff, Nat.reduceAdd, t1, t2, t3, t4, t5, t6, hb4_, pA]
  refine wr_brings (fid := 11) (first := #[]) (captured := #[]) (Post := fun v h => ∃ cv', v = .agg ⟨[iv hs, cv']⟩ ∧ CAt h cv' cs) (by first | rfl | (simp (disch := first | omega | (simp only [add_nx, upd_nx, res_nx, putAt_nx] <;> omega) | decide) only [rUz, ↓reduceIte, Nat.reduceEqDiff, Nat.reduceAdd] <;> rfl)) (hoff _ _ _ rfl) (by simp (disch := first | omega | (simp only [add_nx, upd_nx, res_nx, putAt_nx] <;> omega) | decide) only [rUz, ↓reduceIte, Nat.reduceEqDiff, Nat.reduceAdd]; exact book_y S _ cv hs cs (hc.mono kp4) h12') ?_
  rintro v g5 a5 ⟨cv3, rfl, hc3⟩
  have kp5 := kp4.trans a5
  have hb5_ := (a5.get lt4).trans hb4_
  have lt5 := Nat.lt_of_lt_of_le lt4 a5.1
  simp (disch := first | omega | (simp only [add_nx, upd_nx, res_nx, putAt_nx] <;> omega) | decide) only [rUz, ↓reduceIte, Nat.reduceEqDiff, Nat.reduceAdd, t1, t2, t3, t4, t5, t6]
  refine wr_brings (fid := 30) (first := #[]) (captured := #[]) (Post := fun u h => RA IAt h u rl) (by first | rfl | (simp (disch := first | omega | (simp only [add_nx, upd_nx, res_nx, putAt_nx] <;> omega) | decide) only [rUz, ↓reduceIte, Nat.reduceEqDiff, Nat.reduceAdd] <;> rfl)) (hoff _ _ _ rfl) (by simp (disch := first | omega | (simp only [add_nx, upd_nx, res_nx, putAt_nx] <;> omega) | decide) only [rUz, ↓reduceIte, Nat.reduceEqDiff, Nat.reduceAdd]; exact rings_y S hoff g5 v3 rl (hr.mono IS.mono kp5) (by omega) hr8) ?_
  rintro u3 g6 a6 hu3
  have kp6 := kp5.trans a6
  have hb6_ := (a6.get lt5).trans hb5_
  have lt6 := Nat.lt_of_lt_of_le lt5 a6.1
  simp (disch := first | omega | (simp only [add_nx, upd_nx, res_nx, putAt_nx] <;> omega) | decide) only [rUz, ↓reduceIte, Nat.reduceEqDiff, Nat.reduceAdd, t1, t2, t3, t4, t5, t6]
  refine wr_brings (fid := 29) (first := #[]) (captured := #[]) (Post := fun u _ => u = .bool (prP hs cs rl many)) (by first | rfl | (simp (disch := first | omega | (simp only [add_nx, upd_nx, res_nx, putAt_nx] <;> omega) | decide) only [rUz, ↓reduceIte, Nat.reduceEqDiff, Nat.reduceAdd] <;> rfl)) (hoff _ _ _ rfl) (by simp (disch := first | omega | (simp only [add_nx, upd_nx, res_nx, putAt_nx] <;> omega) | decide) only [rUz, ↓reduceIte, Nat.reduceEqDiff, Nat.reduceAdd]; exact proveRings_y S hoff g6 hs cv3 cs (hc3.mono a6) h12' u3 rl hu3 (by omega) hr8 many) ?_
  rintro u g7 a7 rfl
  have kp7 := kp6.trans a7
  have hb7_ := (a7.get lt6).trans hb6_
  have lt7 := Nat.lt_of_lt_of_le lt6 a7.1
  simp (disch := first | omega | (simp only [add_nx, upd_nx, res_nx, putAt_nx] <;> omega) | decide) only [rUz, ↓reduceIte, Nat.reduceEqDiff, Nat.reduceAdd]
  repeat refine S.seq ?_
  refine S.region ?_
  simp (disch := first | omega | (simp only [add_nx, upd_nx, res_nx, putAt_nx] <;> omega) | decide) only [rUz, ↓reduceIte, Nat.reduceEqDiff, Nat.reduceAdd, t1, t2, t3, t4, t5, t6, hb7_, pA]
  refine wr_brings (fid := 11) (first := #[]) (captured := #[]) (Post := fun v h => ∃ cv', v = .agg ⟨[iv hs, cv']⟩ ∧ CAt h cv' cs) (by first | rfl | (simp (disch := first | omega | (simp only [add_nx, upd_nx, res_nx, putAt_nx] <;> omega) | decide) only [rUz, ↓reduceIte, Nat.reduceEqDiff, Nat.reduceAdd] <;> rfl)) (hoff _ _ _ rfl) (by simp (disch := first | omega | (simp only [add_nx, upd_nx, res_nx, putAt_nx] <;> omega) | decide) only [rUz, ↓reduceIte, Nat.reduceEqDiff, Nat.reduceAdd]; exact book_y S _ cv hs cs (hc.mono kp7) h12') ?_
  rintro v g8 a8 ⟨cv4, rfl, hc4⟩
  have kp8 := kp7.trans a8
  have hb8_ := (a8.get lt7).trans hb7_
  have lt8 := Nat.lt_of_lt_of_le lt7 a8.1
  simp (disch := first | omega | (simp only [add_nx, upd_nx, res_nx, putAt_nx] <;> omega) | decide) only [rUz, ↓reduceIte, Nat.reduceEqDiff, Nat.reduceAdd, t1, t2, t3, t4, t5, t6]
  refine wr_brings (fid := 28) (first := #[]) (captured := #[]) (Post := fun u g' => (∀ F, (F < g8.nx ∨ g'.nx ≤ F) → IAf g' u dl F) ∧ (u = .slice none 0 0 ∨ ∃ b c, u = .slice (some ⟨b, 0, none⟩) dl.length c)) (by first | rfl | (simp (disch := first | omega | (simp only [add_nx, upd_nx, res_nx, putAt_nx] <;> omega) | decide) only [rUz, ↓reduceIte, Nat.reduceEqDiff, Nat.reduceAdd] <;> rfl)) (hoff _ _ _ rfl) (by simp (disch := first | omega | (simp only [add_nx, upd_nx, res_nx, putAt_nx] <;> omega) | decide) only [rUz, ↓reduceIte, Nat.reduceEqDiff, Nat.reduceAdd]; exact list_y S g8 v4 dl (hd.mono kp8) (by omega)) ?_
  rintro u4 g9 a9 ⟨hu4, -⟩
  have kp9 := kp8.trans a9
  have hb9_ := (a9.get lt8).trans hb8_
  have lt9 := Nat.lt_of_lt_of_le lt8 a9.1
  have hu4 := (hu4 _ (.inr (Nat.le_refl _))).at
  simp (disch := first | omega | (simp only [add_nx, upd_nx, res_nx, putAt_nx] <;> omega) | decide) only [rUz, ↓reduceIte, Nat.reduceEqDiff, Nat.reduceAdd, t1, t2, t3, t4, t5, t6]
  refine wr_brings (fid := 31) (first := #[]) (captured := #[]) (Post := fun u _ => u = .bool (pdP hs cs dl many)) (by first | rfl | (simp (disch := first | omega | (simp only [add_nx, upd_nx, res_nx, putAt_nx] <;> omega) | decide) only [rUz, ↓reduceIte, Nat.reduceEqDiff, Nat.reduceAdd] <;> rfl)) (hoff _ _ _ rfl) (by simp (disch := first | omega | (simp only [add_nx, upd_nx, res_nx, putAt_nx] <;> omega) | decide) only [rUz, ↓reduceIte, Nat.reduceEqDiff, Nat.reduceAdd]; exact proveDeliveries_y S hoff g9 hs cv4 cs (hc4.mono a9) h12' u4 dl hu4 many) ?_
  rintro u gA aA rfl
  have kp10 := kp9.trans aA
  have hb10_ := (aA.get lt9).trans hb9_
  have lt10 := Nat.lt_of_lt_of_le lt9 aA.1
  simp (disch := first | omega | (simp only [add_nx, upd_nx, res_nx, putAt_nx] <;> omega) | decide) only [rUz, ↓reduceIte, Nat.reduceEqDiff, Nat.reduceAdd]
  repeat refine S.seq ?_
  refine S.region ?_
  simp (disch := first | omega | (simp only [add_nx, upd_nx, res_nx, putAt_nx] <;> omega) | decide) only [rUz, ↓reduceIte, Nat.reduceEqDiff, Nat.reduceAdd, t1, t2, t3, t4, t5, t6, hb10_, pA]
  refine wr_brings (fid := 15) (first := #[]) (captured := #[]) (Post := fun v _ => v = iv (faultZ hs cs)) (by first | rfl | (simp (disch := first | omega | (simp only [add_nx, upd_nx, res_nx, putAt_nx] <;> omega) | decide) only [rUz, ↓reduceIte, Nat.reduceEqDiff, Nat.reduceAdd] <;> rfl)) (hoff _ _ _ rfl) (by simp (disch := first | omega | (simp only [add_nx, upd_nx, res_nx, putAt_nx] <;> omega) | decide) only [rUz, ↓reduceIte, Nat.reduceEqDiff, Nat.reduceAdd]; exact faultw_y S hoff _ hs cv cs (hc.mono kp10) (by omega)) ?_
  rintro v gB aB rfl
  have kp11 := kp10.trans aB
  have hb11_ := (aB.get lt10).trans hb10_
  have lt11 := Nat.lt_of_lt_of_le lt10 aB.1
  by_cases hz : faultZ hs cs = 0
  rotate_left
  · have hzd : (!decide (faultZ hs cs = 0)) = true := by rw [decide_eq_false hz]; rfl
    have e1 : pgP hs cs am hts = false := by unfold pgP; rw [decide_eq_false hz, Bool.false_and]
    have e2 : prP hs cs rl many = false := by unfold prP; rw [decide_eq_false hz, Bool.false_and]
    have e3 : pdP hs cs dl many = false := by unfold pdP; rw [decide_eq_false hz, Bool.false_and]
    simp (disch := first | omega | (simp only [add_nx, upd_nx, res_nx, putAt_nx] <;> omega) | decide) only [rUz, ↓reduceIte, Nat.reduceEqDiff, Nat.reduceAdd, hzd]
    repeat refine S.seq ?_
    refine S.cond (v := true) (by first | rfl | (simp (disch := first | omega | (simp only [add_nx, upd_nx, res_nx, putAt_nx] <;> omega) | decide) only [rUz, ↓reduceIte, Nat.reduceEqDiff, Nat.reduceAdd] <;> rfl)) (fun _ => ?_) (fun e => by cases e)
    repeat refine S.seq ?_
    refine S.region ?_
    simp (disch := first | omega | (simp only [add_nx, upd_nx, res_nx, putAt_nx] <;> omega) | decide) only [rUz, ↓reduceIte, Nat.reduceEqDiff, Nat.reduceAdd, e1, e2, e3, un_not, Bool.not_false]
    refine awake ?_
    simp (disch := first | omega | (simp only [add_nx, upd_nx, res_nx, putAt_nx] <;> omega) | decide) only [rUz, ↓reduceIte, Nat.reduceEqDiff, Nat.reduceAdd]
    refine S.ret ?_
    try simp only [seqK_ret, blockK_ret]
    subst hF
    simp only [finish, endMarks]
    rw [show Try.f6.results.toList = [.tmp 12] from rfl]
    simp (disch := first | omega | (simp only [add_nx, upd_nx, res_nx, putAt_nx] <;> omega) | decide) only [resA, ev_tmp, tget_ne, tget_eq, get_ne, get_eq, upd_eq, upd_ne, ag_eq, ag_ne, result1]
    exact hKr _ kp11
  have hzd : (!decide (faultZ hs cs = 0)) = false := by rw [decide_eq_true hz]; rfl
  obtain ⟨n, rfl, hn1, hn6, hcl, hv⟩ := Hs.of_fault hz
  simp (disch := first | omega | (simp only [add_nx, upd_nx, res_nx, putAt_nx] <;> omega) | decide) only [rUz, ↓reduceIte, Nat.reduceEqDiff, Nat.reduceAdd, hzd]
  repeat refine S.seq ?_
  refine S.cond (v := false) (by first | rfl | (simp (disch := first | omega | (simp only [add_nx, upd_nx, res_nx, putAt_nx] <;> omega) | decide) only [rUz, ↓reduceIte, Nat.reduceEqDiff, Nat.reduceAdd] <;> rfl)) (fun e => by cases e) (fun _ => ?_)
  repeat refine S.seq ?_
  refine S.skip ?_
  simp (disch := first | omega | (simp only [add_nx, upd_nx, res_nx, putAt_nx] <;> omega) | decide) only [rUz, ↓reduceIte, Nat.reduceEqDiff, Nat.reduceAdd]
  repeat refine S.seq ?_
  refine S.region ?_
  simp (disch := first | omega | (simp only [add_nx, upd_nx, res_nx, putAt_nx] <;> omega) | decide) only [rUz, ↓reduceIte, Nat.reduceEqDiff, Nat.reduceAdd, t1, t2, t3, t4, t5, t6, hb11_, pA]
  refine wr_brings (fid := 32) (first := #[]) (captured := #[]) (Post := fun u _ => u = .tuple ⟨[iv (rpP n cs hts).1, .bool (rpP n cs hts).2]⟩) (by first | rfl | (simp (disch := first | omega | (simp only [add_nx, upd_nx, res_nx, putAt_nx] <;> omega) | decide) only [rUz, ↓reduceIte, Nat.reduceEqDiff, Nat.reduceAdd] <;> rfl)) (hoff _ _ _ rfl) (by simp (disch := first | omega | (simp only [add_nx, upd_nx, res_nx, putAt_nx] <;> omega) | decide) only [rUz, ↓reduceIte, Nat.reduceEqDiff, Nat.reduceAdd]; exact rproved_y S hoff _ n hn6 cv cs (hc.mono kp11) h12' hv v2 hts (hh.mono kp11).at (by omega)) ?_
  rintro v gC aC rfl
  have kp12 := kp11.trans aC
  have hb12_ := (aC.get lt11).trans hb11_
  have lt12 := Nat.lt_of_lt_of_le lt11 aC.1
  simp (disch := first | omega | (simp only [add_nx, upd_nx, res_nx, putAt_nx] <;> omega) | decide) only [rUz, ↓reduceIte, Nat.reduceEqDiff, Nat.reduceAdd]
  have hpg := pgP_eq hz am hts
  generalize hrp : rpP n cs hts = rp at hpg
  repeat refine S.seq ?_
  refine S.region ?_
  generalize hJJ : (fun (t : T Value) (h : AHeap) => _) = KJ
  have hJ : ∀ (t : T Value) (gE : AHeap), Kp gC gE → tget t 3 = v3 → tget t 4 = v4 → tget t 5 = iv many → tget t 6 = ptr0 B3 → tget t 15 = .bool (prP n cs rl many) → tget t 16 = .bool (pdP n cs dl many) → tget t 115 = .bool false → KJ t gE = true := by
    intro t gE aE t3 t4 t5 t6 t15 t16 t115
    subst hJJ
    simp only [seqK_normal]
    repeat refine S.seq ?_
    refine S.cond (v := false) (by first | rfl | (simp (disch := first | omega | (simp only [add_nx, upd_nx, res_nx, putAt_nx] <;> omega) | decide) only [rUz, ↓reduceIte, Nat.reduceEqDiff, Nat.reduceAdd, t115] <;> rfl)) (fun e => by cases e) (fun _ => ?_)
    repeat refine S.seq ?_
    refine S.skip ?_
    simp (disch := first | omega | (simp only [add_nx, upd_nx, res_nx, putAt_nx] <;> omega) | decide) only [rUz, ↓reduceIte, Nat.reduceEqDiff, Nat.reduceAdd]
    have kpE := kp12.trans aE
    have hbE := (aE.get lt12).trans hb12_
    have ltE := Nat.lt_of_lt_of_le lt12 aE.1
    repeat refine S.seq ?_
    refine S.region ?_
    simp (disch := first | omega | (simp only [add_nx, upd_nx, res_nx, putAt_nx] <;> omega) | decide) only [rUz, ↓reduceIte, Nat.reduceEqDiff, Nat.reduceAdd, t3, t4, t5, t6, hbE, pA]
    refine wr_brings (fid := 34) (first := #[]) (captured := #[]) (Post := fun u h => rmP n cs rl u h) (by first | rfl | (simp (disch := first | omega | (simp only [add_nx, upd_nx, res_nx, putAt_nx] <;> omega) | decide) only [rUz, ↓reduceIte, Nat.reduceEqDiff, Nat.reduceAdd] <;> rfl)) (hoff _ _ _ rfl) (by simp (disch := first | omega | (simp only [add_nx, upd_nx, res_nx, putAt_nx] <;> omega) | decide) only [rUz, ↓reduceIte, Nat.reduceEqDiff, Nat.reduceAdd]; exact made_y S hoff _ n hn6 cv cs (hc.mono kpE) h12' v3 rl (hr.mono IS.mono kpE) (by omega) hr8) ?_
    rintro u gF aF hm
    have kpF := kpE.trans aF
    have hbF := (aF.get ltE).trans hbE
    have ltF := Nat.lt_of_lt_of_le ltE aF.1
    have hpr := prP_eq hz hv rl many
    unfold rmP at hm
    have hm2 : ∃ x q, u = .tuple ⟨[x, .bool q]⟩ ∧ (q = false → prP n cs rl many = false) ∧ (q = true → prP n cs rl many = decide (many ≤ (ads (List.replicate cs.length 0) rl).sum) ∧ IAt gF x (ads (List.replicate cs.length 0) rl) ∧ (ads (List.replicate cs.length 0) rl).length = cs.length ∧ BM 8000 (ads (List.replicate cs.length 0) rl)) := by
      cases hra : rl.all (irP n cs) with
      | false =>
        rw [hra] at hm hpr
        obtain ⟨x, rfl⟩ := hm
        exact ⟨x, false, rfl, fun _ => by rw [hpr, Bool.false_and], fun e => by cases e⟩
      | true =>
        rw [hra] at hm hpr
        obtain ⟨x, rfl, k1, k2, k3⟩ := hm
        exact ⟨x, _, rfl, fun e => by rw [hpr, e, Bool.false_and, Bool.and_false], fun e => ⟨by rw [hpr, e, Bool.true_and, Bool.true_and], k1, k2, k3⟩⟩
    obtain ⟨x, q, rfl, hq1, hq2⟩ := hm2
    simp (disch := first | omega | (simp only [add_nx, upd_nx, res_nx, putAt_nx] <;> omega) | decide) only [rUz, ↓reduceIte, Nat.reduceEqDiff, Nat.reduceAdd]
    repeat refine S.seq ?_
    refine S.region ?_
    generalize hJJ : (fun (t : T Value) (h : AHeap) => _) = KJ
    have hJ : ∀ (t : T Value), tget t 4 = v4 → tget t 5 = iv many → tget t 6 = ptr0 B3 → tget t 16 = .bool (pdP n cs dl many) → tget t 130 = .bool false → KJ t gF = true := by
      clear t3 t4 t5 t6 t15 t16 t115
      intro t t4 t5 t6 t16 t130
      subst hJJ
      simp only [seqK_normal]
      repeat refine S.seq ?_
      refine S.cond (v := false) (by first | rfl | (simp (disch := first | omega | (simp only [add_nx, upd_nx, res_nx, putAt_nx] <;> omega) | decide) only [rUz, ↓reduceIte, Nat.reduceEqDiff, Nat.reduceAdd, t130] <;> rfl)) (fun e => by cases e) (fun _ => ?_)
      repeat refine S.seq ?_
      refine S.skip ?_
      simp (disch := first | omega | (simp only [add_nx, upd_nx, res_nx, putAt_nx] <;> omega) | decide) only [rUz, ↓reduceIte, Nat.reduceEqDiff, Nat.reduceAdd]
      repeat refine S.seq ?_
      refine S.region ?_
      simp (disch := first | omega | (simp only [add_nx, upd_nx, res_nx, putAt_nx] <;> omega) | decide) only [rUz, ↓reduceIte, Nat.reduceEqDiff, Nat.reduceAdd, t4, t5, t6, hbF, pA]
      refine wr_brings (fid := 35) (first := #[]) (captured := #[]) (Post := fun u _ => u = .tuple ⟨[iv (rdP n cs dl).1, .bool (rdP n cs dl).2]⟩) (by first | rfl | (simp (disch := first | omega | (simp only [add_nx, upd_nx, res_nx, putAt_nx] <;> omega) | decide) only [rUz, ↓reduceIte, Nat.reduceEqDiff, Nat.reduceAdd] <;> rfl)) (hoff _ _ _ rfl) (by simp (disch := first | omega | (simp only [add_nx, upd_nx, res_nx, putAt_nx] <;> omega) | decide) only [rUz, ↓reduceIte, Nat.reduceEqDiff, Nat.reduceAdd]; exact isDelivery_y S hoff _ n hn6 cv cs (hc.mono kpF) h12' hv v4 dl (hd.mono kpF).at (by omega)) ?_
      rintro u gG aG rfl
      have hpd := pdP_eq hz dl many
      generalize rdP n cs dl = rd at hpd
      simp (disch := first | omega | (simp only [add_nx, upd_nx, res_nx, putAt_nx] <;> omega) | decide) only [rUz, ↓reduceIte, Nat.reduceEqDiff, Nat.reduceAdd]
      have kpG := kpF.trans aG
      cases h3 : rd.2 with
      | false =>
        rw [h3, Bool.false_and] at hpd
        repeat refine S.seq ?_
        refine S.region ?_
        simp (disch := first | omega | (simp only [add_nx, upd_nx, res_nx, putAt_nx] <;> omega) | decide) only [rUz, ↓reduceIte, Nat.reduceEqDiff, Nat.reduceAdd, t16, h3, hpd]
        rw [eql20 (p := false) (q := false) (by simp (disch := first | omega | (simp only [add_nx, upd_nx, res_nx, putAt_nx] <;> omega) | decide) only [rUz, ↓reduceIte, Nat.reduceEqDiff, Nat.reduceAdd, t16, hpd]) (by simp (disch := first | omega | (simp only [add_nx, upd_nx, res_nx, putAt_nx] <;> omega) | decide) only [rUz, ↓reduceIte, Nat.reduceEqDiff, Nat.reduceAdd])]
        simp (disch := first | omega | (simp only [add_nx, upd_nx, res_nx, putAt_nx] <;> omega) | decide) only [rUz, ↓reduceIte, Nat.reduceEqDiff, Nat.reduceAdd, beq_self_eq_true]
        refine awake ?_
        simp (disch := first | omega | (simp only [add_nx, upd_nx, res_nx, putAt_nx] <;> omega) | decide) only [rUz, ↓reduceIte, Nat.reduceEqDiff, Nat.reduceAdd]
        refine S.ret ?_
        try simp only [seqK_ret, blockK_ret]
        subst hF
        simp only [finish, endMarks]
        rw [show Try.f6.results.toList = [.tmp 12] from rfl]
        simp (disch := first | omega | (simp only [add_nx, upd_nx, res_nx, putAt_nx] <;> omega) | decide) only [resA, ev_tmp, tget_ne, tget_eq, get_ne, get_eq, upd_eq, upd_ne, ag_eq, ag_ne, result1]
        exact hKr _ kpG
      | true =>
        rw [h3, Bool.true_and] at hpd
        by_cases hmm : rd.1 ≤ many
        · rw [decide_eq_true hmm] at hpd
          repeat refine S.seq ?_
          refine S.region ?_
          simp (disch := first | omega | (simp only [add_nx, upd_nx, res_nx, putAt_nx] <;> omega) | decide) only [rUz, ↓reduceIte, Nat.reduceEqDiff, Nat.reduceAdd, t5, t16, h3, hpd, decide_eq_true hmm]
          rw [eql20 (p := true) (q := true) (by simp (disch := first | omega | (simp only [add_nx, upd_nx, res_nx, putAt_nx] <;> omega) | decide) only [rUz, ↓reduceIte, Nat.reduceEqDiff, Nat.reduceAdd, t16, hpd]) (by simp (disch := first | omega | (simp only [add_nx, upd_nx, res_nx, putAt_nx] <;> omega) | decide) only [rUz, ↓reduceIte, Nat.reduceEqDiff, Nat.reduceAdd])]
          simp (disch := first | omega | (simp only [add_nx, upd_nx, res_nx, putAt_nx] <;> omega) | decide) only [rUz, ↓reduceIte, Nat.reduceEqDiff, Nat.reduceAdd, beq_self_eq_true]
          refine awake ?_
          simp (disch := first | omega | (simp only [add_nx, upd_nx, res_nx, putAt_nx] <;> omega) | decide) only [rUz, ↓reduceIte, Nat.reduceEqDiff, Nat.reduceAdd]
          refine S.ret ?_
          try simp only [seqK_ret, blockK_ret]
          subst hF
          simp only [finish, endMarks]
          rw [show Try.f6.results.toList = [.tmp 12] from rfl]
          simp (disch := first | omega | (simp only [add_nx, upd_nx, res_nx, putAt_nx] <;> omega) | decide) only [resA, ev_tmp, tget_ne, tget_eq, get_ne, get_eq, upd_eq, upd_ne, ag_eq, ag_ne, result1]
          exact hKr _ kpG
        · rw [decide_eq_false hmm] at hpd
          repeat refine S.seq ?_
          refine S.region ?_
          simp (disch := first | omega | (simp only [add_nx, upd_nx, res_nx, putAt_nx] <;> omega) | decide) only [rUz, ↓reduceIte, Nat.reduceEqDiff, Nat.reduceAdd, t5, t16, h3, hpd, decide_eq_false hmm]
          rw [eql20 (p := false) (q := false) (by simp (disch := first | omega | (simp only [add_nx, upd_nx, res_nx, putAt_nx] <;> omega) | decide) only [rUz, ↓reduceIte, Nat.reduceEqDiff, Nat.reduceAdd, t16, hpd]) (by simp (disch := first | omega | (simp only [add_nx, upd_nx, res_nx, putAt_nx] <;> omega) | decide) only [rUz, ↓reduceIte, Nat.reduceEqDiff, Nat.reduceAdd])]
          simp (disch := first | omega | (simp only [add_nx, upd_nx, res_nx, putAt_nx] <;> omega) | decide) only [rUz, ↓reduceIte, Nat.reduceEqDiff, Nat.reduceAdd, beq_self_eq_true]
          refine awake ?_
          simp (disch := first | omega | (simp only [add_nx, upd_nx, res_nx, putAt_nx] <;> omega) | decide) only [rUz, ↓reduceIte, Nat.reduceEqDiff, Nat.reduceAdd]
          refine S.ret ?_
          try simp only [seqK_ret, blockK_ret]
          subst hF
          simp only [finish, endMarks]
          rw [show Try.f6.results.toList = [.tmp 12] from rfl]
          simp (disch := first | omega | (simp only [add_nx, upd_nx, res_nx, putAt_nx] <;> omega) | decide) only [resA, ev_tmp, tget_ne, tget_eq, get_ne, get_eq, upd_eq, upd_ne, ag_eq, ag_ne, result1]
          exact hKr _ kpG
    clear hJJ
    cases q with
    | false =>
      have hp0 := hq1 rfl
      simp (disch := first | omega | (simp only [add_nx, upd_nx, res_nx, putAt_nx] <;> omega) | decide) only [rUz, ↓reduceIte, Nat.reduceEqDiff, Nat.reduceAdd, t15, hp0]
      rw [neq17 (p := false) (q := false) (by simp (disch := first | omega | (simp only [add_nx, upd_nx, res_nx, putAt_nx] <;> omega) | decide) only [rUz, ↓reduceIte, Nat.reduceEqDiff, Nat.reduceAdd, t15, hp0]) (by simp (disch := first | omega | (simp only [add_nx, upd_nx, res_nx, putAt_nx] <;> omega) | decide) only [rUz, ↓reduceIte, Nat.reduceEqDiff, Nat.reduceAdd])]
      simp (disch := first | omega | (simp only [add_nx, upd_nx, res_nx, putAt_nx] <;> omega) | decide) only [rUz, ↓reduceIte, Nat.reduceEqDiff, Nat.reduceAdd]
      refine hJ _ ?_ ?_ ?_ ?_ ?_
      all_goals (first | rfl | (simp (disch := first | omega | (simp only [add_nx, upd_nx, res_nx, putAt_nx] <;> omega) | decide) only [rUz, ↓reduceIte, Nat.reduceEqDiff, Nat.reduceAdd, t4, t5, t6, t16]; done) | (simp (disch := first | omega | (simp only [add_nx, upd_nx, res_nx, putAt_nx] <;> omega) | decide) only [rUz, ↓reduceIte, Nat.reduceEqDiff, Nat.reduceAdd, t4, t5, t6, t16]; rfl))
    | true =>
      obtain ⟨hp0, k1, k2, k3⟩ := hq2 rfl
      generalize ads (List.replicate cs.length 0) rl = off at hp0 k1 k2 k3
      simp (disch := first | omega | (simp only [add_nx, upd_nx, res_nx, putAt_nx] <;> omega) | decide) only [rUz, ↓reduceIte, Nat.reduceEqDiff, Nat.reduceAdd, t15]
      refine wr_brings (fid := 23) (first := #[]) (captured := #[]) (Post := fun u g' => u = iv off.sum ∧ g' = gF) (by first | rfl | (simp (disch := first | omega | (simp only [add_nx, upd_nx, res_nx, putAt_nx] <;> omega) | decide) only [rUz, ↓reduceIte, Nat.reduceEqDiff, Nat.reduceAdd] <;> rfl)) (hoff _ _ _ rfl) (by simp (disch := first | omega | (simp only [add_nx, upd_nx, res_nx, putAt_nx] <;> omega) | decide) only [rUz, ↓reduceIte, Nat.reduceEqDiff, Nat.reduceAdd]; exact total_y S gF x off k1 (by omega) k3.bnd) ?_
      rintro u gF' - ⟨rfl, rfl⟩
      by_cases hsm : many ≤ off.sum
      · rw [decide_eq_true hsm] at hp0
        simp (disch := first | omega | (simp only [add_nx, upd_nx, res_nx, putAt_nx] <;> omega) | decide) only [rUz, ↓reduceIte, Nat.reduceEqDiff, Nat.reduceAdd, t5, t15, hp0, decide_eq_true hsm]
        rw [neq17 (p := true) (q := true) (by simp (disch := first | omega | (simp only [add_nx, upd_nx, res_nx, putAt_nx] <;> omega) | decide) only [rUz, ↓reduceIte, Nat.reduceEqDiff, Nat.reduceAdd, t15, hp0]) (by simp (disch := first | omega | (simp only [add_nx, upd_nx, res_nx, putAt_nx] <;> omega) | decide) only [rUz, ↓reduceIte, Nat.reduceEqDiff, Nat.reduceAdd])]
        simp (disch := first | omega | (simp only [add_nx, upd_nx, res_nx, putAt_nx] <;> omega) | decide) only [rUz, ↓reduceIte, Nat.reduceEqDiff, Nat.reduceAdd]
        refine hJ _ ?_ ?_ ?_ ?_ ?_
        all_goals (first | rfl | (simp (disch := first | omega | (simp only [add_nx, upd_nx, res_nx, putAt_nx] <;> omega) | decide) only [rUz, ↓reduceIte, Nat.reduceEqDiff, Nat.reduceAdd, t4, t5, t6, t16]; done) | (simp (disch := first | omega | (simp only [add_nx, upd_nx, res_nx, putAt_nx] <;> omega) | decide) only [rUz, ↓reduceIte, Nat.reduceEqDiff, Nat.reduceAdd, t4, t5, t6, t16]; rfl))
      · rw [decide_eq_false hsm] at hp0
        simp (disch := first | omega | (simp only [add_nx, upd_nx, res_nx, putAt_nx] <;> omega) | decide) only [rUz, ↓reduceIte, Nat.reduceEqDiff, Nat.reduceAdd, t5, t15, hp0, decide_eq_false hsm]
        rw [neq17 (p := false) (q := false) (by simp (disch := first | omega | (simp only [add_nx, upd_nx, res_nx, putAt_nx] <;> omega) | decide) only [rUz, ↓reduceIte, Nat.reduceEqDiff, Nat.reduceAdd, t15, hp0]) (by simp (disch := first | omega | (simp only [add_nx, upd_nx, res_nx, putAt_nx] <;> omega) | decide) only [rUz, ↓reduceIte, Nat.reduceEqDiff, Nat.reduceAdd])]
        simp (disch := first | omega | (simp only [add_nx, upd_nx, res_nx, putAt_nx] <;> omega) | decide) only [rUz, ↓reduceIte, Nat.reduceEqDiff, Nat.reduceAdd]
        refine hJ _ ?_ ?_ ?_ ?_ ?_
        all_goals (first | rfl | (simp (disch := first | omega | (simp only [add_nx, upd_nx, res_nx, putAt_nx] <;> omega) | decide) only [rUz, ↓reduceIte, Nat.reduceEqDiff, Nat.reduceAdd, t4, t5, t6, t16]; done) | (simp (disch := first | omega | (simp only [add_nx, upd_nx, res_nx, putAt_nx] <;> omega) | decide) only [rUz, ↓reduceIte, Nat.reduceEqDiff, Nat.reduceAdd, t4, t5, t6, t16]; rfl))
  clear hJJ
  cases h2 : rp.2 with
  | false =>
    rw [h2, Bool.false_and] at hpg
    simp (disch := first | omega | (simp only [add_nx, upd_nx, res_nx, putAt_nx] <;> omega) | decide) only [rUz, ↓reduceIte, Nat.reduceEqDiff, Nat.reduceAdd, h2, hpg]
    rw [neq14 (p := false) (q := false) (by simp (disch := first | omega | (simp only [add_nx, upd_nx, res_nx, putAt_nx] <;> omega) | decide) only [rUz, ↓reduceIte, Nat.reduceEqDiff, Nat.reduceAdd, hpg]) (by simp (disch := first | omega | (simp only [add_nx, upd_nx, res_nx, putAt_nx] <;> omega) | decide) only [rUz, ↓reduceIte, Nat.reduceEqDiff, Nat.reduceAdd])]
    simp (disch := first | omega | (simp only [add_nx, upd_nx, res_nx, putAt_nx] <;> omega) | decide) only [rUz, ↓reduceIte, Nat.reduceEqDiff, Nat.reduceAdd]
    refine hJ _ _ Kp.refl ?_ ?_ ?_ ?_ ?_ ?_ ?_
    all_goals (first | rfl | (simp (disch := first | omega | (simp only [add_nx, upd_nx, res_nx, putAt_nx] <;> omega) | decide) only [rUz, ↓reduceIte, Nat.reduceEqDiff, Nat.reduceAdd, t3, t4, t5, t6]; done) | (simp (disch := first | omega | (simp only [add_nx, upd_nx, res_nx, putAt_nx] <;> omega) | decide) only [rUz, ↓reduceIte, Nat.reduceEqDiff, Nat.reduceAdd, t3, t4, t5, t6]; rfl))
  | true =>
  rw [h2, Bool.true_and] at hpg
  simp (disch := first | omega | (simp only [add_nx, upd_nx, res_nx, putAt_nx] <;> omega) | decide) only [rUz, ↓reduceIte, Nat.reduceEqDiff, Nat.reduceAdd, t1, t6, h2, hb12_, pA]
  refine wr_brings (fid := 33) (first := #[]) (captured := #[]) (Post := fun u _ => u = .bool (partB cs am && (bal n cs am).all fun x => decide (x = 0))) (by first | rfl | (simp (disch := first | omega | (simp only [add_nx, upd_nx, res_nx, putAt_nx] <;> omega) | decide) only [rUz, ↓reduceIte, Nat.reduceEqDiff, Nat.reduceAdd] <;> rfl)) (hoff _ _ _ rfl) (by simp (disch := first | omega | (simp only [add_nx, upd_nx, res_nx, putAt_nx] <;> omega) | decide) only [rUz, ↓reduceIte, Nat.reduceEqDiff, Nat.reduceAdd]; exact isOff_y S hoff _ n hn6 cv cs (hc.mono kp12) h12' hv v1 am (ha.mono kp12).at (by omega)) ?_
  rintro u gD aD rfl
  cases hio : partB cs am && (bal n cs am).all fun x => decide (x = 0) with
  | false =>
    rw [hio, Bool.false_and] at hpg
    simp (disch := first | omega | (simp only [add_nx, upd_nx, res_nx, putAt_nx] <;> omega) | decide) only [rUz, ↓reduceIte, Nat.reduceEqDiff, Nat.reduceAdd, hio, hpg]
    rw [neq14 (p := false) (q := false) (by simp (disch := first | omega | (simp only [add_nx, upd_nx, res_nx, putAt_nx] <;> omega) | decide) only [rUz, ↓reduceIte, Nat.reduceEqDiff, Nat.reduceAdd, hpg]) (by simp (disch := first | omega | (simp only [add_nx, upd_nx, res_nx, putAt_nx] <;> omega) | decide) only [rUz, ↓reduceIte, Nat.reduceEqDiff, Nat.reduceAdd])]
    simp (disch := first | omega | (simp only [add_nx, upd_nx, res_nx, putAt_nx] <;> omega) | decide) only [rUz, ↓reduceIte, Nat.reduceEqDiff, Nat.reduceAdd]
    refine hJ _ _ aD ?_ ?_ ?_ ?_ ?_ ?_ ?_
    all_goals (first | rfl | (simp (disch := first | omega | (simp only [add_nx, upd_nx, res_nx, putAt_nx] <;> omega) | decide) only [rUz, ↓reduceIte, Nat.reduceEqDiff, Nat.reduceAdd, t3, t4, t5, t6]; done) | (simp (disch := first | omega | (simp only [add_nx, upd_nx, res_nx, putAt_nx] <;> omega) | decide) only [rUz, ↓reduceIte, Nat.reduceEqDiff, Nat.reduceAdd, t3, t4, t5, t6]; rfl))
  | true =>
  rw [hio, Bool.true_and] at hpg
  have hpb : partB cs am = true := by rw [Bool.and_eq_true] at hio; exact hio.1
  simp (disch := first | omega | (simp only [add_nx, upd_nx, res_nx, putAt_nx] <;> omega) | decide) only [rUz, ↓reduceIte, Nat.reduceEqDiff, Nat.reduceAdd, t1, hio]
  refine wr_brings (fid := 23) (first := #[]) (captured := #[]) (Post := fun u g' => u = iv am.sum ∧ g' = gD) (by first | rfl | (simp (disch := first | omega | (simp only [add_nx, upd_nx, res_nx, putAt_nx] <;> omega) | decide) only [rUz, ↓reduceIte, Nat.reduceEqDiff, Nat.reduceAdd] <;> rfl)) (hoff _ _ _ rfl) (by simp (disch := first | omega | (simp only [add_nx, upd_nx, res_nx, putAt_nx] <;> omega) | decide) only [rUz, ↓reduceIte, Nat.reduceEqDiff, Nat.reduceAdd]; exact total_y S gD v1 am ((ha.mono (kp12.trans aD)).at) (by omega) (fun x hx => by have := partB_bnd hv hpb x hx; omega)) ?_
  rintro u gD' - ⟨rfl, rfl⟩
  by_cases hsm : am.sum = rp.1
  · rw [decide_eq_true hsm] at hpg
    simp (disch := first | omega | (simp only [add_nx, upd_nx, res_nx, putAt_nx] <;> omega) | decide) only [rUz, ↓reduceIte, Nat.reduceEqDiff, Nat.reduceAdd, hpg, decide_eq_true hsm, decide_eq_true hsm.symm]
    rw [neq14 (p := true) (q := true) (by simp (disch := first | omega | (simp only [add_nx, upd_nx, res_nx, putAt_nx] <;> omega) | decide) only [rUz, ↓reduceIte, Nat.reduceEqDiff, Nat.reduceAdd, hpg]) (by simp (disch := first | omega | (simp only [add_nx, upd_nx, res_nx, putAt_nx] <;> omega) | decide) only [rUz, ↓reduceIte, Nat.reduceEqDiff, Nat.reduceAdd])]
    simp (disch := first | omega | (simp only [add_nx, upd_nx, res_nx, putAt_nx] <;> omega) | decide) only [rUz, ↓reduceIte, Nat.reduceEqDiff, Nat.reduceAdd]
    refine hJ _ _ aD ?_ ?_ ?_ ?_ ?_ ?_ ?_
    all_goals (first | rfl | (simp (disch := first | omega | (simp only [add_nx, upd_nx, res_nx, putAt_nx] <;> omega) | decide) only [rUz, ↓reduceIte, Nat.reduceEqDiff, Nat.reduceAdd, t3, t4, t5, t6]; done) | (simp (disch := first | omega | (simp only [add_nx, upd_nx, res_nx, putAt_nx] <;> omega) | decide) only [rUz, ↓reduceIte, Nat.reduceEqDiff, Nat.reduceAdd, t3, t4, t5, t6]; rfl))
  · rw [decide_eq_false hsm] at hpg
    simp (disch := first | omega | (simp only [add_nx, upd_nx, res_nx, putAt_nx] <;> omega) | decide) only [rUz, ↓reduceIte, Nat.reduceEqDiff, Nat.reduceAdd, hpg, decide_eq_false hsm, decide_eq_false (fun e : rp.1 = am.sum => hsm e.symm)]
    rw [neq14 (p := false) (q := false) (by simp (disch := first | omega | (simp only [add_nx, upd_nx, res_nx, putAt_nx] <;> omega) | decide) only [rUz, ↓reduceIte, Nat.reduceEqDiff, Nat.reduceAdd, hpg]) (by simp (disch := first | omega | (simp only [add_nx, upd_nx, res_nx, putAt_nx] <;> omega) | decide) only [rUz, ↓reduceIte, Nat.reduceEqDiff, Nat.reduceAdd])]
    simp (disch := first | omega | (simp only [add_nx, upd_nx, res_nx, putAt_nx] <;> omega) | decide) only [rUz, ↓reduceIte, Nat.reduceEqDiff, Nat.reduceAdd]
    refine hJ _ _ aD ?_ ?_ ?_ ?_ ?_ ?_ ?_
    all_goals (first | rfl | (simp (disch := first | omega | (simp only [add_nx, upd_nx, res_nx, putAt_nx] <;> omega) | decide) only [rUz, ↓reduceIte, Nat.reduceEqDiff, Nat.reduceAdd, t3, t4, t5, t6]; done) | (simp (disch := first | omega | (simp only [add_nx, upd_nx, res_nx, putAt_nx] <;> omega) | decide) only [rUz, ↓reduceIte, Nat.reduceEqDiff, Nat.reduceAdd, t3, t4, t5, t6]; rfl))
end Go.Proofs.Rg
