import Derived.Test.YtfbkgnojdngiiaaChecked
import Derived.Test.YtfbkgnojdngiiaaEvE
import Derived.IntWalk
/- Slices of integers in the layer margin; what is owed of the table. -/
namespace Go.Proofs.Mg
open Go Go.Ev
set_option linter.unusedSimpArgs false

theorem hmixT : Try.prog.follows .mixedOrders = true := Try.checked.mixed
theorem s3 : sizeB Try.prog 3 = some (0 + 1) := by kernel_rfl
theorem s3' : sizeB Try.prog 3 = some 1 := by kernel_rfl
theorem p3 (c : List Value) (o : Nat) : partL Try.prog 3 c o = c[o]? := by kernel_rfl
theorem z3 : zeroOf Try.prog 3 = some (iv 0) := by kernel_rfl
noncomputable def inf3 : TypeInfo := (Try.prog.info? 3).getD default
theorem info3 : Try.prog.info? 3 = some inf3 := by kernel_rfl
theorem info3b : Nat.blt inf3.bytes bigNat = true := by kernel_rfl
theorem info3s : inf3.size = 1 := by kernel_rfl
theorem isI : isSlTy Try.prog 22 = true := by kernel_rfl
theorem slI : slOf Try.prog 22 = some 3 := by kernel_rfl
theorem uI : Try.prog.underlying 22 = some (.slice 3) := by kernel_rfl
theorem nI : numOk Try.prog 3 1 = true := by kernel_rfl
theorem lI : sizeB Try.prog 22 = some (0 + 1) := by kernel_rfl
theorem lI' : sizeB Try.prog 22 = some 1 := by kernel_rfl
theorem qI (c : List Value) (o : Nat) : partL Try.prog 22 c o = c[o]? := by kernel_rfl
theorem pFI (c : List Value) (o : Nat) : partL Try.prog 92 c o = c[o]? := by kernel_rfl
abbrev ptr0 (B : Nat) : Value := .pointer (some ⟨B, 0, none⟩)
theorem iv_len {h : AHeap} {v : Value} {l : List Int} (k : IAt h v l) (t : T Value) (h1 : AHeap) (o : Oper) : rLen Try.prog t h1 o 22 v = some (iv (l.length : Int)) := k.len isI t h1 o
/-! ## What is owed of the table -/
def offB (g : FuncId) : Bool := !(Nat.beq g 9)
def Off (pr : Prim) : Prop := ∀ g l h, offB g = true → pr g l h = none
structure Tab (pr : Prim) : Prop where
  off : Off pr
  awake : ∀ h, pr 9 [] h = some (.bool true)
def inB (i lo hi : Int) : Bool := decide (lo ≤ i) && decide (i ≤ hi)
theorem inB_iff {i lo hi : Int} : inB i lo hi = true ↔ lo ≤ i ∧ i ≤ hi := by
  unfold inB; rw [Bool.and_eq_true, decide_eq_true_eq, decide_eq_true_eq]
theorem flat1 (l : List Int) : (l.map fun n => [iv n]).flatten = l.map iv := by
  induction l with
  | nil => rfl
  | cons a l ih => simp only [List.map_cons, List.flatten_cons, List.singleton_append]; rw [ih]
/-- A slice as it came in. -/
def IS (h : AHeap) (v : Value) (l : List Int) : Prop := SlAt h 1 v (l.map fun n => [iv n])
theorem IS.at {h : AHeap} {v : Value} {l : List Int} (k : IS h v l) : IAt h v l := SlAt.ints k
theorem IS.mono {h h' : AHeap} {v : Value} {l : List Int} (k : IS h v l) (a : Kp h h') : IS h' v l := SlAt.mono k a
variable {pr : Prim} {R : ExT}
set_option maxHeartbeats 4000000 in
theorem in_y (S : Ev.Steps Try.prog pr R) (h0 : AHeap) (i lo hi : Int) : Brings Try.prog R 36 [.int .i64 i, .int .i64 lo, .int .i64 hi] h0 fun v h => v = .bool (inB i lo hi) ∧ h = h0 := by
  refine brings_of (fn := Try.f36) (c := (Try.f36.body).getD .skip) (by kernel_rfl) rfl (by kernel_rfl) rfl (fun K hK => ?_)
  generalize hF : finish Try.prog Try.f36 K = KF
  simp only [Try.f36, Option.getD_some, argsT, setArgs, fV1_eq, T.setK_eq, id]
  repeat refine S.seq ?_
  refine S.region ?_
  simp (disch := first | omega | (simp only [nZ] <;> omega) | decide) only [rUz, ↓reduceIte, Nat.reduceEqDiff, Nat.reduceAdd]
  unfold inB at hK
  by_cases h1 : lo ≤ i
  · have hd : decide (lo ≤ i) = true := decide_eq_true h1
    rw [hd, Bool.true_and] at hK
    repeat refine S.seq ?_
    refine S.region ?_
    simp (disch := first | omega | (simp only [nZ] <;> omega) | decide) only [rUz, ↓reduceIte, Nat.reduceEqDiff, Nat.reduceAdd, hd]
    refine S.ret ?_
    try simp only [seqK_ret, blockK_ret]
    subst hF
    simp only [finish, endMarks]
    rw [show Try.f36.results.toList = [.tmp 6] from rfl]
    simp (disch := first | omega | (simp only [nZ] <;> omega) | decide) only [resA, ev_tmp, tget_ne, tget_eq, get_ne, get_eq, upd_eq, upd_ne, ag_eq, ag_ne, result1]
    exact hK _ _ Kp.refl ⟨rfl, rfl⟩
  · have hd : decide (lo ≤ i) = false := decide_eq_false h1
    rw [hd, Bool.false_and] at hK
    repeat refine S.seq ?_
    refine S.region ?_
    simp (disch := first | omega | (simp only [nZ] <;> omega) | decide) only [rUz, ↓reduceIte, Nat.reduceEqDiff, Nat.reduceAdd, hd]
    refine S.ret ?_
    try simp only [seqK_ret, blockK_ret]
    subst hF
    simp only [finish, endMarks]
    rw [show Try.f36.results.toList = [.tmp 6] from rfl]
    simp (disch := first | omega | (simp only [nZ] <;> omega) | decide) only [resA, ev_tmp, tget_ne, tget_eq, get_ne, get_eq, upd_eq, upd_ne, ag_eq, ag_ne, result1]
    exact hK _ _ Kp.refl ⟨rfl, rfl⟩
set_option maxHeartbeats 4000000 in
theorem isMoney_y (S : Ev.Steps Try.prog pr R) (h0 : AHeap) (i : Int) : Brings Try.prog R 66 [iv i] h0 fun v _ => v = .bool (inB i 0 100000) := by
  refine brings_of (fn := Try.f66) (c := (Try.f66.body).getD .skip) (by kernel_rfl) rfl (by kernel_rfl) rfl (fun K hK => ?_)
  generalize hF : finish Try.prog Try.f66 K = KF
  simp only [Try.f66, Option.getD_some, argsT, setArgs, fV1_eq, T.setK_eq, id]
  repeat refine S.seq ?_
  refine S.region ?_
  simp (disch := first | omega | (simp only [nZ] <;> omega) | decide) only [rUz, ↓reduceIte, Nat.reduceEqDiff, Nat.reduceAdd]
  unfold inB at hK
  by_cases h1 : 0 ≤ i
  · have hd : decide (0 ≤ i) = true := decide_eq_true h1
    rw [hd, Bool.true_and] at hK
    repeat refine S.seq ?_
    refine S.region ?_
    simp (disch := first | omega | (simp only [nZ] <;> omega) | decide) only [rUz, ↓reduceIte, Nat.reduceEqDiff, Nat.reduceAdd, hd]
    refine S.ret ?_
    try simp only [seqK_ret, blockK_ret]
    subst hF
    simp only [finish, endMarks]
    rw [show Try.f66.results.toList = [.tmp 2] from rfl]
    simp (disch := first | omega | (simp only [nZ] <;> omega) | decide) only [resA, ev_tmp, tget_ne, tget_eq, get_ne, get_eq, upd_eq, upd_ne, ag_eq, ag_ne, result1]
    exact hK _ _ Kp.refl rfl
  · have hd : decide (0 ≤ i) = false := decide_eq_false h1
    rw [hd, Bool.false_and] at hK
    repeat refine S.seq ?_
    refine S.region ?_
    simp (disch := first | omega | (simp only [nZ] <;> omega) | decide) only [rUz, ↓reduceIte, Nat.reduceEqDiff, Nat.reduceAdd, hd]
    refine S.ret ?_
    try simp only [seqK_ret, blockK_ret]
    subst hF
    simp only [finish, endMarks]
    rw [show Try.f66.results.toList = [.tmp 2] from rfl]
    simp (disch := first | omega | (simp only [nZ] <;> omega) | decide) only [resA, ev_tmp, tget_ne, tget_eq, get_ne, get_eq, upd_eq, upd_ne, ag_eq, ag_ne, result1]
    exact hK _ _ Kp.refl rfl

structure IBs (x y : Value) (n : Nat) (H : AHeap) (k : Nat) (t : T Value) (h : AHeap) : Prop where
  hh : h = H
  t0 : tget t 0 = x
  t1 : tget t 1 = y
  t5 : tget t 5 = iv (k : Int)
  hk : k ≤ n
set_option maxHeartbeats 8000000 in
theorem same_y (S : Ev.Steps Try.prog pr R) (h0 : AHeap) (x y : Value) (l : List Int) (hx : IAt h0 x l) (hy : IAt h0 y l) (hl : l.length ≤ 1000000) :
    Brings Try.prog R 13 [x, y] h0 fun u _ => u = .bool true := by
  refine brings_of (fn := Try.f13) (c := (Try.f13.body).getD .skip) (by kernel_rfl) rfl (by kernel_rfl) rfl (fun K hK => ?_)
  generalize hF : finish Try.prog Try.f13 K = KF
  simp only [Try.f13, Option.getD_some, argsT, setArgs, fV1_eq, T.setK_eq, id]
  have lx := fun t h1 o => iv_len hx t h1 o
  have ly := fun t h1 o => iv_len hy t h1 o
  repeat refine S.seq ?_
  refine S.region ?_
  simp (disch := first | omega | (simp only [nZ] <;> omega) | decide) only [rUz, ↓reduceIte, Nat.reduceEqDiff, Nat.reduceAdd]
  repeat refine S.seq ?_
  refine S.region ?_
  simp (disch := first | omega | (simp only [nZ] <;> omega) | decide) only [rUz, ↓reduceIte, Nat.reduceEqDiff, Nat.reduceAdd, lx, ly, decide_true, Bool.not_true]
  repeat refine S.seq ?_
  refine S.cond (v := false) (by first | rfl | (simp (disch := first | omega | (simp only [nZ] <;> omega) | decide) only [rUz, ↓reduceIte, Nat.reduceEqDiff, Nat.reduceAdd] <;> rfl)) (fun e => by cases e) (fun _ => ?_)
  repeat refine S.seq ?_
  refine S.skip ?_
  simp (disch := first | omega | (simp only [nZ] <;> omega) | decide) only [rUz, ↓reduceIte, Nat.reduceEqDiff, Nat.reduceAdd]
  repeat refine S.seq ?_
  refine S.region ?_
  simp (disch := first | omega | (simp only [nZ] <;> omega) | decide) only [rUz, ↓reduceIte, Nat.reduceEqDiff, Nat.reduceAdd]
  repeat refine S.seq ?_
  refine S.block ?_
  refine S.loop (ι := Nat) (IBs x y l.length h0) (fun k => l.length - k) ?_ 0 _ _ ?_
  rotate_left
  · refine ⟨rfl, ?_, ?_, ?_, Nat.zero_le _⟩
    all_goals (first | rfl | (simp (disch := first | omega | (simp only [nZ] <;> omega) | decide) only [rUz, ↓reduceIte, Nat.reduceEqDiff, Nat.reduceAdd]; done) | (simp (disch := first | omega | (simp only [nZ] <;> omega) | decide) only [rUz, ↓reduceIte, Nat.reduceEqDiff, Nat.reduceAdd]; rfl))
  intro k t h ⟨hh, t0, t1, t5, hk⟩ K' hn he
  subst hh
  cases e : decide ((k : Int) < (l.length : Int)) with
  | false =>
    repeat refine S.seq ?_
    refine S.region ?_
    simp (disch := first | omega | (simp only [nZ] <;> omega) | decide) only [rUz, ↓reduceIte, Nat.reduceEqDiff, Nat.reduceAdd, t0, t1, t5, lx, ly, e]
    repeat refine S.seq ?_
    refine S.cond (v := false) (by first | rfl | (simp (disch := first | omega | (simp only [nZ] <;> omega) | decide) only [rUz, ↓reduceIte, Nat.reduceEqDiff, Nat.reduceAdd] <;> rfl)) (fun e => by cases e) (fun _ => ?_)
    refine S.exit (he _ _ _ _ (fun e => by cases e) ?_)
    simp (disch := first | omega | (simp only [nZ] <;> omega) | decide) only [rUz, ↓reduceIte, Nat.reduceEqDiff, Nat.reduceAdd]
    repeat refine S.seq ?_
    refine S.region ?_
    simp (disch := first | omega | (simp only [nZ] <;> omega) | decide) only [rUz, ↓reduceIte, Nat.reduceEqDiff, Nat.reduceAdd]
    refine S.ret ?_
    try simp only [seqK_ret, blockK_ret]
    subst hF
    simp only [finish, endMarks]
    rw [show Try.f13.results.toList = [.tmp 4] from rfl]
    simp (disch := first | omega | (simp only [nZ] <;> omega) | decide) only [resA, ev_tmp, tget_ne, tget_eq, get_ne, get_eq, upd_eq, upd_ne, ag_eq, ag_ne, result1]
    exact hK _ _ Kp.refl rfl
  | true =>
    have hkn : k < l.length := by have := of_decide_eq_true e; omega
    obtain ⟨b1, f1, o1, q1, q2, q3, q4⟩ := hx.idx slI s3' hkn
    obtain ⟨b2, f2, o2, r1, r2, r3, r4⟩ := hy.idx slI s3' hkn
    generalize l[k] = z at q4 r4
    repeat refine S.seq ?_
    refine S.region ?_
    simp (disch := first | omega | (simp only [nZ] <;> omega) | decide) only [rUz, ↓reduceIte, Nat.reduceEqDiff, Nat.reduceAdd, t0, t1, t5, lx, ly, e]
    repeat refine S.seq ?_
    refine S.cond (v := true) (by first | rfl | (simp (disch := first | omega | (simp only [nZ] <;> omega) | decide) only [rUz, ↓reduceIte, Nat.reduceEqDiff, Nat.reduceAdd] <;> rfl)) (fun _ => ?_) (fun e => by cases e)
    repeat refine S.seq ?_
    refine S.skip ?_
    simp (disch := first | omega | (simp only [nZ] <;> omega) | decide) only [rUz, ↓reduceIte, Nat.reduceEqDiff, Nat.reduceAdd]
    repeat refine S.seq ?_
    refine S.block ?_
    repeat refine S.seq ?_
    refine S.drawnL [(false, 0), (false, 0), (false, 3), (false, 7), (false, 0), (false, 0), (false, 48), (false, 112), (false, 255)] (by kernel_rfl) (by kernel_rfl) (by kernel_rfl) ?_
    simp (disch := first | omega | (simp only [nZ] <;> omega) | decide) only [rUz, ↓reduceIte, Nat.reduceEqDiff, Nat.reduceAdd, rDz, infoL, Nat.reduceSub, t0, t1, t5, q1, q3, r1, r3, p3, q4, r4, decide_true, Bool.not_true]
    repeat refine S.seq ?_
    refine S.cond (v := false) (by first | rfl | (simp (disch := first | omega | (simp only [nZ] <;> omega) | decide) only [rUz, ↓reduceIte, Nat.reduceEqDiff, Nat.reduceAdd] <;> rfl)) (fun e => by cases e) (fun _ => ?_)
    repeat refine S.seq ?_
    refine S.skip ?_
    simp (disch := first | omega | (simp only [nZ] <;> omega) | decide) only [rUz, ↓reduceIte, Nat.reduceEqDiff, Nat.reduceAdd]
    repeat refine S.seq ?_
    refine S.region ?_
    simp (disch := first | omega | (simp only [nZ] <;> omega) | decide) only [rUz, ↓reduceIte, Nat.reduceEqDiff, Nat.reduceAdd, t5]
    refine hn (k + 1) _ _ (by omega) ⟨rfl, ?_, ?_, ?_, by omega⟩
    all_goals (first | rfl | (simp (disch := first | omega | (simp only [nZ] <;> omega) | decide) only [rUz, ↓reduceIte, Nat.reduceEqDiff, Nat.reduceAdd, t0, t1]; done) | (simp (disch := first | omega | (simp only [nZ] <;> omega) | decide) only [rUz, ↓reduceIte, Nat.reduceEqDiff, Nat.reduceAdd, t0, t1]; rfl))
end Go.Proofs.Mg
