import Derived.Test.YtemmpnipmklacaaRnD0
import Derived.Test.YtemmpnipmklacaaEvD
namespace Go.Proofs.Rg
open Go Go.Ev
set_option linter.unusedSimpArgs false

/-! ## Copies of slices of integers -/
def IS (h : AHeap) (v : Value) (l : List Int) : Prop := SlAt h 1 v (l.map fun n => [iv n])
theorem IS.at {h : AHeap} {v : Value} {l : List Int} (k : IS h v l) : IAt h v l := SlAt.ints k
theorem IS.mono {h h' : AHeap} {v : Value} {l : List Int} (k : IS h v l) (a : Kp h h') : IS h' v l := SlAt.mono k a
/-- A slice whose cells are of a family of their own. -/
def IAf (h : AHeap) (v : Value) (l : List Int) (F : Nat) : Prop :=
  (l = [] ∧ v = .slice none 0 0) ∨ ∃ b c f ro, v = .slice (some ⟨b, 0, none⟩) l.length c ∧ b < h.nx ∧ h.bl.get b = some (.cells (l.map iv) f ro) ∧ f < h.nx ∧ f ≠ F
theorem IAf.at {h : AHeap} {v : Value} {l : List Int} {F : Nat} (k : IAf h v l F) : IAt h v l := by
  rcases k with ⟨rfl, rfl⟩ | ⟨b, c, f, ro, k1, k2, k3, _⟩
  · exact .inl ⟨rfl, .inl rfl⟩
  · exact .inr ⟨b, c, f, ro, k1, k2, k3⟩
theorem IAf.mono {h h' : AHeap} {v : Value} {l : List Int} {F : Nat} (k : IAf h v l F) (a : Kp h h') : IAf h' v l F := by
  rcases k with k | ⟨b, c, f, ro, k1, k2, k3, k4, k5⟩
  · exact .inl k
  · exact .inr ⟨b, c, f, ro, k1, Nat.lt_of_lt_of_le k2 a.1, (a.get k2).trans k3, Nat.lt_of_lt_of_le k4 a.1, k5⟩
theorem IAf.left {h h' : AHeap} {v : Value} {l : List Int} {F F' : Nat} {cs0 : List (List Value)} (k : IAf h v l F) (a : Ev.Left cs0 F h h') (hF : cs0 ≠ [] → F' = F) (hne : cs0 = [] → h.nx ≤ F') : IAf h' v l F' := by
  have ha := a.le
  rcases k with k | ⟨b, c, f, ro, k1, k2, k3, k4, k5⟩
  · exact .inl k
  · refine .inr ⟨b, c, f, ro, k1, by omega, a.bl b _ f ro k2 k3 (fun _ => k5), by omega, ?_⟩
    by_cases h0 : cs0 = []
    · have := hne h0; omega
    · rw [hF h0]; exact k5
theorem ne_of {a F : Nat} (h : F < a ∨ a + 2 ≤ F) : a ≠ F := by omega
section
variable {P : Program} {h : AHeap} {call : CallT} {ops : Array Oper} {n : Nat} {rest : List Oper} {t : T Value} {KR : T Value → AHeap → Bool} {dst : Option Tmp} {v : Value} {l : List Int} {a e : TypeId} {x : Operand}
theorem wr_copyI (h1 : slOf P a = some e) (hu : P.underlying a = some (.slice e)) (h2 : sizeB P e = some 1) (hn : numOk P e 1 = true) (hx : ev P t x = v) (hv : IS h v l) (hl : l.length < 1000000)
    (kk : ∀ v' h', Kp h h' → (∀ F, (F < h.nx ∨ h'.nx ≤ F) → IAf h' v' l F) → (v' = .slice none 0 0 ∨ ∃ b c, v' = .slice (some ⟨b, 0, none⟩) l.length c) → putR P call ops n rest dst t v' h' KR = true) :
    wrR P call ops n rest (.call ⟨.builtin .append, #[.const (.slice none 0 0), x], #[a, a]⟩) dst t h KR = true := by
  have hnum2 : ∀ m, m < bigNat → numOk P e m = true := fun m hm => by
    unfold numOk at hn ⊢
    split at hn
    · simp only [Bool.and_eq_true] at hn ⊢
      exact ⟨by rw [Nat.blt_eq]; exact hm, hn.2⟩
    · cases hn
  have hc : ev P t (.const (.slice none 0 0)) = .slice none 0 0 := rfl
  rcases hv with ⟨k1, rfl | rfl⟩ | ⟨b, cap, f, ro, k1, rfl, k3, k4, k5⟩
  · have k1' : l = [] := by simpa using k1
    have hko : Ev.kindOk P a (.slice none 0 0) = true := by simp only [Ev.kindOk, hu]
    simp only [wrR, awrite, wCall, wAppend, h1, hx, hc, hko, cond_true, appendA, h2, srcCells, appendNil]
    exact kk _ _ Kp.refl (fun F _ => .inl ⟨k1', rfl⟩) (.inl rfl)
  · have k1' : l = [] := by simpa using k1
    have hko : Ev.kindOk P a emptyS = true := by simp only [Ev.kindOk, hu, emptyS]
    have hs : srcCells h 1 emptyS = some ([], 0) := rfl
    simp only [wrR, awrite, wCall, wAppend, h1, hx, hc, hko, cond_true, appendA, h2, hs, appendNil]
    exact kk _ _ Kp.refl (fun F _ => .inl ⟨k1', rfl⟩) (.inl rfl)
  · have hfl : (l.map fun n => [iv n]).flatten = l.map iv := by
      clear k1 k4 k5 hx hl kk
      induction l with
      | nil => rfl
      | cons a l ih => simp only [List.map_cons, List.flatten_cons, List.singleton_append]; rw [ih]
    rw [hfl] at k4
    rw [List.length_map] at hx
    have hln : l.length ≠ 0 := fun q => k1 (by rw [List.length_eq_zero_iff.1 q]; rfl)
    have hs : srcCells h 1 (.slice (some ⟨b, 0, none⟩) l.length cap) = some (l.map iv, l.length) := by
      have hb : Nat.ble (Nat.add 0 (Nat.mul l.length 1)) (l.map iv).length = true := Nat.ble_eq_true_of_le (by rw [List.length_map]; show 0 + l.length * 1 ≤ _; omega)
      simp only [srcCells, k4, hb, cond_true]
      rw [show Nat.mul l.length 1 = l.length from Nat.mul_one _, List.drop_zero, List.take_of_length_le (by rw [List.length_map]; exact Nat.le_refl _)]
    have hz : Nat.beq l.length 0 = false := by cases q : Nat.beq l.length 0 with | true => exact absurd (Nat.eq_of_beq_eq_true q) hln | false => rfl
    have hko : Ev.kindOk P a (.slice (some ⟨b, 0, none⟩) l.length cap) = true := by simp only [Ev.kindOk, hu]
    simp only [wrR, awrite, wCall, wAppend, h1, hx, hc, hko, cond_true, appendA, h2, hs, appendNil, hz, cond_false, hnum2 _ hl, growN_eq]
    refine kk _ _ ⟨by show h.nx ≤ h.nx + 2; omega, fun k hk => ⟨?_, ?_⟩⟩ (fun F hF => .inr ⟨h.nx + 1, _, h.nx, false, rfl, by show h.nx + 1 < h.nx + 2; omega, ?_, by show h.nx < h.nx + 2; omega, ne_of hF⟩) (.inr ⟨_, _, rfl⟩)
    · show (T.set (h.nx + 2) h.bl (h.nx + 1) (.cells (l.map iv) h.nx false)).get k = _
      rw [get_ne (by omega) (by omega)]
    · show (T.set (h.nx + 2) (T.set (h.nx + 1) h.fams h.nx [h.nx + 1]) (h.nx + 1) [1]).get k = _
      rw [get_ne (by omega) (by omega), get_ne (by omega) (by omega)]
    · exact get_eq (by omega)
end

variable {pr : Prim} {R : ExT}
set_option maxHeartbeats 4000000 in
theorem list_y (S : Ev.Steps Try.prog pr R) (h0 : AHeap) (v : Value) (l : List Int) (hv : IS h0 v l) (hl : l.length ≤ 1000) :
    Brings Try.prog R 28 [v] h0 fun u h => (∀ F, (F < h0.nx ∨ h.nx ≤ F) → IAf h u l F) ∧ (u = .slice none 0 0 ∨ ∃ b c, u = .slice (some ⟨b, 0, none⟩) l.length c) := by
  refine brings_of (fn := Try.f28) (c := (Try.f28.body).getD .skip) (by kernel_rfl) rfl (by kernel_rfl) rfl (fun K hK => ?_)
  generalize hF : finish Try.prog Try.f28 K = KF
  simp only [Try.f28, Option.getD_some, argsT, setArgs, fV1_eq, T.setK_eq, id]
  repeat refine S.seq ?_
  refine S.region ?_
  simp (disch := first | omega | (simp only [add_nx, upd_nx, res_nx, putAt_nx] <;> omega) | decide) only [rUz, ↓reduceIte, Nat.reduceEqDiff, Nat.reduceAdd]
  repeat refine S.seq ?_
  refine S.region ?_
  simp (disch := first | omega | (simp only [add_nx, upd_nx, res_nx, putAt_nx] <;> omega) | decide) only [rUz, ↓reduceIte, Nat.reduceEqDiff, Nat.reduceAdd, w_append]
  refine wr_copyI slI uI s3' n3 (by simp (disch := first | omega | (simp only [add_nx, upd_nx, res_nx, putAt_nx] <;> omega) | decide) only [rUz, ↓reduceIte, Nat.reduceEqDiff, Nat.reduceAdd]) hv (by omega) ?_
  intro v' h' hk hI hs
  simp (disch := first | omega | (simp only [add_nx, upd_nx, res_nx, putAt_nx] <;> omega) | decide) only [rUz, ↓reduceIte, Nat.reduceEqDiff, Nat.reduceAdd]
  refine S.ret ?_
  try simp only [seqK_ret, blockK_ret]
  subst hF
  simp only [finish, endMarks]
  rw [show Try.f28.results.toList = [.tmp 2] from rfl]
  simp (disch := first | omega | (simp only [add_nx, upd_nx, res_nx, putAt_nx] <;> omega) | decide) only [resA, ev_tmp, tget_ne, tget_eq, get_ne, get_eq, upd_eq, upd_ne, ag_eq, ag_ne, result1]
  exact hK _ _ hk ⟨hI, hs⟩

/-! ## Tests of numbers -/
theorem ltB (x y : Int) : decide (x < y) = !decide (y ≤ x) := by
  by_cases h : y ≤ x
  · rw [decide_eq_true h, decide_eq_false (by omega)]; rfl
  · rw [decide_eq_false h, decide_eq_true (by omega)]; rfl
set_option maxHeartbeats 4000000 in
theorem isNone_y (S : Ev.Steps Try.prog pr R) (h0 : AHeap) (i : Int) : Brings Try.prog R 72 [iv i] h0 fun v _ => v = .bool (decide (i = 0)) := by
  refine brings_of (fn := Try.f72) (c := (Try.f72.body).getD .skip) (by kernel_rfl) rfl (by kernel_rfl) rfl (fun K hK => ?_)
  generalize hF : finish Try.prog Try.f72 K = KF
  simp only [Try.f72, Option.getD_some, argsT, setArgs, fV1_eq, T.setK_eq, id]
  repeat refine S.seq ?_
  refine S.region ?_
  simp (disch := first | omega | (simp only [add_nx, upd_nx, res_nx, putAt_nx] <;> omega) | decide) only [rUz, ↓reduceIte, Nat.reduceEqDiff, Nat.reduceAdd]
  repeat refine S.seq ?_
  refine S.region ?_
  simp (disch := first | omega | (simp only [add_nx, upd_nx, res_nx, putAt_nx] <;> omega) | decide) only [rUz, ↓reduceIte, Nat.reduceEqDiff, Nat.reduceAdd]
  refine S.ret ?_
  try simp only [seqK_ret, blockK_ret]
  subst hF
  simp only [finish, endMarks]
  rw [show Try.f72.results.toList = [.tmp 2] from rfl]
  simp (disch := first | omega | (simp only [add_nx, upd_nx, res_nx, putAt_nx] <;> omega) | decide) only [resA, ev_tmp, tget_ne, tget_eq, get_ne, get_eq, upd_eq, upd_ne, ag_eq, ag_ne, result1]
  exact hK _ _ Kp.refl rfl
set_option maxHeartbeats 4000000 in
theorem isHeight_y (S : Ev.Steps Try.prog pr R) (h0 : AHeap) (i : Int) : Brings Try.prog R 73 [iv i] h0 fun v _ => v = .bool (inB i (-10) 10) := by
  refine brings_of (fn := Try.f73) (c := (Try.f73.body).getD .skip) (by kernel_rfl) rfl (by kernel_rfl) rfl (fun K hK => ?_)
  generalize hF : finish Try.prog Try.f73 K = KF
  simp only [Try.f73, Option.getD_some, argsT, setArgs, fV1_eq, T.setK_eq, id]
  repeat refine S.seq ?_
  refine S.region ?_
  simp (disch := first | omega | (simp only [add_nx, upd_nx, res_nx, putAt_nx] <;> omega) | decide) only [rUz, ↓reduceIte, Nat.reduceEqDiff, Nat.reduceAdd]
  unfold inB at hK
  by_cases h1 : -10 ≤ i
  · have hd : decide (-10 ≤ i) = true := decide_eq_true h1
    rw [hd, Bool.true_and] at hK
    repeat refine S.seq ?_
    refine S.region ?_
    simp (disch := first | omega | (simp only [add_nx, upd_nx, res_nx, putAt_nx] <;> omega) | decide) only [rUz, ↓reduceIte, Nat.reduceEqDiff, Nat.reduceAdd, hd]
    refine S.ret ?_
    try simp only [seqK_ret, blockK_ret]
    subst hF
    simp only [finish, endMarks]
    rw [show Try.f73.results.toList = [.tmp 2] from rfl]
    simp (disch := first | omega | (simp only [add_nx, upd_nx, res_nx, putAt_nx] <;> omega) | decide) only [resA, ev_tmp, tget_ne, tget_eq, get_ne, get_eq, upd_eq, upd_ne, ag_eq, ag_ne, result1]
    exact hK _ _ Kp.refl rfl
  · have hd : decide (-10 ≤ i) = false := decide_eq_false h1
    rw [hd, Bool.false_and] at hK
    repeat refine S.seq ?_
    refine S.region ?_
    simp (disch := first | omega | (simp only [add_nx, upd_nx, res_nx, putAt_nx] <;> omega) | decide) only [rUz, ↓reduceIte, Nat.reduceEqDiff, Nat.reduceAdd, hd]
    refine S.ret ?_
    try simp only [seqK_ret, blockK_ret]
    subst hF
    simp only [finish, endMarks]
    rw [show Try.f73.results.toList = [.tmp 2] from rfl]
    simp (disch := first | omega | (simp only [add_nx, upd_nx, res_nx, putAt_nx] <;> omega) | decide) only [resA, ev_tmp, tget_ne, tget_eq, get_ne, get_eq, upd_eq, upd_ne, ag_eq, ag_ne, result1]
    exact hK _ _ Kp.refl rfl
set_option maxHeartbeats 4000000 in
theorem hasContract_y (S : Ev.Steps Try.prog pr R) (h0 : AHeap) (hs : Int) (cv : Value) (cs : List C4) (hc : CAt h0 cv cs) (i : Int) : Brings Try.prog R 76 [.agg ⟨[iv hs, cv]⟩, iv i] h0 fun v _ => v = .bool (inB i 0 ((cs.length : Int) - 1)) := by
  refine brings_of (fn := Try.f76) (c := (Try.f76.body).getD .skip) (by kernel_rfl) rfl (by kernel_rfl) rfl (fun K hK => ?_)
  generalize hF : finish Try.prog Try.f76 K = KF
  simp only [Try.f76, Option.getD_some, argsT, setArgs, fV1_eq, T.setK_eq, id]
  rw [← inB_lt] at hK
  have hlen := fun t h1 o => hc.len isB t h1 o
  repeat refine S.seq ?_
  refine S.region ?_
  simp (disch := first | omega | (simp only [add_nx, upd_nx, res_nx, putAt_nx] <;> omega) | decide) only [rUz, ↓reduceIte, Nat.reduceEqDiff, Nat.reduceAdd]
  by_cases h1 : 0 ≤ i
  · have hd : decide (0 ≤ i) = true := decide_eq_true h1
    rw [hd, Bool.true_and] at hK
    repeat refine S.seq ?_
    refine S.region ?_
    simp (disch := first | omega | (simp only [add_nx, upd_nx, res_nx, putAt_nx] <;> omega) | decide) only [rUz, ↓reduceIte, Nat.reduceEqDiff, Nat.reduceAdd, hd, fieldAddr_ptr fB1 sBc, pBc, hlen]
    refine S.ret ?_
    try simp only [seqK_ret, blockK_ret]
    subst hF
    simp only [finish, endMarks]
    rw [show Try.f76.results.toList = [.tmp 4] from rfl]
    simp (disch := first | omega | (simp only [add_nx, upd_nx, res_nx, putAt_nx] <;> omega) | decide) only [resA, ev_tmp, tget_ne, tget_eq, get_ne, get_eq, upd_eq, upd_ne, ag_eq, ag_ne, result1]
    exact hK _ _ Kp.refl.add rfl
  · have hd : decide (0 ≤ i) = false := decide_eq_false h1
    rw [hd, Bool.false_and] at hK
    repeat refine S.seq ?_
    refine S.region ?_
    simp (disch := first | omega | (simp only [add_nx, upd_nx, res_nx, putAt_nx] <;> omega) | decide) only [rUz, ↓reduceIte, Nat.reduceEqDiff, Nat.reduceAdd, hd]
    refine S.ret ?_
    try simp only [seqK_ret, blockK_ret]
    subst hF
    simp only [finish, endMarks]
    rw [show Try.f76.results.toList = [.tmp 4] from rfl]
    simp (disch := first | omega | (simp only [add_nx, upd_nx, res_nx, putAt_nx] <;> omega) | decide) only [resA, ev_tmp, tget_ne, tget_eq, get_ne, get_eq, upd_eq, upd_ne, ag_eq, ag_ne, result1]
    exact hK _ _ Kp.refl.add rfl
set_option maxHeartbeats 4000000 in
theorem allows_y (S : Ev.Steps Try.prog pr R) (h0 : AHeap) (c : C4) (i : Int) : Brings Try.prog R 78 [.agg ⟨cc c⟩, iv i] h0 fun v _ => v = .bool (inB i 0 c.2.2.1) := by
  refine brings_of (fn := Try.f78) (c := (Try.f78.body).getD .skip) (by kernel_rfl) rfl (by kernel_rfl) rfl (fun K hK => ?_)
  generalize hF : finish Try.prog Try.f78 K = KF
  simp only [Try.f78, Option.getD_some, argsT, setArgs, fV1_eq, T.setK_eq, id]
  repeat refine S.seq ?_
  refine S.region ?_
  simp (disch := first | omega | (simp only [add_nx, upd_nx, res_nx, putAt_nx] <;> omega) | decide) only [rUz, ↓reduceIte, Nat.reduceEqDiff, Nat.reduceAdd]
  unfold inB at hK
  by_cases h1 : 0 ≤ i
  · have hd : decide (0 ≤ i) = true := decide_eq_true h1
    rw [hd, Bool.true_and] at hK
    repeat refine S.seq ?_
    refine S.region ?_
    simp (disch := first | omega | (simp only [add_nx, upd_nx, res_nx, putAt_nx] <;> omega) | decide) only [rUz, ↓reduceIte, Nat.reduceEqDiff, Nat.reduceAdd, hd, fieldAddr_ptr fL2 s3, p3, cc2]
    refine S.ret ?_
    try simp only [seqK_ret, blockK_ret]
    subst hF
    simp only [finish, endMarks]
    rw [show Try.f78.results.toList = [.tmp 4] from rfl]
    simp (disch := first | omega | (simp only [add_nx, upd_nx, res_nx, putAt_nx] <;> omega) | decide) only [resA, ev_tmp, tget_ne, tget_eq, get_ne, get_eq, upd_eq, upd_ne, ag_eq, ag_ne, result1]
    exact hK _ _ Kp.refl.add rfl
  · have hd : decide (0 ≤ i) = false := decide_eq_false h1
    rw [hd, Bool.false_and] at hK
    repeat refine S.seq ?_
    refine S.region ?_
    simp (disch := first | omega | (simp only [add_nx, upd_nx, res_nx, putAt_nx] <;> omega) | decide) only [rUz, ↓reduceIte, Nat.reduceEqDiff, Nat.reduceAdd, hd]
    refine S.ret ?_
    try simp only [seqK_ret, blockK_ret]
    subst hF
    simp only [finish, endMarks]
    rw [show Try.f78.results.toList = [.tmp 4] from rfl]
    simp (disch := first | omega | (simp only [add_nx, upd_nx, res_nx, putAt_nx] <;> omega) | decide) only [resA, ev_tmp, tget_ne, tget_eq, get_ne, get_eq, upd_eq, upd_ne, ag_eq, ag_ne, result1]
    exact hK _ _ Kp.refl.add rfl

/-! ## lists.All over numbers -/
theorem pFi (c : List Value) (o : Nat) : partL Try.prog 80 c o = c[o]? := by kernel_rfl
set_option maxHeartbeats 4000000 in
theorem closI_y (S : Ev.Steps Try.prog pr R) (hoff : Off pr) (h : AHeap) (Bf f : Nat) (ro : Bool) (G : FuncId) (hG : offB G = true) (first : Array Value) (x : Int) (b : Bool) (hb : h.bl.get Bf = some (.cells [.func (.func G) first #[]] f ro))
    (hq : Brings Try.prog R G (first.toList ++ [iv x]) h fun u _ => u = .bool b) :
    Brings Try.prog R 90 [iv x, ptr0 Bf] h fun u _ => u = .bool (!b) := by
  refine brings_of (fn := Try.f90) (c := (Try.f90.body).getD .skip) (by kernel_rfl) rfl (by kernel_rfl) rfl (fun K hK => ?_)
  generalize hF : finish Try.prog Try.f90 K = KF
  simp only [Try.f90, Option.getD_some, argsT, setArgs, fV1_eq, T.setK_eq, id]
  repeat refine S.seq ?_
  refine S.region ?_
  simp (disch := first | omega | (simp only [add_nx, upd_nx, res_nx, putAt_nx] <;> omega) | decide) only [rUz, ↓reduceIte, Nat.reduceEqDiff, Nat.reduceAdd]
  repeat refine S.seq ?_
  refine S.region ?_
  simp (disch := first | omega | (simp only [add_nx, upd_nx, res_nx, putAt_nx] <;> omega) | decide) only [rUz, ↓reduceIte, Nat.reduceEqDiff, Nat.reduceAdd, hb, pFi]
  refine wr_brings (fid := G) (first := first) (captured := #[]) (Post := fun u _ => u = .bool b) (by simp (disch := first | omega | (simp only [add_nx, upd_nx, res_nx, putAt_nx] <;> omega) | decide) only [rUz, ↓reduceIte, Nat.reduceEqDiff, Nat.reduceAdd]) (hoff _ _ _ hG) (by simp (disch := first | omega | (simp only [add_nx, upd_nx, res_nx, putAt_nx] <;> omega) | decide) only [rUz, ↓reduceIte, Nat.reduceEqDiff, Nat.reduceAdd]; exact hq) ?_
  rintro u g hk rfl
  simp (disch := first | omega | (simp only [add_nx, upd_nx, res_nx, putAt_nx] <;> omega) | decide) only [rUz, ↓reduceIte, Nat.reduceEqDiff, Nat.reduceAdd, un_not]
  refine S.ret ?_
  try simp only [seqK_ret, blockK_ret]
  subst hF
  simp only [finish, endMarks]
  rw [show Try.f90.results.toList = [.tmp 3] from rfl]
  simp (disch := first | omega | (simp only [add_nx, upd_nx, res_nx, putAt_nx] <;> omega) | decide) only [resA, ev_tmp, tget_ne, tget_eq, get_ne, get_eq, upd_eq, upd_ne, ag_eq, ag_ne, result1]
  exact hK _ _ hk rfl

def IXi (q : Int → Bool) (l : List Int) (H : AHeap) (cv fv : Value) (k : Nat) (t : T Value) (h : AHeap) : Prop :=
  k ≤ l.length ∧ firstBad q l 0 = firstBad q (l.drop k) k ∧ Kp H h ∧ tget t 0 = cv ∧ tget t 1 = fv ∧ tget t 7 = iv (l.length : Int) ∧ tget t 8 = iv (k : Int)
set_option maxHeartbeats 4000000 in
theorem idxI_y (S : Ev.Steps Try.prog pr R) (hoff : Off pr) (h0 : AHeap) (cv : Value) (l : List Int) (hc : IAt h0 cv l) (hsz : (l.length : Int) ≤ 1000000) (Bf f : Nat) (ro : Bool) (G : FuncId) (hG : offB G = true) (first : Array Value) (q : Int → Bool) (hlt : Bf < h0.nx) (hb : h0.bl.get Bf = some (.cells [.func (.func G) first #[]] f ro))
    (hq : ∀ h', Kp h0 h' → ∀ x, x ∈ l → Brings Try.prog R G (first.toList ++ [iv x]) h' fun u _ => u = .bool (q x)) :
    Brings Try.prog R 99 [cv, .func (.func 90) #[] #[ptr0 Bf]] h0 fun u _ => u = iv (firstBad q l 0) := by
  refine brings_of (fn := Try.f99) (c := (Try.f99.body).getD .skip) (by kernel_rfl) rfl (by kernel_rfl) rfl (fun K hK => ?_)
  generalize hF : finish Try.prog Try.f99 K = KF
  simp only [Try.f99, Option.getD_some, argsT, setArgs, fV1_eq, T.setK_eq, id]
  have hlen := fun t h1 o => hc.len isI t h1 o
  repeat refine S.seq ?_
  refine S.region ?_
  simp (disch := first | omega | (simp only [add_nx, upd_nx, res_nx, putAt_nx] <;> omega) | decide) only [rUz, ↓reduceIte, Nat.reduceEqDiff, Nat.reduceAdd]
  repeat refine S.seq ?_
  refine S.region ?_
  simp (disch := first | omega | (simp only [add_nx, upd_nx, res_nx, putAt_nx] <;> omega) | decide) only [rUz, ↓reduceIte, Nat.reduceEqDiff, Nat.reduceAdd, hlen]
  repeat refine S.seq ?_
  refine S.block ?_
  refine S.loop (ι := Nat) (IXi q l h0 cv (.func (.func 90) #[] #[ptr0 Bf])) (fun k => l.length - k) ?_ 0 _ _ ?_
  · intro k t h ⟨hk, hfb, hkp, t0, t1, t7, t8⟩ K' hn he
    repeat refine S.seq ?_
    refine S.region ?_
    simp (disch := first | omega | (simp only [add_nx, upd_nx, res_nx, putAt_nx] <;> omega) | decide) only [rUz, ↓reduceIte, Nat.reduceEqDiff, Nat.reduceAdd, t7, t8]
    repeat refine S.seq ?_
    refine S.cond (v := decide ((k : Int) < (l.length : Int))) (by first | rfl | (simp (disch := first | omega | (simp only [add_nx, upd_nx, res_nx, putAt_nx] <;> omega) | decide) only [rUz, ↓reduceIte, Nat.reduceEqDiff, Nat.reduceAdd] <;> rfl)) (fun e => ?_) (fun e => ?_)
    · have hkn : k < l.length := by have := of_decide_eq_true e; omega
      clear e
      have hmem : l[k] ∈ l := List.getElem_mem hkn
      rw [List.drop_eq_getElem_cons hkn] at hfb
      simp only [firstBad] at hfb
      obtain ⟨b, f2, ro2, q1, q2, q3, q4⟩ := (hc.mono hkp).idx slI s3' hkn
      generalize l[k] = x at hmem hfb q4
      repeat refine S.seq ?_
      refine S.skip ?_
      simp (disch := first | omega | (simp only [add_nx, upd_nx, res_nx, putAt_nx] <;> omega) | decide) only [rUz, ↓reduceIte, Nat.reduceEqDiff, Nat.reduceAdd]
      repeat refine S.seq ?_
      refine S.block ?_
      repeat refine S.seq ?_
      refine S.region ?_
      simp (disch := first | omega | (simp only [add_nx, upd_nx, res_nx, putAt_nx] <;> omega) | decide) only [rUz, ↓reduceIte, Nat.reduceEqDiff, Nat.reduceAdd, t8]
      repeat refine S.seq ?_
      refine S.region ?_
      simp (disch := first | omega | (simp only [add_nx, upd_nx, res_nx, putAt_nx] <;> omega) | decide) only [rUz, ↓reduceIte, Nat.reduceEqDiff, Nat.reduceAdd, t0, t1, t8, q1, q3, q4, p3]
      refine wr_brings (fid := 90) (first := #[]) (captured := #[ptr0 Bf]) (Post := fun u _ => u = .bool (!(q x))) (by simp (disch := first | omega | (simp only [add_nx, upd_nx, res_nx, putAt_nx] <;> omega) | decide) only [rUz, ↓reduceIte, Nat.reduceEqDiff, Nat.reduceAdd, t1]) (hoff _ _ _ rfl) (by simp (disch := first | omega | (simp only [add_nx, upd_nx, res_nx, putAt_nx] <;> omega) | decide) only [rUz, ↓reduceIte, Nat.reduceEqDiff, Nat.reduceAdd]; exact closI_y S hoff h Bf f ro G hG first x (q x) ((hkp.get hlt).trans hb) (hq h hkp x hmem)) ?_
      rintro u g hk2 rfl
      simp (disch := first | omega | (simp only [add_nx, upd_nx, res_nx, putAt_nx] <;> omega) | decide) only [rUz, ↓reduceIte, Nat.reduceEqDiff, Nat.reduceAdd]
      cases hqp : q x with
      | true =>
        rw [hqp, cond_true] at hfb
        repeat refine S.seq ?_
        refine S.cond (v := false) (by first | rfl | (simp (disch := first | omega | (simp only [add_nx, upd_nx, res_nx, putAt_nx] <;> omega) | decide) only [rUz, ↓reduceIte, Nat.reduceEqDiff, Nat.reduceAdd, hqp, Bool.not_true] <;> rfl)) (fun e => by cases e) (fun _ => ?_)
        repeat refine S.seq ?_
        refine S.skip ?_
        simp (disch := first | omega | (simp only [add_nx, upd_nx, res_nx, putAt_nx] <;> omega) | decide) only [rUz, ↓reduceIte, Nat.reduceEqDiff, Nat.reduceAdd]
        repeat refine S.seq ?_
        refine S.region ?_
        simp (disch := first | omega | (simp only [add_nx, upd_nx, res_nx, putAt_nx] <;> omega) | decide) only [rUz, ↓reduceIte, Nat.reduceEqDiff, Nat.reduceAdd, t8]
        refine hn (k + 1) _ _ (by omega) ⟨by omega, hfb, hkp.trans hk2, ?_, ?_, ?_, ?_⟩
        all_goals (first | rfl | (simp (disch := first | omega | (simp only [add_nx, upd_nx, res_nx, putAt_nx] <;> omega) | decide) only [rUz, ↓reduceIte, Nat.reduceEqDiff, Nat.reduceAdd, t0, t1, t7, t8]; done) | (simp (disch := first | omega | (simp only [add_nx, upd_nx, res_nx, putAt_nx] <;> omega) | decide) only [rUz, ↓reduceIte, Nat.reduceEqDiff, Nat.reduceAdd, t0, t1, t7, t8]; rfl))
      | false =>
        rw [hqp, cond_false] at hfb
        repeat refine S.seq ?_
        refine S.cond (v := true) (by first | rfl | (simp (disch := first | omega | (simp only [add_nx, upd_nx, res_nx, putAt_nx] <;> omega) | decide) only [rUz, ↓reduceIte, Nat.reduceEqDiff, Nat.reduceAdd, hqp, Bool.not_false] <;> rfl)) (fun _ => ?_) (fun e => by cases e)
        repeat refine S.seq ?_
        refine S.region ?_
        simp (disch := first | omega | (simp only [add_nx, upd_nx, res_nx, putAt_nx] <;> omega) | decide) only [rUz, ↓reduceIte, Nat.reduceEqDiff, Nat.reduceAdd, t8]
        refine S.ret ?_
        simp only [seqK_ret, blockK_ret]
        refine he _ _ _ _ (fun e => by cases e) ?_
        simp only [seqK_ret, blockK_ret]
        subst hF
        simp only [finish, endMarks]
        rw [show Try.f99.results.toList = [.tmp 4] from rfl]
        simp (disch := omega) only [resA, ev_tmp, tget_ne, tget_eq, result1]
        exact hK _ _ (hkp.trans hk2) (by rw [hfb])
    · have hkn : k = l.length := by have := of_decide_eq_false e; omega
      subst hkn
      rw [List.drop_of_length_le (Nat.le_refl _)] at hfb
      refine S.exit (he _ _ _ _ (fun e => by cases e) ?_)
      simp (disch := first | omega | (simp only [add_nx, upd_nx, res_nx, putAt_nx] <;> omega) | decide) only [rUz, ↓reduceIte, Nat.reduceEqDiff, Nat.reduceAdd]
      repeat refine S.seq ?_
      refine S.region ?_
      simp (disch := first | omega | (simp only [add_nx, upd_nx, res_nx, putAt_nx] <;> omega) | decide) only [rUz, ↓reduceIte, Nat.reduceEqDiff, Nat.reduceAdd]
      refine S.ret ?_
      try simp only [seqK_ret, blockK_ret]
      subst hF
      simp only [finish, endMarks]
      rw [show Try.f99.results.toList = [.tmp 4] from rfl]
      simp (disch := first | omega | (simp only [add_nx, upd_nx, res_nx, putAt_nx] <;> omega) | decide) only [resA, ev_tmp, tget_ne, tget_eq, get_ne, get_eq, upd_eq, upd_ne, ag_eq, ag_ne, result1]
      exact hK _ _ hkp (by rw [hfb]; rfl)
  · refine ⟨Nat.zero_le _, rfl, Kp.refl, ?_, ?_, ?_, ?_⟩
    all_goals (first | rfl | (simp (disch := first | omega | (simp only [add_nx, upd_nx, res_nx, putAt_nx] <;> omega) | decide) only [rUz, ↓reduceIte, Nat.reduceEqDiff, Nat.reduceAdd]; done) | (simp (disch := first | omega | (simp only [add_nx, upd_nx, res_nx, putAt_nx] <;> omega) | decide) only [rUz, ↓reduceIte, Nat.reduceEqDiff, Nat.reduceAdd]; rfl))
set_option maxHeartbeats 4000000 in
theorem allI_y (S : Ev.Steps Try.prog pr R) (hoff : Off pr) (h0 : AHeap) (cv : Value) (l : List Int) (hc : IAt h0 cv l) (hsz : (l.length : Int) ≤ 1000000) (G : FuncId) (hG : offB G = true) (first : Array Value) (q : Int → Bool)
    (hq : ∀ h', Kp h0 h' → ∀ x, x ∈ l → Brings Try.prog R G (first.toList ++ [iv x]) h' fun u _ => u = .bool (q x)) :
    Brings Try.prog R 71 [cv, .func (.func G) first #[]] h0 fun u _ => u = .bool (l.all q) := by
  refine brings_of (fn := Try.f71) (c := (Try.f71.body).getD .skip) (by kernel_rfl) rfl (by kernel_rfl) rfl (fun K hK => ?_)
  generalize hF : finish Try.prog Try.f71 K = KF
  simp only [Try.f71, Option.getD_some, argsT, setArgs, fV1_eq, T.setK_eq, id]
  repeat refine S.seq ?_
  refine S.region ?_
  simp (disch := first | omega | (simp only [add_nx, upd_nx, res_nx, putAt_nx] <;> omega) | decide) only [rUz, ↓reduceIte, Nat.reduceEqDiff, Nat.reduceAdd]
  repeat refine S.seq ?_
  refine S.region ?_
  simp (disch := first | omega | (simp only [add_nx, upd_nx, res_nx, putAt_nx] <;> omega) | decide) only [rUz, ↓reduceIte, Nat.reduceEqDiff, Nat.reduceAdd]
  have hidx := idxI_y S hoff (h0.add [.func (.func G) first #[]]) cv l (hc.mono Kp.refl.add) hsz h0.nx h0.nx false G hG first q (Nat.lt_succ_self _) (ag_eq rfl) (fun h' hk => hq h' (Kp.refl.add.trans hk))
  have hcf : Brings Try.prog R 89 [cv, .func (.func 90) #[] #[ptr0 h0.nx]] (h0.add [.func (.func G) first #[]]) fun u _ => u = .bool (!(l.all q)) := by
    clear hK hF K KF
    refine brings_of (fn := Try.f89) (c := (Try.f89.body).getD .skip) (by kernel_rfl) rfl (by kernel_rfl) rfl (fun K hK => ?_)
    generalize hF : finish Try.prog Try.f89 K = KF
    simp only [Try.f89, Option.getD_some, argsT, setArgs, fV1_eq, T.setK_eq, id]
    repeat refine S.seq ?_
    refine S.region ?_
    simp (disch := first | omega | (simp only [add_nx, upd_nx, res_nx, putAt_nx] <;> omega) | decide) only [rUz, ↓reduceIte, Nat.reduceEqDiff, Nat.reduceAdd]
    repeat refine S.seq ?_
    refine S.region ?_
    simp (disch := first | omega | (simp only [add_nx, upd_nx, res_nx, putAt_nx] <;> omega) | decide) only [rUz, ↓reduceIte, Nat.reduceEqDiff, Nat.reduceAdd]
    refine wr_brings (fid := 99) (first := #[]) (captured := #[]) (Post := fun u _ => u = iv (firstBad q l 0)) rfl (hoff _ _ _ rfl) (by simp (disch := first | omega | (simp only [add_nx, upd_nx, res_nx, putAt_nx] <;> omega) | decide) only [rUz, ↓reduceIte, Nat.reduceEqDiff, Nat.reduceAdd]; exact hidx) ?_
    rintro u g hk rfl
    simp (disch := first | omega | (simp only [add_nx, upd_nx, res_nx, putAt_nx] <;> omega) | decide) only [rUz, ↓reduceIte, Nat.reduceEqDiff, Nat.reduceAdd, firstBad_ge q l 0 (Int.le_refl _)]
    refine S.ret ?_
    try simp only [seqK_ret, blockK_ret]
    subst hF
    simp only [finish, endMarks]
    rw [show Try.f89.results.toList = [.tmp 4] from rfl]
    simp (disch := first | omega | (simp only [add_nx, upd_nx, res_nx, putAt_nx] <;> omega) | decide) only [resA, ev_tmp, tget_ne, tget_eq, get_ne, get_eq, upd_eq, upd_ne, ag_eq, ag_ne, result1]
    exact hK _ _ hk rfl
  refine wr_brings (fid := 89) (first := #[]) (captured := #[]) (Post := fun u _ => u = .bool (!(l.all q))) rfl (hoff _ _ _ rfl) (by simp (disch := first | omega | (simp only [add_nx, upd_nx, res_nx, putAt_nx] <;> omega) | decide) only [rUz, ↓reduceIte, Nat.reduceEqDiff, Nat.reduceAdd]; exact hcf) ?_
  rintro u g hk rfl
  simp (disch := first | omega | (simp only [add_nx, upd_nx, res_nx, putAt_nx] <;> omega) | decide) only [rUz, ↓reduceIte, Nat.reduceEqDiff, Nat.reduceAdd, un_not, Bool.not_not]
  refine S.ret ?_
  try simp only [seqK_ret, blockK_ret]
  subst hF
  simp only [finish, endMarks]
  rw [show Try.f71.results.toList = [.tmp 4] from rfl]
  simp (disch := first | omega | (simp only [add_nx, upd_nx, res_nx, putAt_nx] <;> omega) | decide) only [resA, ev_tmp, tget_ne, tget_eq, get_ne, get_eq, upd_eq, upd_ne, ag_eq, ag_ne, result1]
  exact hK _ _ (Kp.refl.add.trans hk) rfl
end Go.Proofs.Rg
