import Derived.Test.YtemmpnipmklacaaRn4
namespace Go.Proofs.Rg
open Go Go.Ev
set_option linter.unusedSimpArgs false

/-! ## Sums for each house -/
def addAt (l : List Int) (k : Nat) (d : Int) : List Int := l.set k (l.getD k 0 + d)
theorem addAt_len (l : List Int) (k : Nat) (d : Int) : (addAt l k d).length = l.length := List.length_set
def bnd (B : Int) (l : List Int) : Prop := ∀ x, x ∈ l → -B ≤ x ∧ x ≤ B
theorem bnd_getD {B : Int} {l : List Int} (h : bnd B l) (hB : 0 ≤ B) (k : Nat) : -B ≤ l.getD k 0 ∧ l.getD k 0 ≤ B := by
  rw [List.getD_eq_getElem?_getD]
  cases e : l[k]? with
  | none => simp; omega
  | some x => exact h x (List.mem_of_getElem? e)
theorem bnd_addAt {B M : Int} {l : List Int} {k : Nat} {d : Int} (h : bnd B l) (hB : 0 ≤ B) (hM : 0 ≤ M) (h1 : -M ≤ d) (h2 : d ≤ M) : bnd (B + M) (addAt l k d) := by
  intro x hx
  rcases List.mem_or_eq_of_mem_set hx with hx | rfl
  · have := h x hx; omega
  · have := bnd_getD h hB k; omega
theorem bnd_mono {B B' : Int} {l : List Int} (h : bnd B l) (hb : B ≤ B') : bnd B' l := fun x hx => by have := h x hx; omega
theorem bnd_zero (n : Nat) : bnd 0 (List.replicate n 0) := fun x hx => by
  rw [List.eq_of_mem_replicate hx]; omega
theorem getD_addAt (l : List Int) (k : Nat) (d : Int) (j : Nat) : (addAt l k d).getD j 0 = if k = j ∧ j < l.length then l.getD j 0 + d else l.getD j 0 := by
  unfold addAt
  simp only [List.getD_eq_getElem?_getD, List.getElem?_set]
  by_cases h : k = j
  · subst h
    by_cases h2 : k < l.length
    · simp [h2]
    · simp [h2]
  · simp [h]
theorem ext_getD {a b : List Int} (h1 : a.length = b.length) (h2 : ∀ j, j < a.length → a.getD j 0 = b.getD j 0) : a = b := by
  refine List.ext_getElem h1 fun j h3 h4 => ?_
  have := h2 j h3
  simpa [List.getD_eq_getElem?_getD, h3, h4] using this
theorem addAt_comm (l : List Int) (i j : Nat) (x y : Int) : addAt (addAt l i x) j y = addAt (addAt l j y) i x := by
  refine ext_getD (by simp only [addAt_len]) fun k _ => ?_
  simp only [getD_addAt, addAt_len]
  by_cases h1 : i = k ∧ k < l.length <;> by_cases h2 : j = k ∧ k < l.length <;> simp [h1, h2] <;> omega

def stepB (acc : List Int) (c : C4) (a : Int) : List Int := addAt (addAt acc c.1.toNat (-a)) c.2.1.toNat a
def balG : List C4 → List Int → List Int → List Int
  | c :: cs, a :: am, acc => balG cs am (stepB acc c a)
  | _, _, acc => acc
def bal (n : Nat) (cs : List C4) (am : List Int) : List Int := balG cs am (List.replicate n 0)
theorem stepB_len (acc : List Int) (c : C4) (a : Int) : (stepB acc c a).length = acc.length := by simp only [stepB, addAt_len]
theorem balG_len : ∀ (cs : List C4) (am acc : List Int), (balG cs am acc).length = acc.length
  | [], _, _ => by simp [balG]
  | _ :: _, [], _ => by simp [balG]
  | c :: cs, a :: am, acc => by simp only [balG]; rw [balG_len cs am, stepB_len]
theorem bal_len (n : Nat) (cs : List C4) (am : List Int) : (bal n cs am).length = n := by rw [bal, balG_len, List.length_replicate]
theorem stepB_bnd {B M : Int} {acc : List Int} {c : C4} {a : Int} (h : bnd B acc) (hB : 0 ≤ B) (h1 : -M ≤ a) (h2 : a ≤ M) : bnd (B + M + M) (stepB acc c a) :=
  bnd_addAt (bnd_addAt h hB (by omega) (by omega) (by omega)) (by omega) (by omega) h1 h2
theorem balG_bnd {M : Int} (hM : 0 ≤ M) : ∀ {cs : List C4} {am acc : List Int} {B : Int}, bnd B acc → 0 ≤ B → bnd M am → bnd (B + 2 * M * cs.length) (balG cs am acc)
  | [], _, _, B, h, _, _ => by simp only [balG]; exact bnd_mono h (by simp)
  | c :: cs, [], _, B, h, hB, _ => by
    simp only [balG]
    exact bnd_mono h (by have : (0 : Int) ≤ 2 * M * ((c :: cs).length : Int) := Int.mul_nonneg (by omega) (by omega); omega)
  | c :: cs, a :: am, acc, B, h, hB, ha => by
    simp only [balG]
    have h1 := ha a (by simp)
    have := balG_bnd hM (cs := cs) (am := am) (stepB_bnd (c := c) h hB h1.1 h1.2) (by omega) (fun x hx => ha x (by simp [hx]))
    refine bnd_mono this ?_
    rw [List.length_cons, Int.natCast_add, Int.mul_add]
    omega

/-- All contracts are between houses. -/
def Hs (n : Nat) (cs : List C4) : Prop := ∀ c, c ∈ cs → (∃ f t : Nat, c.1 = (f : Int) ∧ c.2.1 = (t : Int) ∧ f < n ∧ t < n ∧ f ≠ t) ∧ 1 ≤ c.2.2.1 ∧ c.2.2.1 ≤ 100 ∧ 1 ≤ c.2.2.2 ∧ c.2.2.2 ≤ 1000
theorem Hs.of_fault {hs : Int} {cs : List C4} (h : faultZ hs cs = 0) : ∃ n : Nat, hs = (n : Int) ∧ 1 ≤ n ∧ n ≤ 6 ∧ cs.length ≤ 8 ∧ Hs n cs := by
  unfold faultZ at h
  by_cases h1 : 6 < hs
  · rw [decide_eq_true h1, Bool.true_or, cond_true] at h; omega
  by_cases h2 : 8 < (cs.length : Int)
  · rw [decide_eq_true h2, Bool.or_true, cond_true] at h; omega
  rw [decide_eq_false h1, decide_eq_false h2, Bool.false_or, cond_false] at h
  by_cases h3 : hs < 1
  · rw [decide_eq_true h3, cond_true] at h; omega
  rw [decide_eq_false h3, cond_false] at h
  cases h4 : cs.all (okC hs) with
  | false => rw [h4, cond_false] at h; omega
  | true =>
    refine ⟨hs.toNat, by omega, by omega, by omega, by omega, fun c hc => ?_⟩
    have := List.all_eq_true.1 h4 c hc
    simp only [okC, inB, Bool.and_eq_true, decide_eq_true_eq, Bool.not_eq_true', decide_eq_false_iff_not] at this
    obtain ⟨k1, k2, k3, k4, k5⟩ := this
    exact ⟨⟨c.1.toNat, c.2.1.toNat, by omega, by omega, by omega, by omega, by omega⟩, k4.1, k4.2, k5.1, k5.2⟩

/-! ## Both sides of a contract -/
variable {pr : Prim} {R : ExT}
theorem zS : zeroOf Try.prog 97 = some (.agg ⟨[.nilFunc, iv 0, .nilFunc, iv 0]⟩) := by kernel_rfl
theorem sS : sizeB Try.prog 97 = some 4 := by kernel_rfl
theorem zs : zeroOf Try.prog 96 = some (.agg ⟨[.nilFunc, iv 0]⟩) := by kernel_rfl
theorem ss : sizeB Try.prog 96 = some 2 := by kernel_rfl
abbrev fnV (g : FuncId) : Value := .func (.func g) #[] #[]
theorem bs1 : rBuild Try.prog 96 [(0, fnV 66), (1, iv (-1))] = some (.agg ⟨[fnV 66, iv (-1)]⟩) := by kernel_rfl
theorem bs2 : rBuild Try.prog 96 [(0, fnV 67), (1, iv 1)] = some (.agg ⟨[fnV 67, iv 1]⟩) := by kernel_rfl
def sidesV : List Value := [fnV 66, iv (-1), fnV 67, iv 1]
theorem bS : rBuild Try.prog 97 [(0, .agg ⟨[fnV 66, iv (-1)]⟩), (1, .agg ⟨[fnV 67, iv 1]⟩)] = some (.agg ⟨sidesV⟩) := by kernel_rfl
theorem ps : partL Try.prog 97 sidesV 0 = some (.agg ⟨sidesV⟩) := by kernel_rfl
theorem is0 (t : T Value) (o : Oper) : rIndex Try.prog t o 97 (iv ((0 : Nat) : Int)) (.agg ⟨sidesV⟩) = some (.agg ⟨[fnV 66, iv (-1)]⟩) := by
  show rIndexAgg Try.prog 97 ⟨sidesV⟩ (iv 0) = _
  kernel_rfl
theorem is1 (t : T Value) (o : Oper) : rIndex Try.prog t o 97 (iv ((1 : Nat) : Int)) (.agg ⟨sidesV⟩) = some (.agg ⟨[fnV 67, iv 1]⟩) := by
  show rIndexAgg Try.prog 97 ⟨sidesV⟩ (iv 1) = _
  kernel_rfl
theorem fs0 : fieldOf Try.prog 96 0 = some (0, 94) := by kernel_rfl
theorem fs1 : fieldOf Try.prog 96 1 = some (1, 3) := by kernel_rfl
theorem sf : sizeB Try.prog 94 = some (0 + 1) := by kernel_rfl
theorem pf (c : List Value) (o : Nat) : partL Try.prog 94 c o = c[o]? := by kernel_rfl

set_option maxHeartbeats 4000000 in
theorem sides_y (S : Ev.Steps Try.prog pr R) (h0 : AHeap) : Brings Try.prog R 65 [] h0 fun v _ => v = .agg ⟨sidesV⟩ := by
  refine brings_of (fn := Try.f65) (c := (Try.f65.body).getD .skip) (by kernel_rfl) rfl (by kernel_rfl) rfl (fun K hK => ?_)
  generalize hF : finish Try.prog Try.f65 K = KF
  simp only [Try.f65, Option.getD_some, argsT, setArgs, fV1_eq, T.setK_eq, id]
  repeat refine S.seq ?_
  refine S.region ?_
  simp (disch := first | omega | (simp only [add_nx, upd_nx] <;> omega) | decide) only [rUz, ↓reduceIte, Nat.reduceEqDiff, Nat.reduceAdd, wr_alloc zS]
  repeat refine S.seq ?_
  refine S.region ?_
  simp (disch := first | omega | (simp only [add_nx, upd_nx] <;> omega) | decide) only [rUz, ↓reduceIte, Nat.reduceEqDiff, Nat.reduceAdd, rd_build, w_build, List.map_cons, List.map_nil, bs1, bs2, bS]
  refine wr_storeN (B := h0.nx) (c := [.nilFunc, iv 0, .nilFunc, iv 0]) (fam := h0.nx) (k := h0.nx) (l := sidesV) (by simp (disch := first | omega | (simp only [add_nx, upd_nx] <;> omega) | decide) only [rUz, ↓reduceIte, Nat.reduceEqDiff, Nat.reduceAdd]) (by simp (disch := first | omega | (simp only [add_nx, upd_nx] <;> omega) | decide) only [rUz, ↓reduceIte, Nat.reduceEqDiff, Nat.reduceAdd]) sS (by omega) rfl (ag_eq rfl) (af_eq rfl) rfl ?_
  simp (disch := first | omega | (simp only [add_nx, upd_nx] <;> omega) | decide) only [rUz, ↓reduceIte, Nat.reduceEqDiff, Nat.reduceAdd]
  refine S.ret ?_
  try simp only [seqK_ret, blockK_ret]
  subst hF
  simp only [finish, endMarks]
  rw [show Try.f65.results.toList = [.cell 0 97] from rfl]
  simp (disch := first | omega | (simp only [add_nx, upd_nx] <;> omega) | decide) only [resA, ev_tmp, tget_ne, tget_eq, get_ne, get_eq, upd_eq, upd_ne, ag_eq, ag_ne, result1, ps]
  exact hK _ _ (Kp.refl.add.upd (Nat.le_refl _)) rfl

set_option maxHeartbeats 4000000 in
theorem seller_y (S : Ev.Steps Try.prog pr R) (h0 : AHeap) (c : C4) : Brings Try.prog R 66 [.agg ⟨cc c⟩] h0 fun v _ => v = iv c.1 := by
  refine brings_of (fn := Try.f66) (c := (Try.f66.body).getD .skip) (by kernel_rfl) rfl (by kernel_rfl) rfl (fun K hK => ?_)
  generalize hF : finish Try.prog Try.f66 K = KF
  simp only [Try.f66, Option.getD_some, argsT, setArgs, fV1_eq, T.setK_eq, id]
  repeat refine S.seq ?_
  refine S.region ?_
  simp (disch := first | omega | (simp only [add_nx, upd_nx] <;> omega) | decide) only [rUz, ↓reduceIte, Nat.reduceEqDiff, Nat.reduceAdd]
  repeat refine S.seq ?_
  refine S.region ?_
  simp (disch := first | omega | (simp only [add_nx, upd_nx] <;> omega) | decide) only [rUz, ↓reduceIte, Nat.reduceEqDiff, Nat.reduceAdd, fieldAddr_ptr fL0 s3, p3, cc0]
  refine S.ret ?_
  try simp only [seqK_ret, blockK_ret]
  subst hF
  simp only [finish, endMarks]
  rw [show Try.f66.results.toList = [.tmp 2] from rfl]
  simp (disch := first | omega | (simp only [add_nx, upd_nx] <;> omega) | decide) only [resA, ev_tmp, tget_ne, tget_eq, get_ne, get_eq, upd_eq, upd_ne, ag_eq, ag_ne, result1]
  exact hK _ _ Kp.refl.add rfl
set_option maxHeartbeats 4000000 in
theorem buyer_y (S : Ev.Steps Try.prog pr R) (h0 : AHeap) (c : C4) : Brings Try.prog R 67 [.agg ⟨cc c⟩] h0 fun v _ => v = iv c.2.1 := by
  refine brings_of (fn := Try.f67) (c := (Try.f67.body).getD .skip) (by kernel_rfl) rfl (by kernel_rfl) rfl (fun K hK => ?_)
  generalize hF : finish Try.prog Try.f67 K = KF
  simp only [Try.f67, Option.getD_some, argsT, setArgs, fV1_eq, T.setK_eq, id]
  repeat refine S.seq ?_
  refine S.region ?_
  simp (disch := first | omega | (simp only [add_nx, upd_nx] <;> omega) | decide) only [rUz, ↓reduceIte, Nat.reduceEqDiff, Nat.reduceAdd]
  repeat refine S.seq ?_
  refine S.region ?_
  simp (disch := first | omega | (simp only [add_nx, upd_nx] <;> omega) | decide) only [rUz, ↓reduceIte, Nat.reduceEqDiff, Nat.reduceAdd, fieldAddr_ptr fL1 s3, p3, cc1]
  refine S.ret ?_
  try simp only [seqK_ret, blockK_ret]
  subst hF
  simp only [finish, endMarks]
  rw [show Try.f67.results.toList = [.tmp 2] from rfl]
  simp (disch := first | omega | (simp only [add_nx, upd_nx] <;> omega) | decide) only [resA, ev_tmp, tget_ne, tget_eq, get_ne, get_eq, upd_eq, upd_ne, ag_eq, ag_ne, result1]
  exact hK _ _ Kp.refl.add rfl
end Go.Proofs.Rg
