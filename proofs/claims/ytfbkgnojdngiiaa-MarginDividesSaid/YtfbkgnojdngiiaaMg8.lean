import Derived.Test.YtfbkgnojdngiiaaMg7
/- MarginDivides: what the parts of any sum have. -/
namespace Go.Proofs.Mg
open Go Go.Ev
set_option linter.unusedSimpArgs false
variable {pr : Prim} {R : ExT}
abbrev u32v (n : Int) : Value := .int .u32 n
def U32s (h : AHeap) (v : Value) (l : List Int) : Prop := SlAt h 1 v (l.map fun n => [u32v n]) ∧ ∀ n, n ∈ l → 0 ≤ n ∧ n ≤ 4294967295
theorem U32s.mono {h h' : AHeap} {v : Value} {l : List Int} (k : U32s h v l) (a : Kp h h') : U32s h' v l := ⟨SlAt.mono k.1 a, k.2⟩
theorem isU : isSlTy Try.prog 32 = true := by kernel_rfl
theorem slU : slOf Try.prog 32 = some 33 := by kernel_rfl
theorem s32 : sizeB Try.prog 33 = some 1 := by kernel_rfl
theorem p32 (c : List Value) (o : Nat) : partL Try.prog 33 c o = c[o]? := by kernel_rfl
theorem w_cvU {x : Operand} : isW Try.prog (.convert 33 3 x) = false := by
  show isDig Try.prog 33 3 = false
  kernel_rfl
/-- The amounts. -/
def amt (ws : List Int) : List Int := ws.map fun n => n.tmod 100001
theorem amt_len (ws : List Int) : (amt ws).length = ws.length := by simp [amt]
theorem amt_bnd {ws : List Int} (h : ∀ n, n ∈ ws → 0 ≤ n ∧ n ≤ 4294967295) : ∀ x, x ∈ amt ws → 0 ≤ x ∧ x ≤ 100000 := fun x hx => by
  obtain ⟨n, hn, rfl⟩ := List.mem_map.1 hx
  have h1 := h n hn
  have h2 := Int.tmod_nonneg 100001 h1.1
  have h3 := Int.tmod_lt_of_pos n (by omega : (0 : Int) < 100001)
  omega
theorem amt_take (ws : List Int) {k : Nat} (hk : k < ws.length) : i1 ((amt ws).take (k + 1)) = i1 ((amt ws).take k) ++ [[iv (ws[k].tmod 100001)]] := by
  have h1 : k < (amt ws).length := by rw [amt_len]; exact hk
  have h2 : (amt ws)[k] = ws[k].tmod 100001 := by simp [amt]
  rw [List.take_add_one, List.getElem?_eq_getElem h1, Option.toList_some, h2, i1, List.map_append]
  rfl
theorem getD_lt {l : List Int} {k : Nat} (hk : k < l.length) : l.getD k 0 = l[k] := by rw [List.getD_eq_getElem?_getD, List.getElem?_eq_getElem hk]; rfl
structure IDa (mv : Value) (s : Int) (ws : List Int) (H : AHeap) (k : Nat) (t : T Value) (h : AHeap) : Prop where
  kp : Kp H h
  ex : ∃ v F, App H.nx h 1 v (i1 ((amt ws).take k)) F ∧ tget t 5 = v
  t0 : tget t 0 = mv
  t1 : tget t 1 = u32v s
  t6 : tget t 6 = iv (k : Int)
  hk : k ≤ ws.length
structure IDb (v p : Value) (tt sum : Int) (n : Nat) (H : AHeap) (k : Nat) (t : T Value) (h : AHeap) : Prop where
  hh : h = H
  t5 : tget t 5 = v
  t7 : tget t 7 = iv tt
  t8 : tget t 8 = iv sum
  t9 : tget t 9 = p
  t11 : tget t 11 = iv (k : Int)
  hk : k ≤ n
structure IDc (v p : Value) (tt sum : Int) (n : Nat) (k : Nat) (H : AHeap) (j : Nat) (t : T Value) (h : AHeap) : Prop where
  hh : h = H
  t5 : tget t 5 = v
  t7 : tget t 7 = iv tt
  t8 : tget t 8 = iv sum
  t9 : tget t 9 = p
  t11 : tget t 11 = iv (k : Int)
  t12 : tget t 12 = iv (j : Int)
  hj : j ≤ n
set_option maxHeartbeats 16000000 in
theorem divides_law (S : Ev.Steps Try.prog pr R) (hT : Tab pr) (h0 : AHeap) (mv : Value) (ws : List Int) (hw : U32s h0 mv ws) (s : Int) (hs8 : (Lit.int .u32 s).wf = true) :
    Brings Try.prog R 4 [mv, u32v s] h0 fun u _ => u = .bool true := by
  have hoff := hT.off
  have hs0 : 0 ≤ s ∧ s ≤ 4294967295 := by
    simp only [Lit.wf, Bool.and_eq_true, decide_eq_true_eq] at hs8; exact hs8
  refine brings_of (fn := Try.f4) (c := (Try.f4.body).getD .skip) (by kernel_rfl) rfl (by kernel_rfl) rfl (fun K hK => ?_)
  generalize hF : finish Try.prog Try.f4 K = KF
  simp only [Try.f4, Option.getD_some, argsT, setArgs, fV1_eq, T.setK_eq, id]
  have hKr : ∀ g, Kp h0 g → K (.bool true) g = true := fun g hk => hK _ _ hk rfl
  clear hK
  have awake : ∀ {ops : Array Oper} {n : Nat} {rest : List Oper} {t : T Value} {h : AHeap} {KR : T Value → AHeap → Bool} {dst : Option Tmp}, putR Try.prog (withPrim pr (callVal Try.prog R)) ops n rest dst t (.bool true) h KR = true →
      wrR Try.prog (withPrim pr (callVal Try.prog R)) ops n rest (.call ⟨.value (.func 9), #[], #[]⟩) dst t h KR = true := fun k => wr_prim (fid := 9) (first := #[]) (captured := #[]) (v := .bool true) rfl (hT.awake _) k
  have hlen : ∀ t h1 o, rLen Try.prog t h1 o 32 mv = some (iv (ws.length : Int)) := fun t h1 o => by rw [SlAt.len hw.1 isU, List.length_map]
  repeat refine S.seq ?_
  refine S.region ?_
  simp (disch := first | omega | (simp only [add_nx, upd_nx] <;> omega) | decide) only [rUz, ↓reduceIte, Nat.reduceEqDiff, Nat.reduceAdd]
  cases h1 : decide (4 < (ws.length : Int)) with
  | true =>
    repeat refine S.seq ?_
    refine S.region ?_
    simp (disch := first | omega | (simp only [add_nx, upd_nx] <;> omega) | decide) only [rUz, ↓reduceIte, Nat.reduceEqDiff, Nat.reduceAdd, hlen, h1]
    repeat refine S.seq ?_
    refine S.cond (v := true) (by first | rfl | (simp (disch := first | omega | (simp only [add_nx, upd_nx] <;> omega) | decide) only [rUz, ↓reduceIte, Nat.reduceEqDiff, Nat.reduceAdd] <;> rfl)) (fun _ => ?_) (fun e => by cases e)
    repeat refine S.seq ?_
    refine S.region ?_
    simp (disch := first | omega | (simp only [add_nx, upd_nx] <;> omega) | decide) only [rUz, ↓reduceIte, Nat.reduceEqDiff, Nat.reduceAdd]
    refine awake ?_
    simp (disch := first | omega | (simp only [add_nx, upd_nx] <;> omega) | decide) only [rUz, ↓reduceIte, Nat.reduceEqDiff, Nat.reduceAdd]
    refine S.ret ?_
    try simp only [seqK_ret, blockK_ret]
    subst hF
    simp only [finish, endMarks]
    rw [show Try.f4.results.toList = [.tmp 4] from rfl]
    simp (disch := first | omega | (simp only [add_nx, upd_nx] <;> omega) | decide) only [resA, ev_tmp, tget_ne, tget_eq, get_ne, get_eq, upd_eq, upd_ne, ag_eq, ag_ne, result1]
    exact hKr _ Kp.refl
  | false =>
  have h1' := of_decide_eq_false h1
  repeat refine S.seq ?_
  refine S.region ?_
  simp (disch := first | omega | (simp only [add_nx, upd_nx] <;> omega) | decide) only [rUz, ↓reduceIte, Nat.reduceEqDiff, Nat.reduceAdd, hlen, h1]
  repeat refine S.seq ?_
  refine S.cond (v := false) (by first | rfl | (simp (disch := first | omega | (simp only [add_nx, upd_nx] <;> omega) | decide) only [rUz, ↓reduceIte, Nat.reduceEqDiff, Nat.reduceAdd] <;> rfl)) (fun e => by cases e) (fun _ => ?_)
  repeat refine S.seq ?_
  refine S.skip ?_
  simp (disch := first | omega | (simp only [add_nx, upd_nx] <;> omega) | decide) only [rUz, ↓reduceIte, Nat.reduceEqDiff, Nat.reduceAdd]
  repeat refine S.seq ?_
  refine S.region ?_
  simp (disch := first | omega | (simp only [add_nx, upd_nx] <;> omega) | decide) only [rUz, ↓reduceIte, Nat.reduceEqDiff, Nat.reduceAdd]
  repeat refine S.seq ?_
  refine S.region ?_
  simp (disch := first | omega | (simp only [add_nx, upd_nx] <;> omega) | decide) only [rUz, ↓reduceIte, Nat.reduceEqDiff, Nat.reduceAdd]
  repeat refine S.seq ?_
  refine S.block ?_
  refine S.loop (ι := Nat) (IDa mv s ws h0) (fun k => ws.length - k) ?_ 0 _ _ ?_
  rotate_left
  · refine ⟨Kp.refl, ⟨nl, 0, .inl ⟨rfl, rfl⟩, ?_⟩, ?_, ?_, ?_, Nat.zero_le _⟩
    all_goals (first | rfl | (simp (disch := first | omega | (simp only [add_nx, upd_nx] <;> omega) | decide) only [rUz, ↓reduceIte, Nat.reduceEqDiff, Nat.reduceAdd]; done) | (simp (disch := first | omega | (simp only [add_nx, upd_nx] <;> omega) | decide) only [rUz, ↓reduceIte, Nat.reduceEqDiff, Nat.reduceAdd]; rfl))
  intro k t h ⟨hkp, ⟨v, F, hap, t5⟩, t0, t1, t6, hk⟩ K' hn he
  have hnx := hkp.1
  repeat refine S.seq ?_
  refine S.region ?_
  simp (disch := first | omega | (simp only [add_nx, upd_nx] <;> omega) | decide) only [rUz, ↓reduceIte, Nat.reduceEqDiff, Nat.reduceAdd, t0, t6, hlen]
  repeat refine S.seq ?_
  refine S.cond (v := decide ((k : Int) < (ws.length : Int))) (by first | rfl | (simp (disch := first | omega | (simp only [add_nx, upd_nx] <;> omega) | decide) only [rUz, ↓reduceIte, Nat.reduceEqDiff, Nat.reduceAdd] <;> rfl)) (fun e => ?_) (fun e => ?_)
  · have hkn : k < ws.length := by have := of_decide_eq_true e; omega
    have hwh := (hw.mono hkp).1
    obtain ⟨b, f, ro, q1, q2, q3⟩ := SlAt.idx (P := Try.prog) hwh slU s32 (i := k) (by rw [List.length_map]; exact hkn)
    have hm : (ws.map fun n => [u32v n])[k]? = some [u32v ws[k]] := by rw [List.getElem?_map, List.getElem?_eq_getElem hkn]; rfl
    have q4 := flat_get (SlAt.sized hwh) (j := 0) hm (x := u32v ws[k]) rfl
    have hb := hw.2 ws[k] (List.getElem_mem hkn)
    have hi1 := amt_take ws hkn
    have hcl : (i1 ((amt ws).take k)).length < 10 := by rw [List.length_map, List.length_take]; omega
    generalize ws[k] = n at q4 hb hi1
    rw [Nat.mul_one] at q1
    rw [Nat.mul_one, Nat.add_zero] at q4
    generalize i1 ((amt ws).take k) = L at hap hi1 hcl
    repeat refine S.seq ?_
    refine S.skip ?_
    simp (disch := first | omega | (simp only [add_nx, upd_nx] <;> omega) | decide) only [rUz, ↓reduceIte, Nat.reduceEqDiff, Nat.reduceAdd]
    repeat refine S.seq ?_
    refine S.block ?_
    repeat refine S.seq ?_
    refine S.region ?_
    simp (disch := first | omega | (simp only [add_nx, upd_nx] <;> omega) | decide) only [rUz, ↓reduceIte, Nat.reduceEqDiff, Nat.reduceAdd, t0, t5, t6, q1, q3, p32, q4, w_cvU, rd_conv, w_buildSlice, w_append]
    refine optR_of' (v := iv n) (conv_int Try.underlying33 Try.underlying3 (by omega) (by omega)) ?_
    simp (disch := first | omega | (simp only [add_nx, upd_nx] <;> omega) | decide) only [rUz, ↓reduceIte, Nat.reduceEqDiff, Nat.reduceAdd, w_buildSlice, w_append]
    refine optR_of' (bin_rem (i := n) (j := 100001) (by simp (disch := first | omega | (simp only [add_nx, upd_nx] <;> omega) | decide) only [rUz, ↓reduceIte, Nat.reduceEqDiff, Nat.reduceAdd]) (by simp (disch := first | omega | (simp only [add_nx, upd_nx] <;> omega) | decide) only [rUz, ↓reduceIte, Nat.reduceEqDiff, Nat.reduceAdd]) (by omega)) ?_
    generalize n.tmod 100001 = r at hi1
    simp (disch := first | omega | (simp only [add_nx, upd_nx] <;> omega) | decide) only [rUz, ↓reduceIte, Nat.reduceEqDiff, Nat.reduceAdd, w_buildSlice, w_append]
    refine wr_lit1 slI s3' z3 rfl (by omega) (u := iv r) (l := [iv r]) (by simp (disch := first | omega | (simp only [add_nx, upd_nx] <;> omega) | decide) only [rUz, ↓reduceIte, Nat.reduceEqDiff, Nat.reduceAdd]) rfl rfl ?_
    simp (disch := first | omega | (simp only [add_nx, upd_nx] <;> omega) | decide) only [rUz, ↓reduceIte, Nat.reduceEqDiff, Nat.reduceAdd, w_append]
    refine wr_append slI uI (v := v) (bx := h.nx) (cx := 1) (by simp (disch := first | omega | (simp only [add_nx, upd_nx] <;> omega) | decide) only [rUz, ↓reduceIte, Nat.reduceEqDiff, Nat.reduceAdd]) (by simp (disch := first | omega | (simp only [add_nx, upd_nx] <;> omega) | decide) only [rUz, ↓reduceIte, Nat.reduceEqDiff, Nat.reduceAdd]) (hap.mono Kp.refl.add) (by show h0.nx ≤ h.nx + 1; omega) s3' rfl (by omega) (ag_eq rfl) nI (by show _ < 1000000; omega) ?_
    intro v3 h3 F3 x1 x2 x3 x4 x5
    rw [← hi1] at x1
    have hkp3 : Kp h0 h3 := x2.kp (Nat.le_refl _) hkp.add
    simp (disch := first | omega | (simp only [add_nx, upd_nx] <;> omega) | decide) only [rUz, ↓reduceIte, Nat.reduceEqDiff, Nat.reduceAdd]
    repeat refine S.seq ?_
    refine S.region ?_
    simp (disch := first | omega | (simp only [add_nx, upd_nx] <;> omega) | decide) only [rUz, ↓reduceIte, Nat.reduceEqDiff, Nat.reduceAdd, t6]
    refine hn (k + 1) _ _ (by omega) ⟨hkp3, ⟨v3, F3, x1, ?_⟩, ?_, ?_, ?_, by omega⟩
    · all_goals (first | rfl | (simp (disch := first | omega | (simp only [add_nx, upd_nx] <;> omega) | decide) only [rUz, ↓reduceIte, Nat.reduceEqDiff, Nat.reduceAdd]; done) | (simp (disch := first | omega | (simp only [add_nx, upd_nx] <;> omega) | decide) only [rUz, ↓reduceIte, Nat.reduceEqDiff, Nat.reduceAdd]; rfl))
    all_goals (first | rfl | (simp (disch := first | omega | (simp only [add_nx, upd_nx] <;> omega) | decide) only [rUz, ↓reduceIte, Nat.reduceEqDiff, Nat.reduceAdd, t0, t1]; done) | (simp (disch := first | omega | (simp only [add_nx, upd_nx] <;> omega) | decide) only [rUz, ↓reduceIte, Nat.reduceEqDiff, Nat.reduceAdd, t0, t1]; rfl))
  have hkn : k = ws.length := by have := of_decide_eq_false e; omega
  subst hkn
  have hvs : IS h v (amt ws) := by
    have := hap.at
    rw [show (amt ws).take ws.length = amt ws from by rw [← amt_len ws]; exact List.take_of_length_le (Nat.le_refl _)] at this
    exact this
  have hal := amt_len ws
  have hab := amt_bnd hw.2
  refine S.exit (he _ _ _ _ (fun e => by cases e) ?_)
  simp (disch := first | omega | (simp only [add_nx, upd_nx] <;> omega) | decide) only [rUz, ↓reduceIte, Nat.reduceEqDiff, Nat.reduceAdd]
  clear hn he K' e t6 hk t0 hap
  generalize amt ws = l at hvs hal hab
  obtain ⟨hT0, hT1⟩ := sumL_bnd (by omega) hab
  have hT2 : sumL l ≤ 400000 := by omega
  clear hT1
  repeat refine S.seq ?_
  refine S.region ?_
  simp (disch := first | omega | (simp only [add_nx, upd_nx] <;> omega) | decide) only [rUz, ↓reduceIte, Nat.reduceEqDiff, Nat.reduceAdd, t5]
  refine wr_brings (fid := 14) (first := #[]) (captured := #[]) (Post := fun u h' => u = iv (sumL l) ∧ h' = h) rfl (hoff _ _ _ rfl) (by simp (disch := first | omega | (simp only [add_nx, upd_nx] <;> omega) | decide) only [rUz, ↓reduceIte, Nat.reduceEqDiff, Nat.reduceAdd]; exact sum_y S h v l hvs.at (by omega) (fun x hx => by have := hab x hx; omega)) ?_
  rintro u g - ⟨rfl, rfl⟩
  simp (disch := first | omega | (simp only [add_nx, upd_nx] <;> omega) | decide) only [rUz, ↓reduceIte, Nat.reduceEqDiff, Nat.reduceAdd]
  repeat refine S.seq ?_
  refine S.region ?_
  simp (disch := first | omega | (simp only [add_nx, upd_nx] <;> omega) | decide) only [rUz, ↓reduceIte, Nat.reduceEqDiff, Nat.reduceAdd, t1, w_cvU, rd_conv]
  refine optR_of' (v := iv s) (conv_int Try.underlying33 Try.underlying3 (by omega) (by omega)) ?_
  simp (disch := first | omega | (simp only [add_nx, upd_nx] <;> omega) | decide) only [rUz, ↓reduceIte, Nat.reduceEqDiff, Nat.reduceAdd]
  refine optR_of' (bin_rem (i := s) (j := sumL l + 1) (by simp (disch := first | omega | (simp only [add_nx, upd_nx] <;> omega) | decide) only [rUz, ↓reduceIte, Nat.reduceEqDiff, Nat.reduceAdd]) (by simp (disch := first | omega | (simp only [add_nx, upd_nx] <;> omega) | decide) only [rUz, ↓reduceIte, Nat.reduceEqDiff, Nat.reduceAdd]) (by omega)) ?_
  obtain ⟨sum, hsum⟩ : ∃ z, z = s.tmod (sumL l + 1) := ⟨_, rfl⟩
  have hsb : 0 ≤ sum ∧ sum ≤ sumL l := by
    have a1 := Int.tmod_nonneg (sumL l + 1) hs0.1
    have a2 := Int.tmod_lt_of_pos s (by omega : 0 < sumL l + 1)
    omega
  rw [← hsum]
  clear hsum
  simp (disch := first | omega | (simp only [add_nx, upd_nx] <;> omega) | decide) only [rUz, ↓reduceIte, Nat.reduceEqDiff, Nat.reduceAdd]
  repeat refine S.seq ?_
  refine S.region ?_
  simp (disch := first | omega | (simp only [add_nx, upd_nx] <;> omega) | decide) only [rUz, ↓reduceIte, Nat.reduceEqDiff, Nat.reduceAdd, t5]
  refine wr_brings (fid := 11) (first := #[]) (captured := #[]) (Post := fun u h => INew g.nx h u l) rfl (hoff _ _ _ rfl) (by simp (disch := first | omega | (simp only [add_nx, upd_nx] <;> omega) | decide) only [rUz, ↓reduceIte, Nat.reduceEqDiff, Nat.reduceAdd]; exact list_y S g v l hvs (by omega)) ?_
  rintro u g1 hk1 hu
  simp (disch := first | omega | (simp only [add_nx, upd_nx] <;> omega) | decide) only [rUz, ↓reduceIte, Nat.reduceEqDiff, Nat.reduceAdd]
  refine wr_brings (fid := 10) (first := #[]) (captured := #[]) (Post := fun v h => PartsAt 0 l sum v h) rfl (hoff _ _ _ rfl) (by simp (disch := first | omega | (simp only [add_nx, upd_nx] <;> omega) | decide) only [rUz, ↓reduceIte, Nat.reduceEqDiff, Nat.reduceAdd]; exact Parts_y S hoff g1 u l hu.at sum) ?_
  rintro w g2 hk2 ⟨p, rfl, hp⟩
  have hk02 := hk1.trans hk2
  have hkp2 := hkp.trans hk02
  have hv2 := (hvs.mono hk02).at
  have hmon : monB l = true := monB_iff.2 hab
  have hl4 : decide (4 < (l.length : Int)) = false := decide_eq_false (by omega)
  have hin : inB sum 0 (sumL l) = true := inB_iff.2 hsb
  clear hk1 hk2 hu hvs hkp hk02
  simp (disch := first | omega | (simp only [add_nx, upd_nx] <;> omega) | decide) only [rUz, ↓reduceIte, Nat.reduceEqDiff, Nat.reduceAdd, tup0, tup1]
  by_cases hz : sumL l = 0
  · have hd : decide (sumL l = 0) = true := decide_eq_true hz
    have hf : faultP l sum = 1 := by rw [faultP, hl4, hmon, decide_eq_false (by omega : ¬ 0 < sumL l)]; rfl
    rw [hf] at hp ⊢
    repeat refine S.seq ?_
    refine S.region ?_
    simp (disch := first | omega | (simp only [add_nx, upd_nx] <;> omega) | decide) only [rUz, ↓reduceIte, Nat.reduceEqDiff, Nat.reduceAdd, hd]
    repeat refine S.seq ?_
    refine S.cond (v := true) (by first | rfl | (simp (disch := first | omega | (simp only [add_nx, upd_nx] <;> omega) | decide) only [rUz, ↓reduceIte, Nat.reduceEqDiff, Nat.reduceAdd] <;> rfl)) (fun _ => ?_) (fun e => by cases e)
    repeat refine S.seq ?_
    refine S.region ?_
    simp (disch := first | omega | (simp only [add_nx, upd_nx] <;> omega) | decide) only [rUz, ↓reduceIte, Nat.reduceEqDiff, Nat.reduceAdd, decide_true]
    refine awake ?_
    simp (disch := first | omega | (simp only [add_nx, upd_nx] <;> omega) | decide) only [rUz, ↓reduceIte, Nat.reduceEqDiff, Nat.reduceAdd]
    refine S.ret ?_
    try simp only [seqK_ret, blockK_ret]
    subst hF
    simp only [finish, endMarks]
    rw [show Try.f4.results.toList = [.tmp 4] from rfl]
    simp (disch := first | omega | (simp only [add_nx, upd_nx] <;> omega) | decide) only [resA, ev_tmp, tget_ne, tget_eq, get_ne, get_eq, upd_eq, upd_ne, ag_eq, ag_ne, result1]
    exact hKr _ hkp2
  have hd : decide (sumL l = 0) = false := decide_eq_false hz
  have hf : faultP l sum = 0 := by rw [faultP, hl4, hmon, decide_eq_true (by omega : 0 < sumL l), hin]; rfl
  obtain ⟨_, _, ha⟩ := faultP0 hf
  rw [hf, if_pos rfl] at hp
  rw [hf]
  have ok := parts_ok ha
  generalize partsP l sum = P at hp ok
  have lp := fun t h1 o => iv_len hp t h1 o
  have lv := fun t h1 o => iv_len hv2 t h1 o
  have hpl := ok.len
  have hPb : ∀ x, x ∈ P → 0 ≤ x ∧ x ≤ 1000000 := fun x hx => by
    obtain ⟨i, hi, rfl⟩ := List.mem_iff_getElem.1 hx
    have a1 := ok.nn i (by omega)
    have a2 := ok.le i (by omega)
    rw [getD_lt hi] at a1 a2
    rw [getD_lt (by omega)] at a2
    have := hab l[i] (List.getElem_mem _)
    omega
  have hdl : decide ((P.length : Int) = (l.length : Int)) = true := decide_eq_true (by omega)
  repeat refine S.seq ?_
  refine S.region ?_
  simp (disch := first | omega | (simp only [add_nx, upd_nx] <;> omega) | decide) only [rUz, ↓reduceIte, Nat.reduceEqDiff, Nat.reduceAdd, hd]
  repeat refine S.seq ?_
  refine S.cond (v := false) (by first | rfl | (simp (disch := first | omega | (simp only [add_nx, upd_nx] <;> omega) | decide) only [rUz, ↓reduceIte, Nat.reduceEqDiff, Nat.reduceAdd] <;> rfl)) (fun e => by cases e) (fun _ => ?_)
  repeat refine S.seq ?_
  refine S.skip ?_
  simp (disch := first | omega | (simp only [add_nx, upd_nx] <;> omega) | decide) only [rUz, ↓reduceIte, Nat.reduceEqDiff, Nat.reduceAdd]
  repeat refine S.seq ?_
  refine S.region ?_
  simp (disch := first | omega | (simp only [add_nx, upd_nx] <;> omega) | decide) only [rUz, ↓reduceIte, Nat.reduceEqDiff, Nat.reduceAdd, decide_true, Bool.not_true, t5, lp, lv, hdl]
  refine wr_brings (fid := 14) (first := #[]) (captured := #[]) (Post := fun u h' => u = iv (sumL P) ∧ h' = g2) rfl (hoff _ _ _ rfl) (by simp (disch := first | omega | (simp only [add_nx, upd_nx] <;> omega) | decide) only [rUz, ↓reduceIte, Nat.reduceEqDiff, Nat.reduceAdd]; exact sum_y S g2 p P hp (by omega) hPb) ?_
  rintro u g3 - ⟨rfl, rfl⟩
  have hds : decide (sumL P = sum) = true := decide_eq_true ok.sm
  simp (disch := first | omega | (simp only [add_nx, upd_nx] <;> omega) | decide) only [rUz, ↓reduceIte, Nat.reduceEqDiff, Nat.reduceAdd, hds, Bool.not_true]
  repeat refine S.seq ?_
  refine S.cond (v := false) (by first | rfl | (simp (disch := first | omega | (simp only [add_nx, upd_nx] <;> omega) | decide) only [rUz, ↓reduceIte, Nat.reduceEqDiff, Nat.reduceAdd] <;> rfl)) (fun e => by cases e) (fun _ => ?_)
  repeat refine S.seq ?_
  refine S.skip ?_
  simp (disch := first | omega | (simp only [add_nx, upd_nx] <;> omega) | decide) only [rUz, ↓reduceIte, Nat.reduceEqDiff, Nat.reduceAdd]
  repeat refine S.seq ?_
  refine S.region ?_
  simp (disch := first | omega | (simp only [add_nx, upd_nx] <;> omega) | decide) only [rUz, ↓reduceIte, Nat.reduceEqDiff, Nat.reduceAdd]
  repeat refine S.seq ?_
  refine S.block ?_
  refine S.loop (ι := Nat) (IDb v p (sumL l) sum l.length g3) (fun k => l.length - k) ?_ 0 _ _ ?_
  rotate_left
  · refine ⟨rfl, ?_, ?_, ?_, ?_, ?_, Nat.zero_le _⟩
    all_goals (first | rfl | (simp (disch := first | omega | (simp only [add_nx, upd_nx] <;> omega) | decide) only [rUz, ↓reduceIte, Nat.reduceEqDiff, Nat.reduceAdd, t5]; done) | (simp (disch := first | omega | (simp only [add_nx, upd_nx] <;> omega) | decide) only [rUz, ↓reduceIte, Nat.reduceEqDiff, Nat.reduceAdd, t5]; rfl))
  clear t5 t1
  clear t
  intro k t h ⟨hh, t5, t7, t8, t9, t11, hk⟩ K' hn he
  subst hh
  repeat refine S.seq ?_
  refine S.region ?_
  simp (disch := first | omega | (simp only [add_nx, upd_nx] <;> omega) | decide) only [rUz, ↓reduceIte, Nat.reduceEqDiff, Nat.reduceAdd, t9, t11, lp, hpl]
  repeat refine S.seq ?_
  refine S.cond (v := decide ((k : Int) < (l.length : Int))) (by first | rfl | (simp (disch := first | omega | (simp only [add_nx, upd_nx] <;> omega) | decide) only [rUz, ↓reduceIte, Nat.reduceEqDiff, Nat.reduceAdd] <;> rfl)) (fun e => ?_) (fun e => ?_)
  · have hkn : k < l.length := by have := of_decide_eq_true e; omega
    have hkP : k < P.length := by omega
    obtain ⟨b1, f1, w1, q1, q2, q3, q4⟩ := hp.idx slI s3' hkP
    obtain ⟨b2, f2, w2, r1, r2, r3, r4⟩ := hv2.idx slI s3' hkn
    have a1 := ok.nn k hkn
    have a2 := ok.le k hkn
    have a3 := ok.up k hkn
    have a4 := ok.dn k hkn
    have a5 := hab l[k] (List.getElem_mem hkn)
    rw [getD_lt hkP] at a1 a2 a3 a4
    rw [getD_lt hkn] at a2 a3 a4
    have m1 : 0 ≤ P[k] * sumL l ∧ P[k] * sumL l ≤ 100000 * sumL l := ⟨Int.mul_nonneg a1 hT0, Int.mul_le_mul_of_nonneg_right (by omega) hT0⟩
    have m2 : 0 ≤ l[k] * sum ∧ l[k] * sum ≤ 100000 * sum := ⟨Int.mul_nonneg a5.1 hsb.1, Int.mul_le_mul_of_nonneg_right a5.2 hsb.1⟩
    generalize P[k] = x at q4 a1 a2 a3 a4 m1
    generalize l[k] = y at r4 a2 a3 a4 a5 m2
    generalize hX : x * sumL l = X at a3 a4 m1
    generalize hY : y * sum = Y at a3 a4 m2
    have d1 : decide (x < 0) = false := decide_eq_false (by omega)
    have d2 : decide (y < x) = false := decide_eq_false (by omega)
    have d3 : decide (sumL l ≤ X - Y) = false := decide_eq_false (by omega)
    have d4 : decide (sumL l ≤ Y - X) = false := decide_eq_false (by omega)
    have m3 : X ≤ 40000000000 := by omega
    have m4 : Y ≤ 40000000000 := by omega
    repeat refine S.seq ?_
    refine S.skip ?_
    simp (disch := first | omega | (simp only [add_nx, upd_nx] <;> omega) | decide) only [rUz, ↓reduceIte, Nat.reduceEqDiff, Nat.reduceAdd]
    repeat refine S.seq ?_
    refine S.block ?_
    repeat refine S.seq ?_
    refine S.drawnL [(false, 0), (false, 0), (false, 3), (false, 7), (false, 15), (false, 31), (false, 63), (false, 63), (false, 255), (false, 511), (false, 63), (false, 63), (false, 3135), (false, 7231), (false, 16383), (false, 32767), (false, 65535), (false, 131071), (false, 131071), (false, 524287), (false, 1048575), (false, 131071), (false, 4194303), (false, 131071), (false, 131071), (false, 25296895), (false, 58851327), (false, 131071), (false, 260177919), (false, 536870911), (false, 131071), (false, 2147483647), (false, 4294967295), (false, 8589934591), (false, 17179869183), (false, 17179869183), (false, 68719476735), (false, 137438953471), (false, 17179869183), (false, 549755813887), (false, 17179869183), (false, 17179869183), (false, 3315714752511), (false, 7713761263615), (false, 17179869183), (false, 34102040330239), (false, 70368744177663), (false, 17179869183), (false, 281474976710655), (false, 562949953421311)] (by kernel_rfl) (by kernel_rfl) (by kernel_rfl) ?_
    simp (disch := first | omega | (simp only [add_nx, upd_nx] <;> omega) | decide) only [rUz, ↓reduceIte, Nat.reduceEqDiff, Nat.reduceAdd, rDz, infoL, Nat.reduceSub, t5, t7, t8, t9, t11, q1, q3, r1, r3, p3, q4, r4, hX, hY, d1, d2, d3, d4]
    repeat refine S.seq ?_
    refine S.cond (v := false) (by first | rfl | (simp (disch := first | omega | (simp only [add_nx, upd_nx] <;> omega) | decide) only [rUz, ↓reduceIte, Nat.reduceEqDiff, Nat.reduceAdd] <;> rfl)) (fun e => by cases e) (fun _ => ?_)
    repeat refine S.seq ?_
    refine S.skip ?_
    simp (disch := first | omega | (simp only [add_nx, upd_nx] <;> omega) | decide) only [rUz, ↓reduceIte, Nat.reduceEqDiff, Nat.reduceAdd]
    clear q1 q3 r1 r3 q4 r4 d1 d2 d3 d4
    clear hX hY m1 m2 m3 m4 a1 a2 a3 a4 a5
    repeat refine S.seq ?_
    refine S.region ?_
    simp (disch := first | omega | (simp only [add_nx, upd_nx] <;> omega) | decide) only [rUz, ↓reduceIte, Nat.reduceEqDiff, Nat.reduceAdd]
    repeat refine S.seq ?_
    refine S.block ?_
    refine S.loop (ι := Nat) (IDc v p (sumL l) sum l.length k h) (fun j => l.length - j) ?_ 0 _ _ ?_
    rotate_left
    · refine ⟨rfl, ?_, ?_, ?_, ?_, ?_, ?_, Nat.zero_le _⟩
      all_goals (first | rfl | (simp (disch := first | omega | (simp only [add_nx, upd_nx] <;> omega) | decide) only [rUz, ↓reduceIte, Nat.reduceEqDiff, Nat.reduceAdd, t5, t7, t8, t9, t11]; done) | (simp (disch := first | omega | (simp only [add_nx, upd_nx] <;> omega) | decide) only [rUz, ↓reduceIte, Nat.reduceEqDiff, Nat.reduceAdd, t5, t7, t8, t9, t11]; rfl))
    clear t5 t7 t8 t9 t11 e
    clear t
    intro j t h' ⟨hh, t5, t7, t8, t9, t11, t12, hj⟩ K2 hn2 he2
    subst hh
    repeat refine S.seq ?_
    refine S.region ?_
    simp (disch := first | omega | (simp only [add_nx, upd_nx] <;> omega) | decide) only [rUz, ↓reduceIte, Nat.reduceEqDiff, Nat.reduceAdd, t9, t12, lp, hpl]
    repeat refine S.seq ?_
    refine S.cond (v := decide ((j : Int) < (l.length : Int))) (by first | rfl | (simp (disch := first | omega | (simp only [add_nx, upd_nx] <;> omega) | decide) only [rUz, ↓reduceIte, Nat.reduceEqDiff, Nat.reduceAdd] <;> rfl)) (fun e => ?_) (fun e => ?_)
    · have hjn : j < l.length := by have := of_decide_eq_true e; omega
      have hjP : j < P.length := by omega
      obtain ⟨b1, f1, w1, q1, q2, q3, q4⟩ := hp.idx slI s3' hkP
      obtain ⟨b2, f2, w2, r1, r2, r3, r4⟩ := hv2.idx slI s3' hkn
      obtain ⟨b3, f3, w3, u1, u2, u3, u4⟩ := hp.idx slI s3' hjP
      obtain ⟨b4, f4, w4, v1, v2, v3, v4⟩ := hv2.idx slI s3' hjn
      have mo := ok.mono k j hkn hjn
      rw [getD_lt hjn, getD_lt hkn, getD_lt hjP, getD_lt hkP] at mo
      generalize P[k] = pk at q4 mo
      generalize l[k] = lk at r4 mo
      generalize P[j] = pj at u4 mo
      generalize l[j] = lj at v4 mo
      repeat refine S.seq ?_
      refine S.skip ?_
      simp (disch := first | omega | (simp only [add_nx, upd_nx] <;> omega) | decide) only [rUz, ↓reduceIte, Nat.reduceEqDiff, Nat.reduceAdd]
      repeat refine S.seq ?_
      refine S.block ?_
      repeat refine S.seq ?_
      refine S.drawnL [(false, 0), (false, 0), (false, 3), (false, 7), (false, 0), (false, 0), (false, 48), (false, 112), (false, 255), (false, 511), (false, 1023), (false, 1023), (false, 4095), (false, 8191), (false, 1023), (false, 1023), (false, 50175), (false, 115711), (false, 262143), (false, 524287)] (by kernel_rfl) (by kernel_rfl) (by kernel_rfl) ?_
      generalize hJJ : (fun (t : T Value) (h : AHeap) => _) = KJ
      suffices hJ : ∀ t, tget t 5 = v → tget t 7 = iv (sumL l) → tget t 8 = iv sum → tget t 9 = p → tget t 11 = iv (k : Int) → tget t 12 = iv (j : Int) → tget t 149 = .bool false → KJ t h' = true by
        clear hJJ hn2 he2
        cases c1 : decide (lj < lk) with
        | false =>
          simp (disch := first | omega | (simp only [add_nx, upd_nx] <;> omega) | decide) only [rUz, ↓reduceIte, Nat.reduceEqDiff, Nat.reduceAdd, rDz, infoL, Nat.reduceSub, t5, t9, t11, t12, q1, q3, r1, r3, u1, u3, v1, v3, p3, q4, r4, u4, v4, c1]
          refine hJ _ ?_ ?_ ?_ ?_ ?_ ?_ ?_
          all_goals (first | rfl | (simp (disch := first | omega | (simp only [add_nx, upd_nx] <;> omega) | decide) only [rUz, ↓reduceIte, Nat.reduceEqDiff, Nat.reduceAdd, t5, t7, t8, t9, t11, t12]; done) | (simp (disch := first | omega | (simp only [add_nx, upd_nx] <;> omega) | decide) only [rUz, ↓reduceIte, Nat.reduceEqDiff, Nat.reduceAdd, t5, t7, t8, t9, t11, t12]; rfl))
        | true =>
          have c2 : decide (pk < pj) = false := decide_eq_false (by have := mo (of_decide_eq_true c1); omega)
          simp (disch := first | omega | (simp only [add_nx, upd_nx] <;> omega) | decide) only [rUz, ↓reduceIte, Nat.reduceEqDiff, Nat.reduceAdd, rDz, infoL, Nat.reduceSub, t5, t9, t11, t12, q1, q3, r1, r3, u1, u3, v1, v3, p3, q4, r4, u4, v4, c1, c2]
          refine hJ _ ?_ ?_ ?_ ?_ ?_ ?_ ?_
          all_goals (first | rfl | (simp (disch := first | omega | (simp only [add_nx, upd_nx] <;> omega) | decide) only [rUz, ↓reduceIte, Nat.reduceEqDiff, Nat.reduceAdd, t5, t7, t8, t9, t11, t12]; done) | (simp (disch := first | omega | (simp only [add_nx, upd_nx] <;> omega) | decide) only [rUz, ↓reduceIte, Nat.reduceEqDiff, Nat.reduceAdd, t5, t7, t8, t9, t11, t12]; rfl))
      clear t5 t7 t8 t9 t11 t12 q1 q3 r1 r3 u1 u3 v1 v3 q4 r4 u4 v4
      clear t
      intro t t5 t7 t8 t9 t11 t12 t149
      subst hJJ
      simp only [seqK_normal]
      repeat refine S.seq ?_
      refine S.cond (v := false) (by first | rfl | (simp (disch := first | omega | (simp only [add_nx, upd_nx] <;> omega) | decide) only [rUz, ↓reduceIte, Nat.reduceEqDiff, Nat.reduceAdd, t149] <;> rfl)) (fun e => by cases e) (fun _ => ?_)
      repeat refine S.seq ?_
      refine S.skip ?_
      simp (disch := first | omega | (simp only [add_nx, upd_nx] <;> omega) | decide) only [rUz, ↓reduceIte, Nat.reduceEqDiff, Nat.reduceAdd]
      repeat refine S.seq ?_
      refine S.region ?_
      simp (disch := first | omega | (simp only [add_nx, upd_nx] <;> omega) | decide) only [rUz, ↓reduceIte, Nat.reduceEqDiff, Nat.reduceAdd, t12]
      refine hn2 (j + 1) _ _ (by omega) ⟨rfl, ?_, ?_, ?_, ?_, ?_, ?_, by omega⟩
      all_goals (first | rfl | (simp (disch := first | omega | (simp only [add_nx, upd_nx] <;> omega) | decide) only [rUz, ↓reduceIte, Nat.reduceEqDiff, Nat.reduceAdd, t5, t7, t8, t9, t11]; done) | (simp (disch := first | omega | (simp only [add_nx, upd_nx] <;> omega) | decide) only [rUz, ↓reduceIte, Nat.reduceEqDiff, Nat.reduceAdd, t5, t7, t8, t9, t11]; rfl))
    refine S.exit (he2 _ _ _ _ (fun e => by cases e) ?_)
    simp (disch := first | omega | (simp only [add_nx, upd_nx] <;> omega) | decide) only [rUz, ↓reduceIte, Nat.reduceEqDiff, Nat.reduceAdd]
    repeat refine S.seq ?_
    refine S.region ?_
    simp (disch := first | omega | (simp only [add_nx, upd_nx] <;> omega) | decide) only [rUz, ↓reduceIte, Nat.reduceEqDiff, Nat.reduceAdd, t11]
    refine hn (k + 1) _ _ (by omega) ⟨rfl, ?_, ?_, ?_, ?_, ?_, by omega⟩
    all_goals (first | rfl | (simp (disch := first | omega | (simp only [add_nx, upd_nx] <;> omega) | decide) only [rUz, ↓reduceIte, Nat.reduceEqDiff, Nat.reduceAdd, t5, t7, t8, t9]; done) | (simp (disch := first | omega | (simp only [add_nx, upd_nx] <;> omega) | decide) only [rUz, ↓reduceIte, Nat.reduceEqDiff, Nat.reduceAdd, t5, t7, t8, t9]; rfl))
  refine S.exit (he _ _ _ _ (fun e => by cases e) ?_)
  simp (disch := first | omega | (simp only [add_nx, upd_nx] <;> omega) | decide) only [rUz, ↓reduceIte, Nat.reduceEqDiff, Nat.reduceAdd]
  repeat refine S.seq ?_
  refine S.region ?_
  simp (disch := first | omega | (simp only [add_nx, upd_nx] <;> omega) | decide) only [rUz, ↓reduceIte, Nat.reduceEqDiff, Nat.reduceAdd]
  refine awake ?_
  simp (disch := first | omega | (simp only [add_nx, upd_nx] <;> omega) | decide) only [rUz, ↓reduceIte, Nat.reduceEqDiff, Nat.reduceAdd]
  refine S.ret ?_
  try simp only [seqK_ret, blockK_ret]
  subst hF
  simp only [finish, endMarks]
  rw [show Try.f4.results.toList = [.tmp 4] from rfl]
  simp (disch := first | omega | (simp only [add_nx, upd_nx] <;> omega) | decide) only [resA, ev_tmp, tget_ne, tget_eq, get_ne, get_eq, upd_eq, upd_ne, ag_eq, ag_ne, result1]
  exact hKr _ hkp2
end Go.Proofs.Mg
