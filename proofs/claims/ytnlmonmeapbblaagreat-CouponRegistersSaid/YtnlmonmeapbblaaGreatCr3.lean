import Derived.Test.YtnlmonmeapbblaaGreatCr2
import Derived.Test.YtnlmonmeapbblaaGreatCn8
/- CouponRegisters: the day of registration, and whether a truth is one, are as the document says. -/
namespace Go.Proofs.Cp
open Go Go.Ev Go.RowKit
set_option linter.unusedSimpArgs false

theorem rBin_bool {P : Program} {t : T Value} {o : Oper} {op : BinOp} {a : TypeId} {p q : Bool} : rBin P t o op a (.bool q) (.bool p) = rBin2 P t o op (nilEqT P a (.bool p) (.bool q)) := rfl
theorem bin_congr {P : Program} {t t' : T Value} {op : BinOp} {j k : Nat} {u v r : Value} {a c : TypeId} {dst : Option Tmp} {ty : TypeId} {pos : String} {af : Array Edge} {g : Option (Nat × Bool)} (h2 : tget t j = u) (h3 : tget t k = v) (h4 : tget t' j = u) (h5 : tget t' k = v)
    (hr : ground P t' ⟨dst, .binOp op a (.tmp j) (.tmp k) c, ty, pos, af, g⟩ = some r) : ground P t ⟨dst, .binOp op a (.tmp j) (.tmp k) c, ty, pos, af, g⟩ = some r := by
  rw [← hr]
  refine ground_congr (fun cs b e => by cases e) fun x hx => ?_
  simp only [Op.operands] at hx
  have : x = .tmp j ∨ x = .tmp k := by simpa using hx
  rcases this with rfl | rfl
  · simp only [ev, h2, h4]
  · simp only [ev, h3, h5]
theorem neq42 {t : T Value} {ty : TypeId} {pos : String} {af : Array Edge} {g : Option (Nat × Bool)} {dst : Option Tmp} {p q : Bool} (h1 : tget t 37 = .bool p) (h2 : tget t 41 = .bool q) : rBin Tryz.prog t ⟨dst, .binOp .neq 4 (.tmp 37) (.tmp 41) 4, ty, pos, af, g⟩ .neq 4 (.bool q) (.bool p) = some (.bool (!(p == q))) := by
  rw [rBin_bool]
  have hn : nilEqT Tryz.prog 4 (.bool p) (.bool q) = none := by cases p <;> cases q <;> kernel_rfl
  rw [hn]
  refine bin_congr (t' := T.set 42 (T.set 38 .leaf 37 (.bool p)) 41 (.bool q)) h1 h2 ?_ ?_ ?_
  · cases p <;> cases q <;> kernel_rfl
  · cases p <;> cases q <;> kernel_rfl
  · cases p <;> cases q <;> kernel_rfl
theorem thin_nil {c : Co} {a b : List Int} (h : thinB c a b = true) : thinB c [] [] = true ∧ a.length ≤ 7 ∧ b.length ≤ 7 := by
  unfold thinB at h ⊢
  simp only [Bool.and_eq_true, decide_eq_true_eq] at h ⊢
  obtain ⟨h1, h2, h3, h4, h5, h6, h7⟩ := h
  exact ⟨⟨h1, h2, h3, h4, h5, by decide, by decide⟩, by omega, by omega⟩
theorem prU2 (x y : Value) : partL Tryz.prog 30 [x, y] 0 = some (.agg ⟨[x, y]⟩) := part_0 (l := [x, y]) prU rfl

variable {pr : Prim} {R : ExT}
set_option maxHeartbeats 64000000 in
theorem registers_law (S : Ev.Steps Tryz.prog pr R) (hT : Tab pr) (h0 : AHeap) (v : Vs) (c : Co) (hc : CoAt h0 v c) (hh : SlAt h0 1 v.a (c.held.map fun n => [iv n])) (ua ub : Value) (a b : List Int) (hsa : SlAt h0 1 ua (a.map fun n => [iv n])) (hsb : SlAt h0 1 ub (b.map fun n => [iv n])) (d : Int) (_hw : (Lit.int .i64 d).wf = true) :
    Brings Tryz.prog R 3 [.agg ⟨coV c.hs v⟩, .agg ⟨[ua, ub]⟩, iv d] h0 fun u _ => u = .bool true := by
  have hoff := hT.off
  refine brings_of (fn := Tryz.f3) (c := (Tryz.f3.body).getD .skip) (by kernel_rfl) rfl (by kernel_rfl) rfl (fun K hK => ?_)
  generalize hF : finish Tryz.prog Tryz.f3 K = KF
  simp only [Tryz.f3, Option.getD_some, argsT, setArgs, fV1_eq, T.setK_eq, id]
  have hKr : ∀ g, Kp h0 g → K (.bool true) g = true := fun g hk => hK _ _ hk rfl
  clear hK
  have awake : ∀ {ops : Array Oper} {n : Nat} {rest : List Oper} {t : T Value} {h : AHeap} {KR : T Value → AHeap → Bool} {dst : Option Tmp}, putR Tryz.prog (withPrim pr (callVal Tryz.prog R)) ops n rest dst t (.bool true) h KR = true →
      wrR Tryz.prog (withPrim pr (callVal Tryz.prog R)) ops n rest (.call ⟨.value (.func 9), #[], #[]⟩) dst t h KR = true := fun k => wr_prim (fid := 9) (first := #[]) (captured := #[]) (v := .bool true) rfl (hT.awake _) k
  have hua : IAt h0 ua a := SlAt.ints hsa
  have hub : IAt h0 ub b := SlAt.ints hsb
  repeat refine S.seq ?_
  refine S.region ?_
  simp (disch := first | omega | decide) only [rUz, ↓reduceIte, Nat.reduceEqDiff, Nat.reduceAdd]
  obtain ⟨B3, hB3⟩ : ∃ x, x = h0.nx := ⟨_, rfl⟩
  obtain ⟨B4, hB4⟩ : ∃ x, x = h0.nx + 1 := ⟨_, rfl⟩
  have hb3 : ((h0.add (coV c.hs v)).add [ua, ub]).bl.get B3 = some (.cells (coV c.hs v) B3 false) := by simp (disch := first | omega | (simp only [nZ] <;> omega) | decide) only [ag_ne]; subst hB3; exact ag_eq rfl
  have hb4 : ((h0.add (coV c.hs v)).add [ua, ub]).bl.get B4 = some (.cells [ua, ub] B4 false) := by subst hB4; exact ag_eq rfl
  have hn4 : B4 < ((h0.add (coV c.hs v)).add [ua, ub]).nx := by show B4 < h0.nx + 2; omega
  have hk1 : Kp h0 ((h0.add (coV c.hs v)).add [ua, ub]) := Kp.refl.add.add
  have hve := veq_co hc c.hs
  have hvu : veq (.agg ⟨[ua, ub]⟩) (.agg ⟨[ua, ub]⟩) = true := by simp only [veq, veqA, veqL, hua.veq, hub.veq, Bool.and_self]
  have h34 : B3 < B4 := by omega
  rw [← hB4, ← hB3]
  clear hB3 hB4
  generalize (h0.add (coV c.hs v)).add [ua, ub] = H at hb3 hb4 hn4 hk1 ⊢
  have hn3 : B3 < H.nx := by omega
  repeat refine S.seq ?_
  refine S.region ?_
  simp (disch := first | omega | decide) only [rUz, ↓reduceIte, Nat.reduceEqDiff, Nat.reduceAdd, hb3, hb4, part_0 pA (coV_len c.hs v), prU2]
  refine wr_brings (fid := 8) (first := #[]) (captured := #[]) (Post := fun u _ => u = .bool (thinB c a b)) rfl (hoff _ _ _ rfl) (by simp (disch := first | omega | decide) only [rUz, ↓reduceIte, Nat.reduceEqDiff, Nat.reduceAdd]; exact thin_y S _ v c (hc.mono hk1) ua ub a b (hua.mono hk1) (hub.mono hk1)) ?_
  rintro u g hk rfl
  simp (disch := first | omega | decide) only [rUz, ↓reduceIte, Nat.reduceEqDiff, Nat.reduceAdd, un_not]
  cases hth : thinB c a b with
  | false =>
    repeat refine S.seq ?_
    refine S.cond (v := true) (by first | rfl | (simp (disch := first | omega | decide) only [rUz, ↓reduceIte, Nat.reduceEqDiff, Nat.reduceAdd, hth, Bool.not_false] <;> rfl)) (fun _ => ?_) (fun e => by cases e)
    repeat refine S.seq ?_
    refine S.region ?_
    simp (disch := first | omega | decide) only [rUz, ↓reduceIte, Nat.reduceEqDiff, Nat.reduceAdd]
    refine awake ?_
    simp (disch := first | omega | decide) only [rUz, ↓reduceIte, Nat.reduceEqDiff, Nat.reduceAdd]
    refine S.ret ?_
    try simp only [seqK_ret, blockK_ret]
    subst hF
    simp only [finish, endMarks]
    rw [show Tryz.f3.results.toList = [.tmp 6] from rfl]
    simp (disch := first | omega | decide) only [resA, ev_tmp, tget_ne, tget_eq, get_ne, get_eq, upd_eq, upd_ne, ag_eq, ag_ne, result1]
    exact hKr _ (hk1.trans hk)
  | true =>
  repeat refine S.seq ?_
  refine S.cond (v := false) (by first | rfl | (simp (disch := first | omega | decide) only [rUz, ↓reduceIte, Nat.reduceEqDiff, Nat.reduceAdd, hth, Bool.not_true] <;> rfl)) (fun e => by cases e) (fun _ => ?_)
  repeat refine S.seq ?_
  refine S.skip ?_
  simp (disch := first | omega | decide) only [rUz, ↓reduceIte, Nat.reduceEqDiff, Nat.reduceAdd]
  obtain ⟨ht0, hla, hlb⟩ := thin_nil hth
  -- the day of registration
  have hb3g := (hk.get hn3).trans hb3
  have hkA := hk1.trans hk
  repeat refine S.seq ?_
  refine S.region ?_
  simp (disch := first | omega | decide) only [rUz, ↓reduceIte, Nat.reduceEqDiff, Nat.reduceAdd, hb3g, part_0 pA (coV_len c.hs v)]
  refine wr_brings (fid := 11) (first := #[]) (captured := #[]) (Post := fun u h => ∃ v', u = .agg ⟨coV c.hs v'⟩ ∧ CoAt h v' c) rfl (hoff _ _ _ rfl) (by simp (disch := first | omega | decide) only [rUz, ↓reduceIte, Nat.reduceEqDiff, Nat.reduceAdd]; exact company_y S hoff _ v c (hc.mono hkA) (SlAt.mono hh hkA) ht0) ?_
  rintro u g2 hk2 ⟨v2, rfl, hc2⟩
  simp (disch := first | omega | decide) only [rUz, ↓reduceIte, Nat.reduceEqDiff, Nat.reduceAdd]
  refine wr_brings (fid := 10) (first := #[]) (captured := #[]) (Post := fun u _ => u = .tuple ⟨[iv (registeredP c d).1, iv (registeredP c d).2]⟩) rfl (hoff _ _ _ rfl) (by simp (disch := first | omega | decide) only [rUz, ↓reduceIte, Nat.reduceEqDiff, Nat.reduceAdd]; exact Registered_y S hoff _ v2 c hc2 ht0 d) ?_
  rintro u g3 hk3 rfl
  simp (disch := first | omega | decide) only [rUz, ↓reduceIte, Nat.reduceEqDiff, Nat.reduceAdd, tup0, tup1]
  have hkB := hk.trans (hk2.trans hk3)
  have hb3B := (hkB.get hn3).trans hb3
  have hb4B := (hkB.get hn4).trans hb4
  have hcB := hc.mono (hk1.trans hkB)
  have hhB := SlAt.mono hh (hk1.trans hkB)
  have hsaB := SlAt.mono hsa (hk1.trans hkB)
  have hsbB := SlAt.mono hsb (hk1.trans hkB)
  -- whether the truth is one
  repeat refine S.seq ?_
  refine S.drawnL [(false, 0), (true, 1), (false, 0), (true, 7), (true, 15), (false, 31)] (by kernel_rfl) (by kernel_rfl) (by kernel_rfl) ?_
  simp (disch := first | omega | decide) only [rUz, ↓reduceIte, Nat.reduceEqDiff, Nat.reduceAdd, rDz, infoL, Nat.reduceSub, hb3B, hb4B, part_0 pA (coV_len c.hs v), prU2]
  refine draw_pick' rfl ?_
  simp (disch := first | omega | decide) only [rUz, ↓reduceIte, Nat.reduceEqDiff, Nat.reduceAdd, rDz, infoL, Nat.reduceSub, hb4B, prU2]
  refine drW_brings (fid := 11) (first := #[]) (captured := #[]) (Post := fun u h => ∃ v', u = .agg ⟨coV c.hs v'⟩ ∧ CoAt h v' c) rfl (hoff _ _ _ rfl) (by simp (disch := first | omega | decide) only [rUz, ↓reduceIte, Nat.reduceEqDiff, Nat.reduceAdd]; exact company_y S hoff _ v c hcB hhB ht0) (Nat.le_of_ble_eq_true rfl) ?_
  rintro u g4 hk4 ⟨v3, rfl, hc3⟩
  have hkC := hkB.trans hk4
  have hb4C := (hkC.get hn4).trans hb4
  refine ⟨?_, ?_⟩
  · try simp (disch := first | decide | rfl) only [again_nil, again_skip, again_free]
    rw [again_same (v := .agg ⟨[ua, ub]⟩) (by simp (disch := first | omega | decide) only [rUz, ↓reduceIte, Nat.reduceEqDiff, Nat.reduceAdd, rDz, infoL, Nat.reduceSub, hb4C, prU2]) hvu]
    try simp (disch := first | decide | rfl) only [again_nil, again_skip, again_free]
  simp (disch := first | omega | decide) only [rUz, ↓reduceIte, Nat.reduceEqDiff, Nat.reduceAdd, rDz, infoL, Nat.reduceSub]
  refine drW_brings (fid := 13) (first := #[]) (captured := #[]) (Post := fun u h => ∃ ua' ub', u = .agg ⟨[ua', ub']⟩ ∧ IAt h ua' a ∧ IAt h ub' b) rfl (hoff _ _ _ rfl) (by simp (disch := first | omega | decide) only [rUz, ↓reduceIte, Nat.reduceEqDiff, Nat.reduceAdd]; exact truth_y S hoff _ ua ub a b (SlAt.mono hsaB hk4) (SlAt.mono hsbB hk4) (by omega) (by omega)) (Nat.le_of_ble_eq_true rfl) ?_
  rintro u g5 hk5 ⟨wa, wb, rfl, hwa, hwb⟩
  refine ⟨?_, ?_⟩
  · try simp (disch := first | decide | rfl) only [again_nil, again_skip, again_free]
  simp (disch := first | omega | decide) only [rUz, ↓reduceIte, Nat.reduceEqDiff, Nat.reduceAdd, rDz, infoL, Nat.reduceSub]
  have yP := prove_y S hoff g5 v3 c (hc3.mono hk5) ht0 wa wb a b hwa hwb (by omega)
  rw [follow_eq] at yP
  refine drW_brings (fid := 12) (first := #[]) (captured := #[]) (Post := fun u _ => u = .bool (decide (askedZ c a b = 0))) rfl (hoff _ _ _ rfl) (by simp (disch := first | omega | decide) only [rUz, ↓reduceIte, Nat.reduceEqDiff, Nat.reduceAdd]; exact yP) (Nat.le_of_ble_eq_true rfl) ?_
  rintro u g6 hk6 rfl
  refine ⟨?_, ?_⟩
  · try simp (disch := first | decide | rfl) only [again_nil, again_skip, again_free]
  simp (disch := first | omega | decide) only [rUz, ↓reduceIte, Nat.reduceEqDiff, Nat.reduceAdd, rDz, infoL, Nat.reduceSub]
  have hkD := hkC.trans (hk5.trans hk6)
  have hb3D := (hkD.get hn3).trans hb3
  clear yP hb3B hb4B hb4C hb3g hcB hhB hsaB hsbB hc2
  -- the errors
  repeat refine S.seq ?_
  refine S.region ?_
  simp (disch := first | omega | decide) only [rUz, ↓reduceIte, Nat.reduceEqDiff, Nat.reduceAdd, hb3D, part_0 pA (coV_len c.hs v)]
  refine wr_brings (fid := 14) (first := #[]) (captured := #[]) (Post := fun u _ => u = iv (faultZ c)) rfl (hoff _ _ _ rfl) (by simp (disch := first | omega | decide) only [rUz, ↓reduceIte, Nat.reduceEqDiff, Nat.reduceAdd]; exact faultw_y S hoff _ v c (hc.mono (hk1.trans hkD)) ht0) ?_
  rintro u g7 hk7 rfl
  have hkE := hkD.trans hk7
  have hb3E := (hkE.get hn3).trans hb3
  have hkE1 := hk1.trans hkE
  simp (disch := first | omega | decide) only [rUz, ↓reduceIte, Nat.reduceEqDiff, Nat.reduceAdd]
  repeat refine S.seq ?_
  refine S.region ?_
  generalize hJJ : (fun (t : T Value) (h : AHeap) => _) = KJ
  suffices hJ : ∀ t h, Kp g7 h → tget t 2 = iv d → tget t 3 = ptr0 B3 → tget t 7 = iv (registeredP c d).1 → tget t 8 = iv (registeredP c d).2 → tget t 10 = iv (faultZ c) → tget t 11 = iv 0 → tget t 43 = .bool false → KJ t h = true by
    clear hJJ hKr
    simp (disch := first | omega | decide) only [rUz, ↓reduceIte, Nat.reduceEqDiff, Nat.reduceAdd, hb3E, part_0 pA (coV_len c.hs v)]
    refine wr_brings (fid := 11) (first := #[]) (captured := #[]) (Post := fun u h => ∃ v', u = .agg ⟨coV c.hs v'⟩ ∧ CoAt h v' c) rfl (hoff _ _ _ rfl) (by simp (disch := first | omega | decide) only [rUz, ↓reduceIte, Nat.reduceEqDiff, Nat.reduceAdd]; exact company_y S hoff _ v c (hc.mono hkE1) (SlAt.mono hh hkE1) ht0) ?_
    rintro u g8 hk8 ⟨v4, rfl, hc4⟩
    simp (disch := first | omega | decide) only [rUz, ↓reduceIte, Nat.reduceEqDiff, Nat.reduceAdd]
    refine wr_brings (fid := 15) (first := #[]) (captured := #[]) (Post := fun u _ => u = iv (faultZ c)) rfl (hoff _ _ _ rfl) (by simp (disch := first | omega | decide) only [rUz, ↓reduceIte, Nat.reduceEqDiff, Nat.reduceAdd]; exact check_y S hoff _ v4 c hc4 ht0) ?_
    rintro u g9 hk9 rfl
    have hk89 := hk8.trans hk9
    have hkF := hkE.trans hk89
    have hb3F := (hkF.get hn3).trans hb3
    have hb4F := (hkF.get hn4).trans hb4
    have hkF1 := hk1.trans hkF
    simp (disch := first | omega | decide) only [rUz, ↓reduceIte, Nat.reduceEqDiff, Nat.reduceAdd, decide_true, Bool.not_true, hb3F, hb4F, part_0 pA (coV_len c.hs v), prU2]
    refine wr_brings (fid := 16) (first := #[]) (captured := #[]) (Post := fun u _ => u = iv (askedZ c a b)) rfl (hoff _ _ _ rfl) (by simp (disch := first | omega | decide) only [rUz, ↓reduceIte, Nat.reduceEqDiff, Nat.reduceAdd]; exact asked_y S hoff _ v c (hc.mono hkF1) ht0 ua ub a b (hua.mono hkF1) (hub.mono hkF1)) ?_
    rintro u g10 hk10 rfl
    cases hp : decide (askedZ c a b = 0) with
    | false =>
      simp (disch := first | omega | decide) only [rUz, ↓reduceIte, Nat.reduceEqDiff, Nat.reduceAdd, hp]
      rw [neq42 (p := false) (q := false) (by simp (disch := first | omega | decide) only [rUz, ↓reduceIte, Nat.reduceEqDiff, Nat.reduceAdd, hp]) (by simp (disch := first | omega | decide) only [rUz, ↓reduceIte, Nat.reduceEqDiff, Nat.reduceAdd])]
      simp (disch := first | omega | decide) only [rUz, ↓reduceIte, Nat.reduceEqDiff, Nat.reduceAdd]
      refine hJ _ _ (hk89.trans hk10) ?_ ?_ ?_ ?_ ?_ ?_ ?_
      all_goals (first | rfl | (simp (disch := first | omega | decide) only [rUz, ↓reduceIte, Nat.reduceEqDiff, Nat.reduceAdd]; done) | (simp (disch := first | omega | decide) only [rUz, ↓reduceIte, Nat.reduceEqDiff, Nat.reduceAdd]; rfl))
    | true =>
      simp (disch := first | omega | decide) only [rUz, ↓reduceIte, Nat.reduceEqDiff, Nat.reduceAdd, hp]
      rw [neq42 (p := true) (q := true) (by simp (disch := first | omega | decide) only [rUz, ↓reduceIte, Nat.reduceEqDiff, Nat.reduceAdd, hp]) (by simp (disch := first | omega | decide) only [rUz, ↓reduceIte, Nat.reduceEqDiff, Nat.reduceAdd])]
      simp (disch := first | omega | decide) only [rUz, ↓reduceIte, Nat.reduceEqDiff, Nat.reduceAdd]
      refine hJ _ _ (hk89.trans hk10) ?_ ?_ ?_ ?_ ?_ ?_ ?_
      all_goals (first | rfl | (simp (disch := first | omega | decide) only [rUz, ↓reduceIte, Nat.reduceEqDiff, Nat.reduceAdd]; done) | (simp (disch := first | omega | decide) only [rUz, ↓reduceIte, Nat.reduceEqDiff, Nat.reduceAdd]; rfl))
  intro t g10 hk10 t2 t3 t7 t8 t10 t11 t43
  subst hJJ
  simp only [seqK_normal]
  have hkG := hkE.trans hk10
  have hb3G := (hkG.get hn3).trans hb3
  have hkG1 := hk1.trans hkG
  repeat refine S.seq ?_
  refine S.cond (v := false) (by first | rfl | (simp (disch := first | omega | decide) only [rUz, ↓reduceIte, Nat.reduceEqDiff, Nat.reduceAdd, t43] <;> rfl)) (fun e => by cases e) (fun _ => ?_)
  repeat refine S.seq ?_
  refine S.skip ?_
  simp (disch := first | omega | decide) only [rUz, ↓reduceIte, Nat.reduceEqDiff, Nat.reduceAdd]
  clear t43
  by_cases hz : faultZ c = 0
  rotate_left
  · have er : registeredP c d = (0, faultZ c) := by unfold registeredP; rw [if_neg hz]
    rw [er] at t7 t8
    repeat refine S.seq ?_
    refine S.region ?_
    simp (disch := first | omega | decide) only [rUz, ↓reduceIte, Nat.reduceEqDiff, Nat.reduceAdd, t10, decide_eq_false hz]
    repeat refine S.seq ?_
    refine S.cond (v := false) (by first | rfl | (simp (disch := first | omega | decide) only [rUz, ↓reduceIte, Nat.reduceEqDiff, Nat.reduceAdd] <;> rfl)) (fun e => by cases e) (fun _ => ?_)
    repeat refine S.seq ?_
    refine S.skip ?_
    simp (disch := first | omega | decide) only [rUz, ↓reduceIte, Nat.reduceEqDiff, Nat.reduceAdd]
    repeat refine S.seq ?_
    refine S.region ?_
    simp (disch := first | omega | decide) only [rUz, ↓reduceIte, Nat.reduceEqDiff, Nat.reduceAdd, t7, t8, t10, t11, decide_true]
    refine awake ?_
    simp (disch := first | omega | decide) only [rUz, ↓reduceIte, Nat.reduceEqDiff, Nat.reduceAdd]
    refine S.ret ?_
    try simp only [seqK_ret, blockK_ret]
    subst hF
    simp only [finish, endMarks]
    rw [show Tryz.f3.results.toList = [.tmp 6] from rfl]
    simp (disch := first | omega | decide) only [resA, ev_tmp, tget_ne, tget_eq, get_ne, get_eq, upd_eq, upd_ne, ag_eq, ag_ne, result1]
    exact hKr _ hkG1
  rw [hz] at t10
  have hv := Val.of_fault hz
  repeat refine S.seq ?_
  refine S.region ?_
  simp (disch := first | omega | decide) only [rUz, ↓reduceIte, Nat.reduceEqDiff, Nat.reduceAdd, t10, decide_true]
  repeat refine S.seq ?_
  refine S.cond (v := true) (by first | rfl | (simp (disch := first | omega | decide) only [rUz, ↓reduceIte, Nat.reduceEqDiff, Nat.reduceAdd] <;> rfl)) (fun _ => ?_) (fun e => by cases e)
  repeat refine S.seq ?_
  refine S.region ?_
  simp (disch := first | omega | decide) only [rUz, ↓reduceIte, Nat.reduceEqDiff, Nat.reduceAdd, t2]
  refine wr_brings (fid := 17) (first := #[]) (captured := #[]) (Post := fun u h => u = .bool (inB d 0 11) ∧ h = g10) rfl (hoff _ _ _ rfl) (by simp (disch := first | omega | decide) only [rUz, ↓reduceIte, Nat.reduceEqDiff, Nat.reduceAdd]; exact in_y S _ d 0 11) ?_
  rintro u g11 - ⟨rfl, rfl⟩
  simp (disch := first | omega | decide) only [rUz, ↓reduceIte, Nat.reduceEqDiff, Nat.reduceAdd]
  cases hin : inB d 0 11 with
  | false =>
    have er : registeredP c d = (0, 2) := by unfold registeredP; rw [if_pos hz, hin]; rfl
    rw [er] at t7 t8
    repeat refine S.seq ?_
    refine S.cond (v := false) (by first | rfl | (simp (disch := first | omega | decide) only [rUz, ↓reduceIte, Nat.reduceEqDiff, Nat.reduceAdd, hin] <;> rfl)) (fun e => by cases e) (fun _ => ?_)
    repeat refine S.seq ?_
    refine S.region ?_
    simp (disch := first | omega | decide) only [rUz, ↓reduceIte, Nat.reduceEqDiff, Nat.reduceAdd]
    repeat refine S.seq ?_
    refine S.region ?_
    simp (disch := first | omega | decide) only [rUz, ↓reduceIte, Nat.reduceEqDiff, Nat.reduceAdd, t7, t8, t10, t11, decide_true]
    refine awake ?_
    simp (disch := first | omega | decide) only [rUz, ↓reduceIte, Nat.reduceEqDiff, Nat.reduceAdd]
    refine S.ret ?_
    try simp only [seqK_ret, blockK_ret]
    subst hF
    simp only [finish, endMarks]
    rw [show Tryz.f3.results.toList = [.tmp 6] from rfl]
    simp (disch := first | omega | decide) only [resA, ev_tmp, tget_ne, tget_eq, get_ne, get_eq, upd_eq, upd_ne, ag_eq, ag_ne, result1]
    exact hKr _ hkG1
  | true =>
    have er : registeredP c d = (regP c.cl d, 0) := by unfold registeredP; rw [if_pos hz, hin]; rfl
    rw [er] at t7 t8
    have hd := inB_iff.1 hin
    repeat refine S.seq ?_
    refine S.cond (v := true) (by first | rfl | (simp (disch := first | omega | decide) only [rUz, ↓reduceIte, Nat.reduceEqDiff, Nat.reduceAdd, hin] <;> rfl)) (fun _ => ?_) (fun e => by cases e)
    repeat refine S.seq ?_
    refine S.region ?_
    simp (disch := first | omega | decide) only [rUz, ↓reduceIte, Nat.reduceEqDiff, Nat.reduceAdd, t2, t3, hb3G, part_0 pA (coV_len c.hs v)]
    refine wr_brings (fid := 18) (first := #[]) (captured := #[]) (Post := fun u _ => u = iv (regP c.cl d)) rfl (hoff _ _ _ rfl) (by simp (disch := first | omega | decide) only [rUz, ↓reduceIte, Nat.reduceEqDiff, Nat.reduceAdd]; exact rreg_y S hoff _ v c (hc.mono hkG1) (by have := hv.cll; omega) d hd.1 (by omega)) ?_
    rintro u g12 hk12 rfl
    simp (disch := first | omega | decide) only [rUz, ↓reduceIte, Nat.reduceEqDiff, Nat.reduceAdd]
    repeat refine S.seq ?_
    refine S.region ?_
    simp (disch := first | omega | decide) only [rUz, ↓reduceIte, Nat.reduceEqDiff, Nat.reduceAdd, t7, t8, t10, t11, decide_true]
    refine awake ?_
    simp (disch := first | omega | decide) only [rUz, ↓reduceIte, Nat.reduceEqDiff, Nat.reduceAdd]
    refine S.ret ?_
    try simp only [seqK_ret, blockK_ret]
    subst hF
    simp only [finish, endMarks]
    rw [show Tryz.f3.results.toList = [.tmp 6] from rfl]
    simp (disch := first | omega | decide) only [resA, ev_tmp, tget_ne, tget_eq, get_ne, get_eq, upd_eq, upd_ne, ag_eq, ag_ne, result1]
    exact hKr _ (hkG1.trans hk12)
end Go.Proofs.Cp
