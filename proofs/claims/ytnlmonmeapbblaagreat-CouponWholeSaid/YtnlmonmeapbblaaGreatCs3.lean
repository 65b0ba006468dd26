import Derived.Test.YtnlmonmeapbblaaGreatCs2
import Derived.Test.YtnlmonmeapbblaaGreatCn8
namespace Go.Proofs.Cp
open Go Go.Ev Go.RowKit
set_option linter.unusedSimpArgs false

theorem reg_eq {c : Co} (hv : Val c) (a b : List Int) (day : Int) : regL c a b day = heldL c a b day := by
  have hl := hv.held
  have h4 := hv.h4
  have h1 : (regL c a b day).length = c.held.length := by unfold regL; rw [List.length_take, holdP_len]; omega
  have h2 : (heldL c a b day).length = c.held.length := by unfold heldL; rw [heldFrom_len]
  refine List.ext_getElem (h1.trans h2.symm) fun i hi hj => ?_
  have e1 := hold_end hv a b day i
  have e2 := held_end hv a b day i
  rw [List.getD_eq_getElem?_getD, List.getElem?_eq_getElem (by rw [holdP_len]; omega)] at e1
  rw [List.getD_eq_getElem?_getD, List.getElem?_eq_getElem hj] at e2
  have e3 : (regL c a b day)[i] = (holdP c (datesL c a b) day (byQ day))[i]'(by rw [holdP_len]; omega) := by
    unfold regL
    exact List.getElem_take
  rw [e3]
  exact e1.trans e2.symm
theorem thin_nil {c : Co} {a b : List Int} (h : thinB c a b = true) : thinB c [] [] = true ∧ a.length ≤ 7 ∧ b.length ≤ 7 := by
  unfold thinB at h ⊢
  simp only [Bool.and_eq_true, decide_eq_true_eq] at h ⊢
  obtain ⟨h1, h2, h3, h4, h5, h6, h7⟩ := h
  exact ⟨⟨h1, h2, h3, h4, h5, by decide, by decide⟩, by omega, by omega⟩
theorem prU2 (x y : Value) : partL Tryz.prog 30 [x, y] 0 = some (.agg ⟨[x, y]⟩) := part_0 (l := [x, y]) prU rfl
structure IWl (H : AHeap) (sv uv lv : Value) (n : Nat) (k : Nat) (t : T Value) (h : AHeap) : Prop where
  kp : Kp H h
  t7 : tget t 7 = sv
  t8 : tget t 8 = uv
  t11 : tget t 11 = lv
  t12 : tget t 12 = iv (k : Int)
  hk : k ≤ n

variable {pr : Prim} {R : ExT}
set_option maxHeartbeats 64000000 in
theorem whole_law (S : Ev.Steps Tryz.prog pr R) (hT : Tab pr) (h0 : AHeap) (v : Vs) (c : Co) (hc : CoAt h0 v c) (hh : SlAt h0 1 v.a (c.held.map fun n => [iv n])) (ua ub : Value) (a b : List Int) (hsa : SlAt h0 1 ua (a.map fun n => [iv n])) (hsb : SlAt h0 1 ub (b.map fun n => [iv n])) (day : Int) (_hw : (Lit.int .i64 day).wf = true) :
    Brings Tryz.prog R 4 [.agg ⟨coV c.hs v⟩, .agg ⟨[ua, ub]⟩, iv day] h0 fun u _ => u = .bool true := by
  have hoff := hT.off
  refine brings_of (fn := Tryz.f4) (c := (Tryz.f4.body).getD .skip) (by kernel_rfl) rfl (by kernel_rfl) rfl (fun K hK => ?_)
  generalize hF : finish Tryz.prog Tryz.f4 K = KF
  simp only [Tryz.f4, Option.getD_some, argsT, setArgs, fV1_eq, T.setK_eq, id]
  have hKr : ∀ g, Kp h0 g → K (.bool true) g = true := fun g hk => hK _ _ hk rfl
  clear hK
  have awake : ∀ {ops : Array Oper} {n : Nat} {rest : List Oper} {t : T Value} {h : AHeap} {KR : T Value → AHeap → Bool} {dst : Option Tmp}, putR Tryz.prog (withPrim pr (callVal Tryz.prog R)) ops n rest dst t (.bool true) h KR = true →
      wrR Tryz.prog (withPrim pr (callVal Tryz.prog R)) ops n rest (.call ⟨.value (.func 9), #[], #[]⟩) dst t h KR = true := fun k => wr_prim (fid := 9) (first := #[]) (captured := #[]) (v := .bool true) rfl (hT.awake _) k
  have hua : IAt h0 ua a := SlAt.ints hsa
  have hub : IAt h0 ub b := SlAt.ints hsb
  repeat refine S.seq ?_
  refine S.region ?_
  simp (disch := first | omega | decide) only [rUz, ↓reduceIte, Nat.reduceEqDiff, Nat.reduceAdd]
  obtain ⟨B3, hB3⟩ : ∃ x, x = h0.nx := ⟨_, rfl⟩
  obtain ⟨B4, hB4⟩ : ∃ x, x = h0.nx + 1 := ⟨_, rfl⟩
  have hb3 : ((h0.add (coV c.hs v)).add [ua, ub]).bl.get B3 = some (.cells (coV c.hs v) B3 false) := by simp (disch := first | omega | (simp only [nZ] <;> omega) | decide) only [ag_ne]; subst hB3; exact ag_eq rfl
  have hb4 : ((h0.add (coV c.hs v)).add [ua, ub]).bl.get B4 = some (.cells [ua, ub] B4 false) := by subst hB4; exact ag_eq rfl
  have hn4 : B4 < ((h0.add (coV c.hs v)).add [ua, ub]).nx := by show B4 < h0.nx + 2; omega
  have hk1 : Kp h0 ((h0.add (coV c.hs v)).add [ua, ub]) := Kp.refl.add.add
  have hve := veq_co hc c.hs
  have hvu : veq (.agg ⟨[ua, ub]⟩) (.agg ⟨[ua, ub]⟩) = true := by simp only [veq, veqA, veqL, hua.veq, hub.veq, Bool.and_self]
  have h34 : B3 < B4 := by omega
  rw [← hB4, ← hB3]
  clear hB3 hB4
  generalize (h0.add (coV c.hs v)).add [ua, ub] = H at hb3 hb4 hn4 hk1 ⊢
  have hn3 : B3 < H.nx := by omega
  repeat refine S.seq ?_
  refine S.region ?_
  simp (disch := first | omega | decide) only [rUz, ↓reduceIte, Nat.reduceEqDiff, Nat.reduceAdd, hb3, hb4, part_0 pA (coV_len c.hs v), prU2]
  refine wr_brings (fid := 8) (first := #[]) (captured := #[]) (Post := fun u _ => u = .bool (thinB c a b)) rfl (hoff _ _ _ rfl) (by simp (disch := first | omega | decide) only [rUz, ↓reduceIte, Nat.reduceEqDiff, Nat.reduceAdd]; exact thin_y S _ v c (hc.mono hk1) ua ub a b (hua.mono hk1) (hub.mono hk1)) ?_
  rintro u g hk rfl
  simp (disch := first | omega | decide) only [rUz, ↓reduceIte, Nat.reduceEqDiff, Nat.reduceAdd, un_not]
  cases hth : thinB c a b with
  | false =>
    repeat refine S.seq ?_
    refine S.cond (v := true) rfl (fun _ => ?_) (fun e => by cases e)
    repeat refine S.seq ?_
    refine S.region ?_
    simp (disch := first | omega | decide) only [rUz, ↓reduceIte, Nat.reduceEqDiff, Nat.reduceAdd]
    refine awake ?_
    simp (disch := first | omega | decide) only [rUz, ↓reduceIte, Nat.reduceEqDiff, Nat.reduceAdd]
    refine S.ret ?_
    try simp only [seqK_ret, blockK_ret]
    subst hF
    simp only [finish, endMarks]
    rw [show Tryz.f4.results.toList = [.tmp 6] from rfl]
    simp (disch := first | omega | decide) only [resA, ev_tmp, tget_ne, tget_eq, get_ne, get_eq, upd_eq, upd_ne, ag_eq, ag_ne, result1]
    exact hKr _ (hk1.trans hk)
  | true =>
  repeat refine S.seq ?_
  refine S.cond (v := false) rfl (fun e => by cases e) (fun _ => ?_)
  repeat refine S.seq ?_
  refine S.skip ?_
  simp (disch := first | omega | decide) only [rUz, ↓reduceIte, Nat.reduceEqDiff, Nat.reduceAdd]
  obtain ⟨ht0, hla, hlb⟩ := thin_nil hth
  have hkA := hk1.trans hk
  have hb3B := (hk.get hn3).trans hb3
  have hb4B := (hk.get hn4).trans hb4
  have hcB := hc.mono hkA
  have hhB := SlAt.mono hh hkA
  have hsaB := SlAt.mono hsa hkA
  have hsbB := SlAt.mono hsb hkA
  repeat refine S.seq ?_
  refine S.drawnL [(false, 0), (true, 1), (false, 0), (true, 7), (false, 0), (true, 31), (false, 63), (false, 127), (false, 127), (false, 127), (false, 255), (false, 1535), (false, 4095)] (by kernel_rfl) (by kernel_rfl) (by kernel_rfl) ?_
  simp (disch := first | omega | decide) only [rUz, ↓reduceIte, Nat.reduceEqDiff, Nat.reduceAdd, rDz, infoL, Nat.reduceSub, hb3B, hb4B, part_0 pA (coV_len c.hs v), prU2]
  refine draw_pick' rfl ?_
  simp (disch := first | omega | decide) only [rUz, ↓reduceIte, Nat.reduceEqDiff, Nat.reduceAdd, rDz, infoL, Nat.reduceSub, hb4B, prU2]
  refine draw_pick' rfl ?_
  simp (disch := first | omega | decide) only [rUz, ↓reduceIte, Nat.reduceEqDiff, Nat.reduceAdd, rDz, infoL, Nat.reduceSub, hb4B, prU2]
  refine drW_brings (fid := 11) (first := #[]) (captured := #[]) (Post := fun u h => ∃ v', u = .agg ⟨coV c.hs v'⟩ ∧ CoAt h v' c) rfl (hoff _ _ _ rfl) (by simp (disch := first | omega | decide) only [rUz, ↓reduceIte, Nat.reduceEqDiff, Nat.reduceAdd]; exact company_y S hoff _ v c hcB hhB ht0) (Nat.le_of_ble_eq_true rfl) ?_
  rintro u g4 hk4 ⟨v3, rfl, hc3⟩
  have hkC := hk.trans hk4
  have hb4C := (hkC.get hn4).trans hb4
  refine ⟨?_, ?_⟩
  · try simp (disch := first | decide | rfl) only [again_nil, again_skip, again_free]
    rw [again_same (v := .agg ⟨[ua, ub]⟩) (by simp (disch := first | omega | decide) only [rUz, ↓reduceIte, Nat.reduceEqDiff, Nat.reduceAdd, rDz, infoL, Nat.reduceSub, hb4C, prU2]) hvu]
    try simp (disch := first | decide | rfl) only [again_nil, again_skip, again_free]
  simp (disch := first | omega | decide) only [rUz, ↓reduceIte, Nat.reduceEqDiff, Nat.reduceAdd, rDz, infoL, Nat.reduceSub]
  refine drW_brings (fid := 13) (first := #[]) (captured := #[]) (Post := fun u h => ∃ ua' ub', u = .agg ⟨[ua', ub']⟩ ∧ IAt h ua' a ∧ IAt h ub' b) rfl (hoff _ _ _ rfl) (by simp (disch := first | omega | decide) only [rUz, ↓reduceIte, Nat.reduceEqDiff, Nat.reduceAdd]; exact truth_y S hoff _ ua ub a b (SlAt.mono hsaB hk4) (SlAt.mono hsbB hk4) (by omega) (by omega)) (Nat.le_of_ble_eq_true rfl) ?_
  rintro u g5 hk5 ⟨wa, wb, rfl, hwa, hwb⟩
  refine ⟨?_, ?_⟩
  · try simp (disch := first | decide | rfl) only [again_nil, again_skip, again_free]
  simp (disch := first | omega | decide) only [rUz, ↓reduceIte, Nat.reduceEqDiff, Nat.reduceAdd, rDz, infoL, Nat.reduceSub]
  refine drW_brings (fid := 19) (first := #[]) (captured := #[]) (Post := fun u h => ∃ sv uv, u = .tuple ⟨[sv, uv, iv (wholeZ c a b day)]⟩ ∧ (wholeZ c a b day = 0 → IAt h sv (shL (regL c a b day)) ∧ IAt h uv (unL (regL c a b day))) ∧ (wholeZ c a b day ≠ 0 → sv = nl ∧ uv = nl)) rfl (hoff _ _ _ rfl) (by simp (disch := first | omega | decide) only [rUz, ↓reduceIte, Nat.reduceEqDiff, Nat.reduceAdd]; exact whole_y S hoff g5 v3 c (hc3.mono hk5) ht0 wa wb a b hwa hwb (by omega) day) (Nat.le_of_ble_eq_true rfl) ?_
  rintro u g6 hk6 ⟨sv, uv, rfl, hok, hno⟩
  refine ⟨?_, ?_⟩
  · try simp (disch := first | decide | rfl) only [again_nil, again_skip, again_free]
  simp (disch := first | omega | decide) only [rUz, ↓reduceIte, Nat.reduceEqDiff, Nat.reduceAdd, rDz, infoL, Nat.reduceSub, tr0, tr1, tr2]
  have hkD := hkC.trans (hk5.trans hk6)
  have hb3D := (hkD.get hn3).trans hb3
  have hb4D := (hkD.get hn4).trans hb4
  have hkD1 := hk1.trans hkD
  clear hb3B hb4B hb4C hcB hhB hsaB hsbB
  repeat refine S.seq ?_
  refine S.region ?_
  simp (disch := first | omega | decide) only [rUz, ↓reduceIte, Nat.reduceEqDiff, Nat.reduceAdd, hb3D, hb4D, part_0 pA (coV_len c.hs v), prU2]
  refine wr_brings (fid := 16) (first := #[]) (captured := #[]) (Post := fun u _ => u = iv (askedZ c a b)) rfl (hoff _ _ _ rfl) (by simp (disch := first | omega | decide) only [rUz, ↓reduceIte, Nat.reduceEqDiff, Nat.reduceAdd]; exact asked_y S hoff _ v c (hc.mono hkD1) ht0 ua ub a b (hua.mono hkD1) (hub.mono hkD1)) ?_
  rintro u g7 hk7 rfl
  have hkE := hkD.trans hk7
  have hkE1 := hk1.trans hkE
  have lnl : ∀ (t : T Value) (h1 : AHeap) (o : Oper), rLen Tryz.prog t h1 o 22 nl = some (iv (0 : Int)) := fun t h1 o => iv_len (h := h0) (l := []) (.inl ⟨rfl, .inl rfl⟩) t h1 o
  simp (disch := first | omega | decide) only [rUz, ↓reduceIte, Nat.reduceEqDiff, Nat.reduceAdd]
  by_cases hz : askedZ c a b = 0
  rotate_left
  · have hw : wholeZ c a b day = askedZ c a b := if_neg hz
    obtain ⟨rfl, rfl⟩ := hno (by rw [hw]; exact hz)
    repeat refine S.seq ?_
    refine S.region ?_
    simp (disch := first | omega | decide) only [rUz, ↓reduceIte, Nat.reduceEqDiff, Nat.reduceAdd, decide_eq_false hz]
    repeat refine S.seq ?_
    refine S.cond (v := false) rfl (fun e => by cases e) (fun _ => ?_)
    repeat refine S.seq ?_
    refine S.skip ?_
    simp (disch := first | omega | decide) only [rUz, ↓reduceIte, Nat.reduceEqDiff, Nat.reduceAdd]
    repeat refine S.seq ?_
    refine S.region ?_
    simp (disch := first | omega | decide) only [rUz, ↓reduceIte, Nat.reduceEqDiff, Nat.reduceAdd, decide_eq_false hz, Bool.not_false]
    repeat refine S.seq ?_
    refine S.cond (v := true) rfl (fun _ => ?_) (fun e => by cases e)
    repeat refine S.seq ?_
    refine S.region ?_
    simp (disch := first | omega | decide) only [rUz, ↓reduceIte, Nat.reduceEqDiff, Nat.reduceAdd, hw, lnl, decide_true]
    refine awake ?_
    simp (disch := first | omega | decide) only [rUz, ↓reduceIte, Nat.reduceEqDiff, Nat.reduceAdd]
    refine S.ret ?_
    try simp only [seqK_ret, blockK_ret]
    subst hF
    simp only [finish, endMarks]
    rw [show Tryz.f4.results.toList = [.tmp 6] from rfl]
    simp (disch := first | omega | decide) only [resA, ev_tmp, tget_ne, tget_eq, get_ne, get_eq, upd_eq, upd_ne, ag_eq, ag_ne, result1]
    exact hKr _ hkE1
  repeat refine S.seq ?_
  refine S.region ?_
  simp (disch := first | omega | decide) only [rUz, ↓reduceIte, Nat.reduceEqDiff, Nat.reduceAdd, hz, decide_true]
  refine wr_brings (fid := 17) (first := #[]) (captured := #[]) (Post := fun u h => u = .bool (inB day 0 11) ∧ h = g7) rfl (hoff _ _ _ rfl) (by simp (disch := first | omega | decide) only [rUz, ↓reduceIte, Nat.reduceEqDiff, Nat.reduceAdd]; exact in_y S _ day 0 11) ?_
  rintro u g8 - ⟨rfl, rfl⟩
  simp (disch := first | omega | decide) only [rUz, ↓reduceIte, Nat.reduceEqDiff, Nat.reduceAdd, un_not]
  cases hin : inB day 0 11 with
  | false =>
    have hw : wholeZ c a b day = 2 := by unfold wholeZ; rw [if_pos hz, hin]; rfl
    obtain ⟨rfl, rfl⟩ := hno (by rw [hw]; decide)
    simp (disch := first | omega | decide) only [rUz, ↓reduceIte, Nat.reduceEqDiff, Nat.reduceAdd, hin, Bool.not_false]
    repeat refine S.seq ?_
    refine S.cond (v := true) rfl (fun _ => ?_) (fun e => by cases e)
    repeat refine S.seq ?_
    refine S.region ?_
    simp (disch := first | omega | decide) only [rUz, ↓reduceIte, Nat.reduceEqDiff, Nat.reduceAdd]
    repeat refine S.seq ?_
    refine S.region ?_
    simp (disch := first | omega | decide) only [rUz, ↓reduceIte, Nat.reduceEqDiff, Nat.reduceAdd, show (!decide ((2 : Int) = 0)) = true from rfl]
    repeat refine S.seq ?_
    refine S.cond (v := true) rfl (fun _ => ?_) (fun e => by cases e)
    repeat refine S.seq ?_
    refine S.region ?_
    simp (disch := first | omega | decide) only [rUz, ↓reduceIte, Nat.reduceEqDiff, Nat.reduceAdd, hw, lnl, decide_true]
    refine awake ?_
    simp (disch := first | omega | decide) only [rUz, ↓reduceIte, Nat.reduceEqDiff, Nat.reduceAdd]
    refine S.ret ?_
    try simp only [seqK_ret, blockK_ret]
    subst hF
    simp only [finish, endMarks]
    rw [show Tryz.f4.results.toList = [.tmp 6] from rfl]
    simp (disch := first | omega | decide) only [resA, ev_tmp, tget_ne, tget_eq, get_ne, get_eq, upd_eq, upd_ne, ag_eq, ag_ne, result1]
    exact hKr _ hkE1
  | true =>
  have hw : wholeZ c a b day = 0 := by unfold wholeZ; rw [if_pos hz, hin]; rfl
  obtain ⟨hz0, hdt⟩ := asked0 hz
  have hv := Val.of_fault hz0
  obtain ⟨hs, hu⟩ := hok hw
  rw [reg_eq hv] at hs hu
  have hd := inB_iff.1 hin
  have hb3E := (hkE.get hn3).trans hb3
  have hb4E := (hkE.get hn4).trans hb4
  simp (disch := first | omega | decide) only [rUz, ↓reduceIte, Nat.reduceEqDiff, Nat.reduceAdd, hin, Bool.not_true]
  repeat refine S.seq ?_
  refine S.cond (v := false) rfl (fun e => by cases e) (fun _ => ?_)
  repeat refine S.seq ?_
  refine S.skip ?_
  simp (disch := first | omega | decide) only [rUz, ↓reduceIte, Nat.reduceEqDiff, Nat.reduceAdd]
  repeat refine S.seq ?_
  refine S.region ?_
  simp (disch := first | omega | decide) only [rUz, ↓reduceIte, Nat.reduceEqDiff, Nat.reduceAdd, decide_true, Bool.not_true]
  repeat refine S.seq ?_
  refine S.cond (v := false) rfl (fun e => by cases e) (fun _ => ?_)
  repeat refine S.seq ?_
  refine S.skip ?_
  simp (disch := first | omega | decide) only [rUz, ↓reduceIte, Nat.reduceEqDiff, Nat.reduceAdd]
  repeat refine S.seq ?_
  refine S.region ?_
  simp (disch := first | omega | decide) only [rUz, ↓reduceIte, Nat.reduceEqDiff, Nat.reduceAdd, hb3E, hb4E, part_0 pA (coV_len c.hs v), prU2]
  refine wr_brings (fid := 20) (first := #[]) (captured := #[]) (Post := fun u h => IAt h u (heldL c a b day)) rfl (hoff _ _ _ rfl) (by simp (disch := first | omega | decide) only [rUz, ↓reduceIte, Nat.reduceEqDiff, Nat.reduceAdd]; exact rheld_y S hoff _ v c (hc.mono hkE1) hv ua ub a b (hua.mono hkE1) (hub.mono hkE1) hdt day hd.1 hd.2) ?_
  rintro lv g9 hk9 hl
  have hlb : ∀ x, x ∈ heldL c a b day → -23328000 ≤ x ∧ x ≤ 23328000 := by
    intro x hx
    rw [← reg_eq hv] at hx
    exact holdP_bnd hv _ _ _ x (List.mem_of_mem_take hx)
  have hL4 : (heldL c a b day).length ≤ 4 := by
    unfold heldL
    rw [heldFrom_len]
    have := hv.held
    have := hv.h4
    omega
  generalize heldL c a b day = L at hs hu hl hlb hL4
  have hs' := (hs.mono hk7).mono hk9
  have hu' := (hu.mono hk7).mono hk9
  have lsv : ∀ (t : T Value) (h1 : AHeap) (o : Oper), rLen Tryz.prog t h1 o 22 sv = some (iv (L.length : Int)) := fun t h1 o => by
    have := iv_len hs t h1 o
    rwa [shL, List.length_map] at this
  have luv : ∀ (t : T Value) (h1 : AHeap) (o : Oper), rLen Tryz.prog t h1 o 22 uv = some (iv (L.length : Int)) := fun t h1 o => by
    have := iv_len hu t h1 o
    rwa [unL, List.length_map] at this
  have llv : ∀ (t : T Value) (h1 : AHeap) (o : Oper), rLen Tryz.prog t h1 o 22 lv = some (iv (L.length : Int)) := iv_len hl
  have hkF := hkE1.trans hk9
  simp (disch := first | omega | decide) only [rUz, ↓reduceIte, Nat.reduceEqDiff, Nat.reduceAdd]
  repeat refine S.seq ?_
  refine S.region ?_
  simp (disch := first | omega | decide) only [rUz, ↓reduceIte, Nat.reduceEqDiff, Nat.reduceAdd, hw, lsv, luv, llv, decide_true, Bool.not_true]
  repeat refine S.seq ?_
  refine S.cond (v := false) rfl (fun e => by cases e) (fun _ => ?_)
  repeat refine S.seq ?_
  refine S.skip ?_
  simp (disch := first | omega | decide) only [rUz, ↓reduceIte, Nat.reduceEqDiff, Nat.reduceAdd]
  repeat refine S.seq ?_
  refine S.region ?_
  simp (disch := first | omega | decide) only [rUz, ↓reduceIte, Nat.reduceEqDiff, Nat.reduceAdd]
  repeat refine S.seq ?_
  refine S.block ?_
  refine S.loop (ι := Nat) (IWl g9 sv uv lv L.length) (fun k => L.length - k) ?_ 0 _ _ ?_
  rotate_left
  · refine ⟨Kp.refl, ?_, ?_, ?_, ?_, Nat.zero_le _⟩
    all_goals (first | rfl | (simp (disch := first | omega | decide) only [rUz, ↓reduceIte, Nat.reduceEqDiff, Nat.reduceAdd]; done) | (simp (disch := first | omega | decide) only [rUz, ↓reduceIte, Nat.reduceEqDiff, Nat.reduceAdd]; rfl))
  intro k t h ⟨hkp, t7, t8, t11, t12, hkk⟩ K' hn he
  repeat refine S.seq ?_
  refine S.region ?_
  simp (disch := first | omega | decide) only [rUz, ↓reduceIte, Nat.reduceEqDiff, Nat.reduceAdd, t11, t12, llv]
  repeat refine S.seq ?_
  refine S.cond (v := decide ((k : Int) < (L.length : Int))) (by first | rfl | (simp (disch := first | omega | decide) only [rUz, ↓reduceIte, Nat.reduceEqDiff, Nat.reduceAdd] <;> rfl)) (fun e => ?_) (fun e => ?_)
  rotate_left
  · refine S.exit (he _ _ _ _ (fun e => by cases e) ?_)
    simp (disch := first | omega | decide) only [rUz, ↓reduceIte, Nat.reduceEqDiff, Nat.reduceAdd]
    repeat refine S.seq ?_
    refine S.region ?_
    simp (disch := first | omega | decide) only [rUz, ↓reduceIte, Nat.reduceEqDiff, Nat.reduceAdd]
    refine awake ?_
    simp (disch := first | omega | decide) only [rUz, ↓reduceIte, Nat.reduceEqDiff, Nat.reduceAdd]
    refine S.ret ?_
    try simp only [seqK_ret, blockK_ret]
    subst hF
    simp only [finish, endMarks]
    rw [show Tryz.f4.results.toList = [.tmp 6] from rfl]
    simp (disch := first | omega | decide) only [resA, ev_tmp, tget_ne, tget_eq, get_ne, get_eq, upd_eq, upd_ne, ag_eq, ag_ne, result1]
    exact hKr _ (hkF.trans hkp)
  have hkn : k < L.length := by have := of_decide_eq_true e; omega
  clear e
  have hks : k < (shL L).length := by unfold shL; rw [List.length_map]; exact hkn
  have hku : k < (unL L).length := by unfold unL; rw [List.length_map]; exact hkn
  have es : (shL L)[k] = (L[k]).tdiv 720 := List.getElem_map ..
  have eu : (unL L)[k] = (L[k]).tmod 720 := List.getElem_map ..
  obtain ⟨b1, f1, o1, s1, s2, s3', s4⟩ := (hs'.mono hkp).idx slI s3' hks
  obtain ⟨b2, f2, o2, u1, u2, u3, u4⟩ := (hu'.mono hkp).idx slI Cp.s3' hku
  obtain ⟨b3, f3, o3, l1, l2, l3, l4⟩ := (hl.mono hkp).idx slI Cp.s3' hkn
  rw [es] at s4
  rw [eu] at u4
  have hx := hlb L[k] (List.getElem_mem hkn)
  generalize L[k] = x at s4 u4 l4 hx
  have hq := q720 (M := 23328000) (by omega) hx.2 (by omega)
  repeat refine S.seq ?_
  refine S.skip ?_
  simp (disch := first | omega | decide) only [rUz, ↓reduceIte, Nat.reduceEqDiff, Nat.reduceAdd]
  repeat refine S.seq ?_
  refine S.block ?_
  repeat refine S.seq ?_
  refine S.drawnL [(false, 0), (false, 0), (false, 3), (false, 7), (false, 0), (false, 0), (false, 48), (false, 112), (false, 240), (false, 511), (false, 1023), (false, 2047), (false, 2047), (false, 8191), (false, 16383), (false, 2047), (false, 2047), (false, 100351), (false, 231423), (false, 493567), (false, 1048575), (false, 2097151)] (by kernel_rfl) (by kernel_rfl) (by kernel_rfl) ?_
  simp (disch := first | omega | decide) only [rUz, ↓reduceIte, Nat.reduceEqDiff, Nat.reduceAdd, rDz, infoL, Nat.reduceSub, t7, t8, t11, t12, p3, s1, s3', s4, u1, u3, u4, l1, l3, l4]
  rw [bin_quo (i := x) (j := 720) (by simp (disch := first | omega | decide) only [rUz, ↓reduceIte, Nat.reduceEqDiff, Nat.reduceAdd]) (by simp (disch := first | omega | decide) only [rUz, ↓reduceIte, Nat.reduceEqDiff, Nat.reduceAdd]) (by omega) (by omega) (by omega)]
  simp (disch := first | omega | decide) only [rUz, ↓reduceIte, Nat.reduceEqDiff, Nat.reduceAdd, rDz, infoL, Nat.reduceSub, t7, t8, t11, t12, p3, s1, s3', s4, u1, u3, u4, l1, l3, l4, decide_true, Bool.not_true]
  rw [bin_rem (i := x) (j := 720) (by simp (disch := first | omega | decide) only [rUz, ↓reduceIte, Nat.reduceEqDiff, Nat.reduceAdd]) (by simp (disch := first | omega | decide) only [rUz, ↓reduceIte, Nat.reduceEqDiff, Nat.reduceAdd]) (by omega)]
  simp (disch := first | omega | decide) only [rUz, ↓reduceIte, Nat.reduceEqDiff, Nat.reduceAdd, rDz, infoL, Nat.reduceSub, t7, t8, t11, t12, p3, s1, s3', s4, u1, u3, u4, l1, l3, l4, decide_true, Bool.not_true]
  repeat refine S.seq ?_
  refine S.cond (v := false) (by first | rfl | (simp (disch := first | omega | decide) only [rUz, ↓reduceIte, Nat.reduceEqDiff, Nat.reduceAdd] <;> rfl)) (fun e => by cases e) (fun _ => ?_)
  repeat refine S.seq ?_
  refine S.skip ?_
  simp (disch := first | omega | decide) only [rUz, ↓reduceIte, Nat.reduceEqDiff, Nat.reduceAdd]
  repeat refine S.seq ?_
  refine S.region ?_
  simp (disch := first | omega | decide) only [rUz, ↓reduceIte, Nat.reduceEqDiff, Nat.reduceAdd, t12]
  refine hn (k + 1) _ _ (by omega) ⟨hkp, ?_, ?_, ?_, ?_, by omega⟩
  all_goals (first | rfl | (simp (disch := first | omega | decide) only [rUz, ↓reduceIte, Nat.reduceEqDiff, Nat.reduceAdd, t7, t8, t11]; done) | (simp (disch := first | omega | decide) only [rUz, ↓reduceIte, Nat.reduceEqDiff, Nat.reduceAdd, t7, t8, t11]; rfl))
end Go.Proofs.Cp
