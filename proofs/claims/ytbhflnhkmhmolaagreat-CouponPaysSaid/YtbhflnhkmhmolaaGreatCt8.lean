import Derived.Test.YtbhflnhkmhmolaaGreatCt7
/- CouponPays: what is paid, the claims and the rights are as the document says. -/
namespace Go.Proofs.Cp
open Go Go.Ev Go.RowKit
set_option linter.unusedSimpArgs false

theorem holdB_get {c : Co} (hv : Val c) (ex day : Int) (i : Nat) : ∀ (tr : List Tr) (a b l : List Int), (∀ x, x ∈ tr → Tok c.hs x) → l.length = 4 → a.length = tr.length → b.length = tr.length → (holdG c day (belQ ex) tr (datesL c a b) l).getD i 0 = rgtG c ex day i tr a (l.getD i 0)
  | [], _, _, _, _, _, _, _ => by rw [holdG_nil, rgtG_nil]
  | x :: r, [], _, _, _, _, h, _ => by simp at h
  | x :: r, s :: a, [], _, _, _, _, h => by simp at h
  | x :: r, s :: a, e :: b, l, ht, hl, ha, hb => by
    show (holdG c day (belQ ex) r (datesL c a b) (bif decide (s < ex) then aftL l x (facU c x.sh s day) else l)).getD i 0 = rgtG c ex day i r a (rgtT c ex day i x s (l.getD i 0))
    unfold rgtT
    cases decide (s < ex) with
    | true =>
      simp only [cond_true]
      rw [holdB_get hv ex day i r a b _ (fun y hy => ht y (by simp [hy])) (by rw [aftL_len]; exact hl) (by simpa using ha) (by simpa using hb), aftL_get hl (ht x (by simp)) hv.h4, units_eq hv]
    | false =>
      simp only [cond_false]
      exact holdB_get hv ex day i r a b _ (fun y hy => ht y (by simp [hy])) hl (by simpa using ha) (by simpa using hb)
theorem pay_eq {c : Co} (hv : Val c) (a b : List Int) (d : T3) : payP c (datesL c a b) d = paidL c a b d := by
  unfold payP paidL
  rw [← reg_eq hv]; rfl
theorem rgt_eq {c : Co} (hv : Val c) {a b : List Int} (la : a.length = c.tr.length) (lb : b.length = c.tr.length) (d : T3) : rgtP c (datesL c a b) d = rgtL c a d := by
  have hl := hv.held
  have h4 := hv.h4
  have e1 : (rgtP c (datesL c a b) d).length = c.held.length := by unfold rgtP; rw [muls_len, List.length_take, holdP_len]; omega
  have e2 : (rgtL c a d).length = c.held.length := rgtFrom_len ..
  refine List.ext_getElem? fun i => ?_
  by_cases hi : i < c.held.length
  · have g1 : (rgtP c (datesL c a b) d)[i]? = some ((rgtP c (datesL c a b) d).getD i 0) := by rw [List.getD_eq_getElem?_getD, List.getElem?_eq_getElem (by omega)]; rfl
    have g2 : (rgtP c (datesL c a b) d).getD i 0 = d.2.2 * (holdP c (datesL c a b) d.2.1 (belQ d.1)).getD i 0 := by
      unfold rgtP
      rw [muls_get, List.getD_eq_getElem?_getD, List.getElem?_take_of_lt hi, ← List.getD_eq_getElem?_getD]
    rw [g1, g2]
    unfold holdP
    rw [holdB_get hv _ _ i c.tr a b _ (toks hv) (hold0_len _ _ _) la lb, hold0_get c _ i _ (by omega), if_pos hi]
    unfold rgtL
    rw [rgtFrom_get, List.getElem?_eq_getElem hi, Nat.zero_add]
    unfold rgtH
    rw [Option.map_some, units_eq hv, List.getD_eq_getElem?_getD, List.getElem?_eq_getElem hi]; rfl
  · rw [List.getElem?_eq_none (by omega), List.getElem?_eq_none (by omega)]
theorem clm1_eq {c : Co} (hv : Val c) (d : T3) (x : Tr) (s e : Int) : clm1 c d x (s, regP c.cl e) = clmR c d x s e := by
  show (bif decide (s < d.1) == byQ d.2.1 (s, regP c.cl e) then 0 else bif byQ d.2.1 (s, regP c.cl e) then -(d.2.2 * facU c x.sh s d.2.1) else d.2.2 * facU c x.sh s d.2.1) = _
  unfold clmR
  rw [by_eq, ← units_eq hv]
  cases decide (s < d.1) <;> cases inB (regP c.cl e) 0 d.2.1 <;> first | rfl | exact (Int.neg_mul ..).symm
theorem clm_eq {c : Co} (hv : Val c) (a b : List Int) (d : T3) : clmP c (datesL c a b) d = clmL c a b d := by
  refine List.ext_getElem? fun i => ?_
  unfold clmP clmL datesL
  simp only [List.getElem?_zipWith]
  cases c.tr[i]? <;> cases a[i]? <;> cases b[i]? <;> first | rfl | exact congrArg some (clm1_eq hv ..)

variable {pr : Prim} {R : ExT}
set_option maxHeartbeats 64000000 in
theorem pays_law (S : Ev.Steps Tryz.prog pr R) (hT : Tab pr) (h0 : AHeap) (v : Vs) (c : Co) (hc : CoAt h0 v c) (hh : SlAt h0 1 v.a (c.held.map fun n => [iv n])) (ua ub : Value) (a b : List Int) (hsa : SlAt h0 1 ua (a.map fun n => [iv n])) (hsb : SlAt h0 1 ub (b.map fun n => [iv n])) (i : Int) (_hw : (Lit.int .i64 i).wf = true) :
    Brings Tryz.prog R 5 [.agg ⟨coV c.hs v⟩, .agg ⟨[ua, ub]⟩, iv i] h0 fun u _ => u = .bool true := by
  have hoff := hT.off
  refine brings_of (fn := Tryz.f5) (c := (Tryz.f5.body).getD .skip) (by kernel_rfl) rfl (by kernel_rfl) rfl (fun K hK => ?_)
  generalize hF : finish Tryz.prog Tryz.f5 K = KF
  simp only [Tryz.f5, Option.getD_some, argsT, setArgs, fV1_eq, T.setK_eq, id]
  have hKr : ∀ g, Kp h0 g → K (.bool true) g = true := fun g hk => hK _ _ hk rfl
  clear hK
  have awake : ∀ {ops : Array Oper} {n : Nat} {rest : List Oper} {t : T Value} {h : AHeap} {KR : T Value → AHeap → Bool} {dst : Option Tmp}, putR Tryz.prog (withPrim pr (callVal Tryz.prog R)) ops n rest dst t (.bool true) h KR = true →
      wrR Tryz.prog (withPrim pr (callVal Tryz.prog R)) ops n rest (.call ⟨.value (.func 9), #[], #[]⟩) dst t h KR = true := fun k => wr_prim (fid := 9) (first := #[]) (captured := #[]) (v := .bool true) rfl (hT.awake _) k
  have hua : IAt h0 ua a := SlAt.ints hsa
  have hub : IAt h0 ub b := SlAt.ints hsb
  repeat refine S.seq ?_
  refine S.region ?_
  simp (disch := first | omega | decide) only [rUz]
  obtain ⟨B3, hB3⟩ : ∃ x, x = h0.nx := ⟨_, rfl⟩
  obtain ⟨B4, hB4⟩ : ∃ x, x = h0.nx + 1 := ⟨_, rfl⟩
  have hb3 : ((h0.add (coV c.hs v)).add [ua, ub]).bl.get B3 = some (.cells (coV c.hs v) B3 false) := by simp (disch := first | omega | (simp only [nZ] <;> omega) | decide) only [ag_ne]; subst hB3; exact ag_eq rfl
  have hb4 : ((h0.add (coV c.hs v)).add [ua, ub]).bl.get B4 = some (.cells [ua, ub] B4 false) := by subst hB4; exact ag_eq rfl
  have hn4 : B4 < ((h0.add (coV c.hs v)).add [ua, ub]).nx := by show B4 < h0.nx + 2; omega
  have hk1 : Kp h0 ((h0.add (coV c.hs v)).add [ua, ub]) := Kp.refl.add.add
  have hvu : veq (.agg ⟨[ua, ub]⟩) (.agg ⟨[ua, ub]⟩) = true := by simp only [veq, veqA, veqL, hua.veq, hub.veq, Bool.and_self]
  have h34 : B3 < B4 := by omega
  rw [← hB4, ← hB3]
  clear hB3 hB4
  generalize (h0.add (coV c.hs v)).add [ua, ub] = H at hb3 hb4 hn4 hk1 ⊢
  have hn3 : B3 < H.nx := by omega
  repeat refine S.seq ?_
  refine S.region ?_
  simp (disch := first | omega | decide) only [rUz, hb3, hb4, part_0 pA (coV_len c.hs v), prU2]
  refine wr_brings (fid := 8) (first := #[]) (captured := #[]) (Post := fun u _ => u = .bool (thinB c a b)) rfl (hoff _ _ _ rfl) (by simp (disch := first | omega | decide) only [rUz]; exact thin_y S _ v c (hc.mono hk1) ua ub a b (hua.mono hk1) (hub.mono hk1)) ?_
  rintro u g hkg rfl
  simp (disch := first | omega | decide) only [rUz, un_not]
  cases hth : thinB c a b with
  | false =>
    repeat refine S.seq ?_
    refine S.cond (v := true) rfl (fun _ => ?_) (fun e => by cases e)
    repeat refine S.seq ?_
    refine S.region ?_
    simp (disch := first | omega | decide) only [rUz]
    refine awake ?_
    simp (disch := first | omega | decide) only [rUz]
    refine S.ret ?_
    try simp only [seqK_ret, blockK_ret]
    subst hF
    simp only [finish, endMarks]
    rw [show Tryz.f5.results.toList = [.tmp 6] from rfl]
    simp (disch := first | omega | decide) only [resA, ev_tmp, tget_ne, tget_eq, get_ne, get_eq, upd_eq, upd_ne, ag_eq, ag_ne, result1]
    exact hKr _ (hk1.trans hkg)
  | true =>
  repeat refine S.seq ?_
  refine S.cond (v := false) rfl (fun e => by cases e) (fun _ => ?_)
  repeat refine S.seq ?_
  refine S.skip ?_
  simp (disch := first | omega | decide) only [rUz]
  obtain ⟨ht0, hla, hlb⟩ := thin_nil hth
  have hj0 := hkg
  have hm0 := hk1.trans hj0
  have hx0 := (hj0.get hn3).trans hb3
  have hy0 := (hj0.get hn4).trans hb4
  repeat refine S.seq ?_
  refine S.drawnL [(false, 0), (true, 1), (false, 0), (true, 7), (false, 0), (true, 31), (false, 63), (false, 127), (false, 127), (false, 255), (false, 1023)] (by kernel_rfl) (by kernel_rfl) (by kernel_rfl) ?_
  simp (disch := first | omega | decide) only [rUz, rDz, infoL, Nat.reduceSub, hx0, hy0, part_0 pA (coV_len c.hs v), prU2]
  refine draw_pick' rfl ?_
  simp (disch := first | omega | decide) only [rUz, rDz, infoL, Nat.reduceSub, hy0, prU2]
  refine draw_pick' rfl ?_
  simp (disch := first | omega | decide) only [rUz, rDz, infoL, Nat.reduceSub, hy0, prU2]
  refine drW_brings (fid := 11) (first := #[]) (captured := #[]) (Post := fun u h => ∃ v', u = .agg ⟨coV c.hs v'⟩ ∧ CoAt h v' c) rfl (hoff _ _ _ rfl) (by simp (disch := first | omega | decide) only [rUz]; exact company_y S hoff _ v c (hc.mono hm0) (SlAt.mono hh hm0) ht0) (Nat.le_of_ble_eq_true rfl) ?_
  rintro u gA hkA ⟨vA, rfl, hcA⟩
  have hjA := hj0.trans hkA
  have hyA := (hjA.get hn4).trans hb4
  refine ⟨?_, ?_⟩
  · try simp (disch := first | decide | rfl) only [again_nil, again_skip, again_free]
    rw [again_same (v := .agg ⟨[ua, ub]⟩) (by simp (disch := first | omega | decide) only [rUz, rDz, infoL, Nat.reduceSub, hyA, prU2]) hvu]
    try simp (disch := first | decide | rfl) only [again_nil, again_skip, again_free]
  simp (disch := first | omega | decide) only [rUz, rDz, infoL, Nat.reduceSub]
  refine drW_brings (fid := 13) (first := #[]) (captured := #[]) (Post := fun u h => ∃ ua' ub', u = .agg ⟨[ua', ub']⟩ ∧ IAt h ua' a ∧ IAt h ub' b) rfl (hoff _ _ _ rfl) (by simp (disch := first | omega | decide) only [rUz]; exact truth_y S hoff _ ua ub a b (SlAt.mono hsa (hk1.trans hjA)) (SlAt.mono hsb (hk1.trans hjA)) (by omega) (by omega)) (Nat.le_of_ble_eq_true rfl) ?_
  rintro u gB hkB ⟨wa, wb, rfl, hwa, hwb⟩
  refine ⟨?_, ?_⟩
  · try simp (disch := first | decide | rfl) only [again_nil, again_skip, again_free]
  simp (disch := first | omega | decide) only [rUz, rDz, infoL, Nat.reduceSub]
  refine drW_brings (fid := 21) (first := #[]) (captured := #[]) (Post := fun u h => Tells h c a b i (payP c (datesL c a b)) u) rfl (hoff _ _ _ rfl) (by simp (disch := first | omega | decide) only [rUz]; exact Paid_y S hoff gB vA c (hcA.mono hkB) ht0 wa wb a b hwa hwb (by omega) i) (Nat.le_of_ble_eq_true rfl) ?_
  rintro u g0 hkC ⟨pv, rfl, pok, pno⟩
  refine ⟨?_, ?_⟩
  · try simp (disch := first | decide | rfl) only [again_nil, again_skip, again_free]
  simp (disch := first | omega | decide) only [rUz, rDz, infoL, Nat.reduceSub, tup0, tup1]
  have hj1 := hjA.trans (hkB.trans hkC)
  have st0 := hkA.trans (hkB.trans hkC)
  clear hcA hwa hwb hjA hyA hkA hkB hx0 hy0 hm0 hkC
  have hm1 := hk1.trans hj1
  have hx1 := (hj1.get hn3).trans hb3
  have hy1 := (hj1.get hn4).trans hb4
  repeat refine S.seq ?_
  refine S.drawnL [(false, 0), (true, 1), (false, 0), (true, 7), (false, 0), (true, 31), (false, 63), (false, 127), (false, 127), (false, 255), (false, 1023)] (by kernel_rfl) (by kernel_rfl) (by kernel_rfl) ?_
  simp (disch := first | omega | decide) only [rUz, rDz, infoL, Nat.reduceSub, hx1, hy1, part_0 pA (coV_len c.hs v), prU2]
  refine draw_pick' rfl ?_
  simp (disch := first | omega | decide) only [rUz, rDz, infoL, Nat.reduceSub, hy1, prU2]
  refine draw_pick' rfl ?_
  simp (disch := first | omega | decide) only [rUz, rDz, infoL, Nat.reduceSub, hy1, prU2]
  refine drW_brings (fid := 11) (first := #[]) (captured := #[]) (Post := fun u h => ∃ v', u = .agg ⟨coV c.hs v'⟩ ∧ CoAt h v' c) rfl (hoff _ _ _ rfl) (by simp (disch := first | omega | decide) only [rUz]; exact company_y S hoff _ v c (hc.mono hm1) (SlAt.mono hh hm1) ht0) (Nat.le_of_ble_eq_true rfl) ?_
  rintro u gA hkA ⟨vA, rfl, hcA⟩
  have hjA := hj1.trans hkA
  have hyA := (hjA.get hn4).trans hb4
  refine ⟨?_, ?_⟩
  · try simp (disch := first | decide | rfl) only [again_nil, again_skip, again_free]
    rw [again_same (v := .agg ⟨[ua, ub]⟩) (by simp (disch := first | omega | decide) only [rUz, rDz, infoL, Nat.reduceSub, hyA, prU2]) hvu]
    try simp (disch := first | decide | rfl) only [again_nil, again_skip, again_free]
  simp (disch := first | omega | decide) only [rUz, rDz, infoL, Nat.reduceSub]
  refine drW_brings (fid := 13) (first := #[]) (captured := #[]) (Post := fun u h => ∃ ua' ub', u = .agg ⟨[ua', ub']⟩ ∧ IAt h ua' a ∧ IAt h ub' b) rfl (hoff _ _ _ rfl) (by simp (disch := first | omega | decide) only [rUz]; exact truth_y S hoff _ ua ub a b (SlAt.mono hsa (hk1.trans hjA)) (SlAt.mono hsb (hk1.trans hjA)) (by omega) (by omega)) (Nat.le_of_ble_eq_true rfl) ?_
  rintro u gB hkB ⟨wa, wb, rfl, hwa, hwb⟩
  refine ⟨?_, ?_⟩
  · try simp (disch := first | decide | rfl) only [again_nil, again_skip, again_free]
  simp (disch := first | omega | decide) only [rUz, rDz, infoL, Nat.reduceSub]
  refine drW_brings (fid := 22) (first := #[]) (captured := #[]) (Post := fun u h => Tells h c a b i (clmP c (datesL c a b)) u) rfl (hoff _ _ _ rfl) (by simp (disch := first | omega | decide) only [rUz]; exact Claims_y S hoff gB vA c (hcA.mono hkB) ht0 wa wb a b hwa hwb (by omega) i) (Nat.le_of_ble_eq_true rfl) ?_
  rintro u g1 hkC ⟨kv, rfl, kok, kno⟩
  refine ⟨?_, ?_⟩
  · try simp (disch := first | decide | rfl) only [again_nil, again_skip, again_free]
  simp (disch := first | omega | decide) only [rUz, rDz, infoL, Nat.reduceSub, tup0, tup1]
  have hj2 := hjA.trans (hkB.trans hkC)
  have st1 := hkA.trans (hkB.trans hkC)
  clear hcA hwa hwb hjA hyA hkA hkB hx1 hy1 hm1 hkC
  have hm2 := hk1.trans hj2
  have hx2 := (hj2.get hn3).trans hb3
  have hy2 := (hj2.get hn4).trans hb4
  repeat refine S.seq ?_
  refine S.drawnL [(false, 0), (true, 1), (false, 0), (true, 7), (false, 0), (true, 31), (false, 63), (false, 127), (false, 127), (false, 255), (false, 1023)] (by kernel_rfl) (by kernel_rfl) (by kernel_rfl) ?_
  simp (disch := first | omega | decide) only [rUz, rDz, infoL, Nat.reduceSub, hx2, hy2, part_0 pA (coV_len c.hs v), prU2]
  refine draw_pick' rfl ?_
  simp (disch := first | omega | decide) only [rUz, rDz, infoL, Nat.reduceSub, hy2, prU2]
  refine draw_pick' rfl ?_
  simp (disch := first | omega | decide) only [rUz, rDz, infoL, Nat.reduceSub, hy2, prU2]
  refine drW_brings (fid := 11) (first := #[]) (captured := #[]) (Post := fun u h => ∃ v', u = .agg ⟨coV c.hs v'⟩ ∧ CoAt h v' c) rfl (hoff _ _ _ rfl) (by simp (disch := first | omega | decide) only [rUz]; exact company_y S hoff _ v c (hc.mono hm2) (SlAt.mono hh hm2) ht0) (Nat.le_of_ble_eq_true rfl) ?_
  rintro u gA hkA ⟨vA, rfl, hcA⟩
  have hjA := hj2.trans hkA
  have hyA := (hjA.get hn4).trans hb4
  refine ⟨?_, ?_⟩
  · try simp (disch := first | decide | rfl) only [again_nil, again_skip, again_free]
    rw [again_same (v := .agg ⟨[ua, ub]⟩) (by simp (disch := first | omega | decide) only [rUz, rDz, infoL, Nat.reduceSub, hyA, prU2]) hvu]
    try simp (disch := first | decide | rfl) only [again_nil, again_skip, again_free]
  simp (disch := first | omega | decide) only [rUz, rDz, infoL, Nat.reduceSub]
  refine drW_brings (fid := 13) (first := #[]) (captured := #[]) (Post := fun u h => ∃ ua' ub', u = .agg ⟨[ua', ub']⟩ ∧ IAt h ua' a ∧ IAt h ub' b) rfl (hoff _ _ _ rfl) (by simp (disch := first | omega | decide) only [rUz]; exact truth_y S hoff _ ua ub a b (SlAt.mono hsa (hk1.trans hjA)) (SlAt.mono hsb (hk1.trans hjA)) (by omega) (by omega)) (Nat.le_of_ble_eq_true rfl) ?_
  rintro u gB hkB ⟨wa, wb, rfl, hwa, hwb⟩
  refine ⟨?_, ?_⟩
  · try simp (disch := first | decide | rfl) only [again_nil, again_skip, again_free]
  simp (disch := first | omega | decide) only [rUz, rDz, infoL, Nat.reduceSub]
  refine drW_brings (fid := 23) (first := #[]) (captured := #[]) (Post := fun u h => Tells h c a b i (rgtP c (datesL c a b)) u) rfl (hoff _ _ _ rfl) (by simp (disch := first | omega | decide) only [rUz]; exact Rights_y S hoff gB vA c (hcA.mono hkB) ht0 wa wb a b hwa hwb (by omega) i) (Nat.le_of_ble_eq_true rfl) ?_
  rintro u g2 hkC ⟨rv, rfl, rok, rno⟩
  refine ⟨?_, ?_⟩
  · try simp (disch := first | decide | rfl) only [again_nil, again_skip, again_free]
  simp (disch := first | omega | decide) only [rUz, rDz, infoL, Nat.reduceSub, tup0, tup1]
  have hj3 := hjA.trans (hkB.trans hkC)
  have st2 := hkA.trans (hkB.trans hkC)
  clear hcA hwa hwb hjA hyA hkA hkB hx2 hy2 hm2 hkC
  have hm3 := hk1.trans hj3
  have hx3 := (hj3.get hn3).trans hb3
  have hy3 := (hj3.get hn4).trans hb4
  repeat refine S.seq ?_
  refine S.region ?_
  simp (disch := first | omega | decide) only [rUz, hx3, hy3, part_0 pA (coV_len c.hs v), prU2]
  refine wr_brings (fid := 16) (first := #[]) (captured := #[]) (Post := fun u _ => u = iv (askedZ c a b)) rfl (hoff _ _ _ rfl) (by simp (disch := first | omega | decide) only [rUz]; exact asked_y S hoff _ v c (hc.mono hm3) ht0 ua ub a b (hua.mono hm3) (hub.mono hm3)) ?_
  rintro u g7 hk7 rfl
  have hj7 := hj3.trans hk7
  have hm7 := hk1.trans hj7
  have hx7 := (hj7.get hn3).trans hb3
  have hy7 := (hj7.get hn4).trans hb4
  clear hx3 hy3
  have lnl : ∀ (t : T Value) (h1 : AHeap) (o : Oper), rLen Tryz.prog t h1 o 22 (.slice none 0 0) = some (iv (0 : Int)) := fun t h1 o => iv_len (h := h0) (l := []) (.inl ⟨rfl, .inl rfl⟩) t h1 o
  have l3 := fun t h1 o => row_len (hc.mono hm7).dv isrD t h1 o
  have z00 : decide ((0 : Int) + 0 + 0 = 0) = true := rfl
  have hd7 : (c.dv.length : Int) ≤ 7 := by
    unfold thinB at ht0
    simp only [Bool.and_eq_true, decide_eq_true_eq] at ht0
    exact ht0.2.2.1
  simp (disch := first | omega | decide) only [rUz]
  by_cases hz : askedZ c a b = 0
  rotate_left
  · have hw : tellZ c a b i = askedZ c a b := if_neg hz
    obtain rfl := pno (by rw [hw]; exact hz)
    obtain rfl := kno (by rw [hw]; exact hz)
    obtain rfl := rno (by rw [hw]; exact hz)
    repeat refine S.seq ?_
    refine S.region ?_
    simp (disch := first | omega | decide) only [rUz, decide_eq_false hz]
    repeat refine S.seq ?_
    refine S.cond (v := false) rfl (fun e => by cases e) (fun _ => ?_)
    repeat refine S.seq ?_
    refine S.skip ?_
    simp (disch := first | omega | decide) only [rUz]
    repeat refine S.seq ?_
    refine S.region ?_
    simp (disch := first | omega | decide) only [rUz, decide_eq_false hz, Bool.not_false]
    repeat refine S.seq ?_
    refine S.cond (v := true) rfl (fun _ => ?_) (fun e => by cases e)
    repeat refine S.seq ?_
    refine S.region ?_
    simp (disch := first | omega | decide) only [rUz, hw, lnl, decide_true, z00]
    refine awake ?_
    simp (disch := first | omega | decide) only [rUz]
    refine S.ret ?_
    try simp only [seqK_ret, blockK_ret]
    subst hF
    simp only [finish, endMarks]
    rw [show Tryz.f5.results.toList = [.tmp 6] from rfl]
    simp (disch := first | omega | decide) only [resA, ev_tmp, tget_ne, tget_eq, get_ne, get_eq, upd_eq, upd_ne, ag_eq, ag_ne, result1]
    exact hKr _ hm7
  repeat refine S.seq ?_
  refine S.region ?_
  simp (disch := first | omega | decide) only [rUz, hz, decide_true, hx7, fieldAddr_ptr fA3 lrD, qrD, co3, l3]
  refine wr_brings (fid := 17) (first := #[]) (captured := #[]) (Post := fun u h => u = .bool (inB i 0 ((c.dv.length : Int) - 1)) ∧ h = g7) rfl (hoff _ _ _ rfl) (by simp (disch := first | omega | decide) only [rUz]; exact in_y S _ i 0 _) ?_
  rintro u g8 - ⟨rfl, rfl⟩
  simp (disch := first | omega | decide) only [rUz, un_not]
  cases hin : inB i 0 ((c.dv.length : Int) - 1) with
  | false =>
    have hw : tellZ c a b i = 2 := by unfold tellZ; rw [if_pos hz, hin]; rfl
    obtain rfl := pno (by rw [hw]; decide)
    obtain rfl := kno (by rw [hw]; decide)
    obtain rfl := rno (by rw [hw]; decide)
    simp (disch := first | omega | decide) only [rUz, hin, Bool.not_false]
    repeat refine S.seq ?_
    refine S.cond (v := true) rfl (fun _ => ?_) (fun e => by cases e)
    repeat refine S.seq ?_
    refine S.region ?_
    simp (disch := first | omega | decide) only [rUz]
    repeat refine S.seq ?_
    refine S.region ?_
    simp (disch := first | omega | decide) only [rUz, show (!decide ((2 : Int) = 0)) = true from rfl]
    repeat refine S.seq ?_
    refine S.cond (v := true) rfl (fun _ => ?_) (fun e => by cases e)
    repeat refine S.seq ?_
    refine S.region ?_
    simp (disch := first | omega | decide) only [rUz, hw, lnl, decide_true, z00]
    refine awake ?_
    simp (disch := first | omega | decide) only [rUz]
    refine S.ret ?_
    try simp only [seqK_ret, blockK_ret]
    subst hF
    simp only [finish, endMarks]
    rw [show Tryz.f5.results.toList = [.tmp 6] from rfl]
    simp (disch := first | omega | decide) only [resA, ev_tmp, tget_ne, tget_eq, get_ne, get_eq, upd_eq, upd_ne, ag_eq, ag_ne, result1]
    exact hKr _ hm7
  | true =>
  have hw : tellZ c a b i = 0 := by unfold tellZ; rw [if_pos hz, hin]; rfl
  obtain ⟨hz0, hdt⟩ := asked0 hz
  have hv := Val.of_fault hz0
  obtain ⟨d, hdd, hp⟩ := pok hw
  obtain ⟨d', hd', hk⟩ := kok hw
  obtain rfl : d = d' := Option.some.inj (hdd.symm.trans hd')
  obtain ⟨d', hd'', hr⟩ := rok hw
  obtain rfl : d = d' := Option.some.inj (hdd.symm.trans hd'')
  clear hd' hd'' pok kok rok pno kno rno
  have hl : a.length = c.tr.length ∧ b.length = c.tr.length := by
    have hx := hdt
    rw [datedB, Bool.and_eq_true] at hx
    exact lens_iff.1 hx.1
  rw [pay_eq hv] at hp
  rw [clm_eq hv] at hk
  rw [rgt_eq hv hl.1 hl.2] at hr
  have hdo := dv_ok hz0 (List.mem_of_getElem? hdd)
  have hi := inB_iff.1 hin
  obtain ⟨n, hn⟩ : ∃ n : Nat, i = (n : Int) := ⟨i.toNat, by omega⟩
  subst hn
  rw [Int.toNat_natCast] at hdd
  have hhl := hv.held
  have hh4 := hv.h4
  have htl := hv.tl
  have lp : (paidL c a b d).length ≤ 1000000 := by unfold paidL; rw [muls_len]; unfold heldL; rw [heldFrom_len]; omega
  have lk : (clmL c a b d).length ≤ 1000000 := by rw [clmL_len hl.1 hl.2]; omega
  have lr : (rgtL c a d).length ≤ 1000000 := by unfold rgtL; rw [rgtFrom_len]; omega
  have hp7 := ((hp.mono st1).mono st2).mono hk7
  have hk7' := (hk.mono st2).mono hk7
  have hr7 := hr.mono hk7
  simp (disch := first | omega | decide) only [rUz, hin, Bool.not_true]
  repeat refine S.seq ?_
  refine S.cond (v := false) rfl (fun e => by cases e) (fun _ => ?_)
  repeat refine S.seq ?_
  refine S.skip ?_
  simp (disch := first | omega | decide) only [rUz]
  repeat refine S.seq ?_
  refine S.region ?_
  simp (disch := first | omega | decide) only [rUz, decide_true, Bool.not_true]
  repeat refine S.seq ?_
  refine S.cond (v := false) rfl (fun e => by cases e) (fun _ => ?_)
  repeat refine S.seq ?_
  refine S.skip ?_
  simp (disch := first | omega | decide) only [rUz]
  obtain ⟨b', f', ro', cells', q1, q2, q3, q4, q5, _⟩ := row_idx (hc.mono hm7).dv slrD srD hdd
  have qp := part_at prD q4 q5
  repeat refine S.seq ?_
  refine S.region ?_
  simp (disch := first | omega | decide) only [rUz, hx7, fieldAddr_ptr fA3 lrD, qrD, co3, q1, q3, qp, wr_alloc zrD]
  refine wr_storeN (B := g8.nx) (c := [iv 0, iv 0, iv 0]) (fam := g8.nx) (k := g8.nx) (l := c3 d) (by simp (disch := first | omega | decide) only [rUz]) (by simp (disch := first | omega | decide) only [rUz]) srD (by omega) rfl (ag_eq rfl) (af_eq rfl) rfl ?_
  have hkX : Kp g8 ((g8.add [iv 0, iv 0, iv 0]).upd g8.nx (c3 d) g8.nx) := Kp.refl.add.upd (Nat.le_refl _)
  have hg14 : ((g8.add [iv 0, iv 0, iv 0]).upd g8.nx (c3 d) g8.nx).bl.get g8.nx = some (.cells (c3 d) g8.nx false) := upd_eq _ _ _
  have hn14 : g8.nx < ((g8.add [iv 0, iv 0, iv 0]).upd g8.nx (c3 d) g8.nx).nx := Nat.lt_succ_self _
  simp (disch := first | omega | decide) only [rUz]
  generalize (g8.add [iv 0, iv 0, iv 0]).upd g8.nx (c3 d) g8.nx = G at hkX hg14 hn14 ⊢
  generalize g8.nx = B14 at hg14 hn14 ⊢
  have hjX := hj7.trans hkX
  have hmX := hk1.trans hjX
  have hxX := (hjX.get hn3).trans hb3
  have hyX := (hjX.get hn4).trans hb4
  repeat refine S.seq ?_
  refine S.region ?_
  simp (disch := first | omega | decide) only [rUz, hw, decide_true, hxX, hyX, hg14, p58 d, part_0 pA (coV_len c.hs v), prU2]
  refine wr_brings (fid := 25) (first := #[]) (captured := #[]) (Post := fun u h => IAt h u (paidL c a b d)) rfl (hoff _ _ _ rfl) (by simp (disch := first | omega | decide) only [rUz]; exact rpaid_y S hoff G v c (hc.mono hmX) hv ua ub a b (hua.mono hmX) (hub.mono hmX) hdt d (by omega) hdo.2.2.1 hdo.2.2.2.1 hdo.2.2.2.2) ?_
  rintro u e1 he1 hI
  simp (disch := first | omega | decide) only [rUz]
  refine wr_brings (fid := 24) (first := #[]) (captured := #[]) (Post := fun u _ => u = .bool true) rfl (hoff _ _ _ rfl) (by simp (disch := first | omega | decide) only [rUz]; exact same_y S hoff e1 pv u (paidL c a b d) ((hp7.mono hkX).mono he1) hI lp) ?_
  rintro u' e2 he2 rfl
  have hjY := hjX.trans (he1.trans he2)
  have hmY := hk1.trans hjY
  have hxY := (hjY.get hn3).trans hb3
  have hyY := (hjY.get hn4).trans hb4
  have hgY := ((he1.trans he2).get hn14).trans hg14
  have hnY := Nat.lt_of_lt_of_le hn14 (he1.trans he2).1
  simp (disch := first | omega | decide) only [rUz, hw, decide_true, hxY, hyY, hgY, p58 d, part_0 pA (coV_len c.hs v), prU2]
  refine wr_brings (fid := 26) (first := #[]) (captured := #[]) (Post := fun u h => IAt h u (clmL c a b d)) rfl (hoff _ _ _ rfl) (by simp (disch := first | omega | decide) only [rUz]; exact rclaims_y S hoff e2 v c (hc.mono hmY) hv ua ub a b (hua.mono hmY) (hub.mono hmY) hdt d hdo.2.2.1 hdo.2.2.2.1 hdo.2.2.2.2) ?_
  rintro u2 e3 he3 hI2
  simp (disch := first | omega | decide) only [rUz]
  refine wr_brings (fid := 24) (first := #[]) (captured := #[]) (Post := fun u _ => u = .bool true) rfl (hoff _ _ _ rfl) (by simp (disch := first | omega | decide) only [rUz]; exact same_y S hoff e3 kv u2 (clmL c a b d) ((((hk7'.mono hkX).mono he1).mono he2).mono he3) hI2 lk) ?_
  rintro u' e4 he4 rfl
  have hjZ := hjY.trans (he3.trans he4)
  have hmZ := hk1.trans hjZ
  have hxZ := (hjZ.get hn3).trans hb3
  have hyZ := (hjZ.get hn4).trans hb4
  have hgZ := ((he3.trans he4).get hnY).trans hgY
  simp (disch := first | omega | decide) only [rUz, hw, decide_true, hxZ, hyZ, hgZ, p58 d, part_0 pA (coV_len c.hs v), prU2]
  refine wr_brings (fid := 27) (first := #[]) (captured := #[]) (Post := fun u h => IAt h u (rgtL c a d)) rfl (hoff _ _ _ rfl) (by simp (disch := first | omega | decide) only [rUz]; exact rrights_y S hoff e4 v c (hc.mono hmZ) hv ua ub a b (hua.mono hmZ) hdt d hdo.2.2.1 hdo.2.2.2.1 hdo.2.2.2.2) ?_
  rintro u3 e5 he5 hI3
  simp (disch := first | omega | decide) only [rUz]
  refine wr_brings (fid := 24) (first := #[]) (captured := #[]) (Post := fun u _ => u = .bool true) rfl (hoff _ _ _ rfl) (by simp (disch := first | omega | decide) only [rUz]; exact same_y S hoff e5 rv u3 (rgtL c a d) ((((((hr7.mono hkX).mono he1).mono he2).mono he3).mono he4).mono he5) hI3 lr) ?_
  rintro u' e6 he6 rfl
  simp (disch := first | omega | decide) only [rUz]
  refine awake ?_
  simp (disch := first | omega | decide) only [rUz]
  refine S.ret ?_
  try simp only [seqK_ret, blockK_ret]
  subst hF
  simp only [finish, endMarks]
  rw [show Tryz.f5.results.toList = [.tmp 6] from rfl]
  simp (disch := first | omega | decide) only [resA, ev_tmp, tget_ne, tget_eq, get_ne, get_eq, upd_eq, upd_ne, ag_eq, ag_ne, result1]
  exact hKr _ (hmZ.trans (he5.trans he6))
end Go.Proofs.Cp
