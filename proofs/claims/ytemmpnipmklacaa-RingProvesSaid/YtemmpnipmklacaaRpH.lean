import Derived.Test.YtemmpnipmklacaaRpG
namespace Go.Proofs.Rg
open Go Go.Ev
set_option linter.unusedSimpArgs false

/-! ## What makes a ring -/
def cAt (cs : List C4) (i : Int) : C4 := cs.getD i.toNat (0, 0, 0, 0)
def stepOK (cs : List C4) (l : List Int) (k : Nat) : Bool :=
  decide ((cAt cs (l.getD k 0)).2.1 = (cAt cs (l.getD ((k + 1) % l.length) 0)).1) && !((l.take k).any fun j => decide ((cAt cs j).1 = (cAt cs (l.getD k 0)).1))
def ringB (cs : List C4) (l : List Int) : Bool := (List.range l.length).all (stepOK cs l)
def inC (cs : List C4) (i : Int) : Bool := inB i 0 ((cs.length : Int) - 1)
def isRingP (cs : List C4) (r : R2) : Bool := !(decide ((r.1.length : Int) < 2) || decide (r.2 < 1)) && (r.1.all (inC cs) && ringB cs r.1)
theorem range_drop_all (q : Nat → Bool) (n k : Nat) (hk : k < n) : ((List.range n).drop k).all q = (q k && ((List.range n).drop (k + 1)).all q) := by
  rw [List.drop_eq_getElem_cons (by simpa using hk), List.all_cons, List.getElem_range]
theorem cAt_get {cs : List C4} {i : Int} (h : inC cs i = true) : ∃ j : Nat, i = (j : Int) ∧ cs[j]? = some (cAt cs i) := by
  simp only [inC, inB, Bool.and_eq_true, decide_eq_true_eq] at h
  refine ⟨i.toNat, by omega, ?_⟩
  unfold cAt
  have : i.toNat < cs.length := by omega
  rw [List.getD_eq_getElem?_getD, List.getElem?_eq_getElem this]; rfl

variable {pr : Prim} {R : ExT}
/-! ## Regions of isRing -/
def findReg' (n : Nat) : Code → Option (Array Oper)
  | .region id ops _ => if id = n then some ops else none
  | .seq a b => (findReg' n a).or (findReg' n b)
  | .cond _ a b => (findReg' n a).or (findReg' n b)
  | .block _ b => findReg' n b
  | .loop b => findReg' n b
  | _ => none
noncomputable def rOps (n : Nat) : Array Oper := (findReg' n ((Try.f54.body).getD .skip)).getD #[]
theorem at_ops' {R : ExT} {n : Nat} {rd : Option Nat} {id : Nat} {dr : Bool} {t : T Value} {h : AHeap} {ds : List Nat} {K : KT} {o o' : Array Oper} (e : o = o') (k : R n rd (.region id o dr) t h ds K = true) : R n rd (.region id o' dr) t h ds K = true := by
  subst e; exact k
theorem tmod_nat (a b : Nat) : ((a : Int) + 1).tmod (b : Int) = (((a + 1) % b : Nat) : Int) := by
  rw [show ((a : Int) + 1) = ((a + 1 : Nat) : Int) from rfl, Int.ofNat_tmod]
set_option maxHeartbeats 32000000 in
theorem pair_y (S : Ev.Steps Try.prog pr R) (h : AHeap) (hs : Int) (cv s : Value) (am : Int) (cs : List C4) (hc : CAt h cv cs) (l : List Int) (hl : IAt h s l) (hl2 : 2 ≤ l.length) (hl8 : l.length ≤ 8) (B2 B3 : Nat) (h2n : B2 < h.nx) (h3n : B3 < h.nx) (hb2 : h.bl.get B2 = some (.cells [iv hs, cv] B2 false)) (hb3 : h.bl.get B3 = some (.cells [s, iv am] B3 false))
    (k i j : Nat) (hk : k < l.length) (c d : C4) (hi : cs[i]? = some c) (hj : l[(k + 1) % l.length]? = some (j : Int)) (hd : cs[j]? = some d) (t : T Value) (t2 : tget t 2 = ptr0 B2) (t3 : tget t 3 = ptr0 B3) (t5 : tget t 5 = iv (l.length : Int)) (t7 : tget t 7 = iv (k : Int)) (t8 : tget t 8 = iv (i : Int)) (K : KT)
    (hJ : ∀ (t' : T Value) (h2 : AHeap), Kp h h2 → h2.bl.get h.nx = some (.cells (cc c) h.nx false) → h2.bl.get (h.nx + 1) = some (.cells (cc d) (h.nx + 1) false) → h.nx + 2 ≤ h2.nx → (∀ i, i < 37 → i ≠ 9 → i ≠ 10 → tget t' i = tget t i) → tget t' 9 = ptr0 h.nx → tget t' 10 = ptr0 (h.nx + 1) → K .normal t' h2 [] = true) :
    R 69 none (.region 8 (rOps 8) true) t h [] K = true := by
  have hvcv : veq cv cv = true := by
    rcases hc with ⟨_, rfl | rfl⟩ | ⟨b, cap, f, ro, _, rfl, _⟩
    · simp only [veq]
    · simp only [emptyS, veq]
    · simp only [veq, Nat.beq_refl, Bool.and_self]
  have hvs := hl.veq
  have hvc : ∀ c : C4, veq (.agg ⟨cc c⟩) (.agg ⟨cc c⟩) = true := fun c => by simp only [cc, veq, veqA, veqL, beqI_eq, beqKind, decide_true, Bool.and_self]
  obtain ⟨b, fb, ro, cells, q1, q2, q3, q4, q5, _⟩ := hc.idx slB sL hi
  have qp := part_cc pL q4 q5
  obtain ⟨b', fb', ro', cells', u1, u2, u3, u4, u5, _⟩ := hc.idx slB sL hd
  have up := part_cc pL u4 u5
  have hm : (k + 1) % l.length < l.length := Nat.mod_lt _ (by omega)
  obtain ⟨bl, fl, rl, w1, w2, w3, w4⟩ := hl.idx slI s3' hm
  rw [List.getElem?_eq_getElem hm] at hj
  rw [Option.some.inj hj] at w4
  have htm := tmod_nat k l.length
  generalize (k + 1) % l.length = m at w1 w4 htm
  simp only [rOps, Try.f54, Option.getD_some, Option.getD_none, findReg', ↓reduceIte, Nat.reduceEqDiff, Option.or_none, Option.none_or, Option.or_some, reduceCtorEq]
  refine S.drawnM [(false, 0), (false, 1), (false, 0), (false, 7), (false, 15), (false, 0), (false, 32), (false, 0), (false, 128), (false, 0), (false, 512), (false, 0), (false, 3584), (false, 8064), (false, 16256), (false, 32736), (false, 65504), (true, 0), (true, 0), (true, 393247), (true, 1048575)] 393216 [17, 18] (by kernel_rfl) (by kernel_rfl) (by kernel_rfl) (by kernel_rfl) (by kernel_rfl) ?_
  generalize hJJ : (fun (t : T Value) (h : AHeap) => _) = KJ
  have hJ' : ∀ (t' : T Value) (h2 : AHeap), Kp h h2 → h2.bl.get h.nx = some (.cells (cc c) h.nx false) → h2.bl.get (h.nx + 1) = some (.cells (cc d) (h.nx + 1) false) → h.nx + 2 ≤ h2.nx → (∀ i, i < 37 → i ≠ 9 → i ≠ 10 → tget t' i = tget t i) → tget t' 9 = ptr0 h.nx → tget t' 10 = ptr0 (h.nx + 1) → KJ t' h2 = true := by
    intro t' h2 a1 a2 a3 a4 a5 a6 a7
    subst hJJ
    exact hJ t' h2 a1 a2 a3 a4 a5 a6 a7
  clear hJJ hJ
  simp (disch := first | omega | (simp only [add_nx, upd_nx, res_nx, putAt_nx] <;> omega) | decide) only [rUz, ↓reduceIte, Nat.reduceEqDiff, Nat.reduceAdd, rMz, infoL, Nat.reduceSub, t2, t3, t5, t7, t8, hb2, hb3, res_bl, fieldAddr_ptr fB1 sBc, pBc, fieldAddr_ptr fRp0 sI1, pI1, q1, q3, qp, u1, u3, up, w1, w3, w4, p3]
  rw [bin_rem (i := (k : Int) + 1) (j := (l.length : Int)) (by simp (disch := first | omega | (simp only [add_nx, upd_nx, res_nx, putAt_nx] <;> omega) | decide) only [rUz, ↓reduceIte, Nat.reduceEqDiff, Nat.reduceAdd]) (by simp (disch := first | omega | (simp only [add_nx, upd_nx, res_nx, putAt_nx] <;> omega) | decide) only [rUz, ↓reduceIte, Nat.reduceEqDiff, Nat.reduceAdd, t5]) (by omega), htm]
  simp (disch := first | omega | (simp only [add_nx, upd_nx, res_nx, putAt_nx] <;> omega) | decide) only [rUz, ↓reduceIte, Nat.reduceEqDiff, Nat.reduceAdd, rMz, infoL, Nat.reduceSub, t2, t3, t5, t7, t8, hb2, hb3, res_bl, fieldAddr_ptr fB1 sBc, pBc, fieldAddr_ptr fRp0 sI1, pI1, q1, q3, qp, u1, u3, up, w1, w3, w4, p3]
  refine dm_two rfl rfl ?_ ?_
  · skip
    refine dmW_alloc (r := h.nx) (z := .agg ⟨[iv 0, iv 0, iv 0, iv 0]⟩) rfl zL (by simp (disch := first | omega | (simp only [add_nx, upd_nx, res_nx, putAt_nx] <;> omega) | decide) only [putAt_fn, res_fn, res_fe]) (Nat.le_of_ble_eq_true rfl) ?_ ?_
    · try simp (disch := first | decide | rfl) only [again_nil, again_skip, again_free]
      rw [again_same (v := .agg ⟨cc d⟩) (by simp (disch := first | omega | (simp only [add_nx, upd_nx, res_nx, putAt_nx] <;> omega) | decide) only [rUz, ↓reduceIte, Nat.reduceEqDiff, Nat.reduceAdd, rDz, infoL, Nat.reduceSub, putAt_ne, res_bl, hb2, hb3, q1, q3, qp, u1, u3, up, w1, w3, w4, p3, fieldAddr_ptr fB1 sBc, pBc, fieldAddr_ptr fRp0 sI1, pI1]) (hvc d)]
      try simp (disch := first | decide | rfl) only [again_nil, again_skip, again_free]
      rw [again_same (v := iv (j : Int)) (by simp (disch := first | omega | (simp only [add_nx, upd_nx, res_nx, putAt_nx] <;> omega) | decide) only [rUz, ↓reduceIte, Nat.reduceEqDiff, Nat.reduceAdd, rDz, infoL, Nat.reduceSub, putAt_ne, res_bl, hb2, hb3, q1, q3, qp, u1, u3, up, w1, w3, w4, p3, fieldAddr_ptr fB1 sBc, pBc, fieldAddr_ptr fRp0 sI1, pI1]) veq_int]
      try simp (disch := first | decide | rfl) only [again_nil, again_skip, again_free]
      rw [again_same (v := s) (by simp (disch := first | omega | (simp only [add_nx, upd_nx, res_nx, putAt_nx] <;> omega) | decide) only [rUz, ↓reduceIte, Nat.reduceEqDiff, Nat.reduceAdd, rDz, infoL, Nat.reduceSub, putAt_ne, res_bl, hb2, hb3, q1, q3, qp, u1, u3, up, w1, w3, w4, p3, fieldAddr_ptr fB1 sBc, pBc, fieldAddr_ptr fRp0 sI1, pI1]) hvs]
      try simp (disch := first | decide | rfl) only [again_nil, again_skip, again_free]
      rw [again_same (v := cv) (by simp (disch := first | omega | (simp only [add_nx, upd_nx, res_nx, putAt_nx] <;> omega) | decide) only [rUz, ↓reduceIte, Nat.reduceEqDiff, Nat.reduceAdd, rDz, infoL, Nat.reduceSub, putAt_ne, res_bl, hb2, hb3, q1, q3, qp, u1, u3, up, w1, w3, w4, p3, fieldAddr_ptr fB1 sBc, pBc, fieldAddr_ptr fRp0 sI1, pI1]) hvcv]
      try simp (disch := first | decide | rfl) only [again_nil, again_skip, again_free]
      rw [again_same (v := .agg ⟨cc c⟩) (by simp (disch := first | omega | (simp only [add_nx, upd_nx, res_nx, putAt_nx] <;> omega) | decide) only [rUz, ↓reduceIte, Nat.reduceEqDiff, Nat.reduceAdd, rDz, infoL, Nat.reduceSub, putAt_ne, res_bl, hb2, hb3, q1, q3, qp, u1, u3, up, w1, w3, w4, p3, fieldAddr_ptr fB1 sBc, pBc, fieldAddr_ptr fRp0 sI1, pI1]) (hvc c)]
      try simp (disch := first | decide | rfl) only [again_nil, again_skip, again_free]
      rw [again_same (v := cv) (by simp (disch := first | omega | (simp only [add_nx, upd_nx, res_nx, putAt_nx] <;> omega) | decide) only [rUz, ↓reduceIte, Nat.reduceEqDiff, Nat.reduceAdd, rDz, infoL, Nat.reduceSub, putAt_ne, res_bl, hb2, hb3, q1, q3, qp, u1, u3, up, w1, w3, w4, p3, fieldAddr_ptr fB1 sBc, pBc, fieldAddr_ptr fRp0 sI1, pI1]) hvcv]
      try simp (disch := first | decide | rfl) only [again_nil, again_skip, again_free]
    simp (disch := first | omega | (simp only [add_nx, upd_nx, res_nx, putAt_nx] <;> omega) | decide) only [rUz, ↓reduceIte, Nat.reduceEqDiff, Nat.reduceAdd, rMz, infoL, Nat.reduceSub]
    refine dm_one rfl rfl ?_
    refine dmW_alloc (r := (h.nx + 1)) (z := .agg ⟨[iv 0, iv 0, iv 0, iv 0]⟩) rfl zL (by simp (disch := first | omega | (simp only [add_nx, upd_nx, res_nx, putAt_nx] <;> omega) | decide) only [putAt_fn, res_fn, res_fe]) (Nat.le_of_ble_eq_true rfl) ?_ ?_
    · try simp (disch := first | decide | rfl) only [again_nil, again_skip, again_free]
      rw [again_same (v := .agg ⟨cc d⟩) (by simp (disch := first | omega | (simp only [add_nx, upd_nx, res_nx, putAt_nx] <;> omega) | decide) only [rUz, ↓reduceIte, Nat.reduceEqDiff, Nat.reduceAdd, rDz, infoL, Nat.reduceSub, putAt_ne, res_bl, hb2, hb3, q1, q3, qp, u1, u3, up, w1, w3, w4, p3, fieldAddr_ptr fB1 sBc, pBc, fieldAddr_ptr fRp0 sI1, pI1]) (hvc d)]
      try simp (disch := first | decide | rfl) only [again_nil, again_skip, again_free]
      rw [again_same (v := iv (j : Int)) (by simp (disch := first | omega | (simp only [add_nx, upd_nx, res_nx, putAt_nx] <;> omega) | decide) only [rUz, ↓reduceIte, Nat.reduceEqDiff, Nat.reduceAdd, rDz, infoL, Nat.reduceSub, putAt_ne, res_bl, hb2, hb3, q1, q3, qp, u1, u3, up, w1, w3, w4, p3, fieldAddr_ptr fB1 sBc, pBc, fieldAddr_ptr fRp0 sI1, pI1]) veq_int]
      try simp (disch := first | decide | rfl) only [again_nil, again_skip, again_free]
      rw [again_same (v := s) (by simp (disch := first | omega | (simp only [add_nx, upd_nx, res_nx, putAt_nx] <;> omega) | decide) only [rUz, ↓reduceIte, Nat.reduceEqDiff, Nat.reduceAdd, rDz, infoL, Nat.reduceSub, putAt_ne, res_bl, hb2, hb3, q1, q3, qp, u1, u3, up, w1, w3, w4, p3, fieldAddr_ptr fB1 sBc, pBc, fieldAddr_ptr fRp0 sI1, pI1]) hvs]
      try simp (disch := first | decide | rfl) only [again_nil, again_skip, again_free]
      rw [again_same (v := cv) (by simp (disch := first | omega | (simp only [add_nx, upd_nx, res_nx, putAt_nx] <;> omega) | decide) only [rUz, ↓reduceIte, Nat.reduceEqDiff, Nat.reduceAdd, rDz, infoL, Nat.reduceSub, putAt_ne, res_bl, hb2, hb3, q1, q3, qp, u1, u3, up, w1, w3, w4, p3, fieldAddr_ptr fB1 sBc, pBc, fieldAddr_ptr fRp0 sI1, pI1]) hvcv]
      try simp (disch := first | decide | rfl) only [again_nil, again_skip, again_free]
      rw [again_same (v := .agg ⟨cc c⟩) (by simp (disch := first | omega | (simp only [add_nx, upd_nx, res_nx, putAt_nx] <;> omega) | decide) only [rUz, ↓reduceIte, Nat.reduceEqDiff, Nat.reduceAdd, rDz, infoL, Nat.reduceSub, putAt_ne, res_bl, hb2, hb3, q1, q3, qp, u1, u3, up, w1, w3, w4, p3, fieldAddr_ptr fB1 sBc, pBc, fieldAddr_ptr fRp0 sI1, pI1]) (hvc c)]
      try simp (disch := first | decide | rfl) only [again_nil, again_skip, again_free]
      rw [again_same (v := cv) (by simp (disch := first | omega | (simp only [add_nx, upd_nx, res_nx, putAt_nx] <;> omega) | decide) only [rUz, ↓reduceIte, Nat.reduceEqDiff, Nat.reduceAdd, rDz, infoL, Nat.reduceSub, putAt_ne, res_bl, hb2, hb3, q1, q3, qp, u1, u3, up, w1, w3, w4, p3, fieldAddr_ptr fB1 sBc, pBc, fieldAddr_ptr fRp0 sI1, pI1]) hvcv]
      try simp (disch := first | decide | rfl) only [again_nil, again_skip, again_free]
    simp (disch := first | omega | (simp only [add_nx, upd_nx, res_nx, putAt_nx] <;> omega) | decide) only [rUz, ↓reduceIte, Nat.reduceEqDiff, Nat.reduceAdd, rMz, infoL, Nat.reduceSub]
    refine dm_one rfl rfl ?_
    refine dmW_none rfl rfl (aw_storeN (B := h.nx) (ls := cc c) (by simp (disch := first | omega | (simp only [add_nx, upd_nx, res_nx, putAt_nx] <;> omega) | decide) only [rUz, ↓reduceIte, Nat.reduceEqDiff, Nat.reduceAdd, rMz, infoL, Nat.reduceSub]) (by simp (disch := first | omega | (simp only [add_nx, upd_nx, res_nx, putAt_nx] <;> omega) | decide) only [rUz, ↓reduceIte, Nat.reduceEqDiff, Nat.reduceAdd, rMz, infoL, Nat.reduceSub]) sL (by omega) rfl (by simp (disch := first | omega | (simp only [add_nx, upd_nx, res_nx, putAt_nx] <;> omega) | decide) only [putAt_eq, putAt_ne]; rfl) (by simp (disch := first | omega | (simp only [add_nx, upd_nx, res_nx, putAt_nx] <;> omega) | decide) only [putAt_fe, putAt_fn]; rfl) rfl) ?_ ?_
    · try simp (disch := first | decide | rfl) only [again_nil, again_skip, again_free]
      rw [again_same (v := .agg ⟨cc d⟩) (by simp (disch := first | omega | (simp only [add_nx, upd_nx, res_nx, putAt_nx] <;> omega) | decide) only [rUz, ↓reduceIte, Nat.reduceEqDiff, Nat.reduceAdd, rDz, infoL, Nat.reduceSub, upd_ne, putAt_ne, res_bl, hb2, hb3, q1, q3, qp, u1, u3, up, w1, w3, w4, p3, fieldAddr_ptr fB1 sBc, pBc, fieldAddr_ptr fRp0 sI1, pI1]) (hvc d)]
      try simp (disch := first | decide | rfl) only [again_nil, again_skip, again_free]
      rw [again_same (v := iv (j : Int)) (by simp (disch := first | omega | (simp only [add_nx, upd_nx, res_nx, putAt_nx] <;> omega) | decide) only [rUz, ↓reduceIte, Nat.reduceEqDiff, Nat.reduceAdd, rDz, infoL, Nat.reduceSub, upd_ne, putAt_ne, res_bl, hb2, hb3, q1, q3, qp, u1, u3, up, w1, w3, w4, p3, fieldAddr_ptr fB1 sBc, pBc, fieldAddr_ptr fRp0 sI1, pI1]) veq_int]
      try simp (disch := first | decide | rfl) only [again_nil, again_skip, again_free]
      rw [again_same (v := s) (by simp (disch := first | omega | (simp only [add_nx, upd_nx, res_nx, putAt_nx] <;> omega) | decide) only [rUz, ↓reduceIte, Nat.reduceEqDiff, Nat.reduceAdd, rDz, infoL, Nat.reduceSub, upd_ne, putAt_ne, res_bl, hb2, hb3, q1, q3, qp, u1, u3, up, w1, w3, w4, p3, fieldAddr_ptr fB1 sBc, pBc, fieldAddr_ptr fRp0 sI1, pI1]) hvs]
      try simp (disch := first | decide | rfl) only [again_nil, again_skip, again_free]
      rw [again_same (v := cv) (by simp (disch := first | omega | (simp only [add_nx, upd_nx, res_nx, putAt_nx] <;> omega) | decide) only [rUz, ↓reduceIte, Nat.reduceEqDiff, Nat.reduceAdd, rDz, infoL, Nat.reduceSub, upd_ne, putAt_ne, res_bl, hb2, hb3, q1, q3, qp, u1, u3, up, w1, w3, w4, p3, fieldAddr_ptr fB1 sBc, pBc, fieldAddr_ptr fRp0 sI1, pI1]) hvcv]
      try simp (disch := first | decide | rfl) only [again_nil, again_skip, again_free]
    simp (disch := first | omega | (simp only [add_nx, upd_nx, res_nx, putAt_nx] <;> omega) | decide) only [rUz, ↓reduceIte, Nat.reduceEqDiff, Nat.reduceAdd, rMz, infoL, Nat.reduceSub]
    refine dm_one rfl rfl ?_
    refine dmW_none rfl rfl (aw_storeN (B := h.nx + 1) (ls := cc d) (by simp (disch := first | omega | (simp only [add_nx, upd_nx, res_nx, putAt_nx] <;> omega) | decide) only [rUz, ↓reduceIte, Nat.reduceEqDiff, Nat.reduceAdd, rMz, infoL, Nat.reduceSub]) (by simp (disch := first | omega | (simp only [add_nx, upd_nx, res_nx, putAt_nx] <;> omega) | decide) only [rUz, ↓reduceIte, Nat.reduceEqDiff, Nat.reduceAdd, rMz, infoL, Nat.reduceSub]) sL (by omega) rfl (by simp (disch := first | omega | (simp only [add_nx, upd_nx, res_nx, putAt_nx] <;> omega) | decide) only [upd_ne, putAt_eq, putAt_ne]; rfl) (by simp (disch := first | omega | (simp only [add_nx, upd_nx, res_nx, putAt_nx] <;> omega) | decide) only [upd_fams, putAt_fe, putAt_fn]; rfl) rfl) ?_ ?_
    · try simp (disch := first | decide | rfl) only [again_nil, again_skip, again_free]
    simp (disch := first | omega | (simp only [add_nx, upd_nx, res_nx, putAt_nx] <;> omega) | decide) only [rUz, ↓reduceIte, Nat.reduceEqDiff, Nat.reduceAdd, rMz, infoL, Nat.reduceSub]
    refine hJ' _ _ ?_ ?_ ?_ ?_ (fun i h1 h2 h3 => by simp (disch := omega) only [tget_ne]) ?_ ?_
    · exact (((((Kp.refl (h := h)).res.res).putAt (by omega)).putAt (by omega)).upd (by omega)).upd (by omega)
    · simp (disch := first | omega | (simp only [add_nx, upd_nx, res_nx, putAt_nx] <;> omega) | decide) only [upd_ne, upd_eq]
    · simp (disch := first | omega | (simp only [add_nx, upd_nx, res_nx, putAt_nx] <;> omega) | decide) only [upd_ne, upd_eq]
    · show h.nx + 2 ≤ h.nx + 1 + 1; omega
    all_goals (first | rfl | (simp (disch := first | omega | (simp only [add_nx, upd_nx, res_nx, putAt_nx] <;> omega) | decide) only [rUz, ↓reduceIte, Nat.reduceEqDiff, Nat.reduceAdd]; done) | (simp (disch := first | omega | (simp only [add_nx, upd_nx, res_nx, putAt_nx] <;> omega) | decide) only [rUz, ↓reduceIte, Nat.reduceEqDiff, Nat.reduceAdd]; rfl))
  · skip
    refine dmW_alloc (r := (h.nx + 1)) (z := .agg ⟨[iv 0, iv 0, iv 0, iv 0]⟩) rfl zL (by simp (disch := first | omega | (simp only [add_nx, upd_nx, res_nx, putAt_nx] <;> omega) | decide) only [putAt_fn, res_fn, res_fe]) (Nat.le_of_ble_eq_true rfl) ?_ ?_
    · try simp (disch := first | decide | rfl) only [again_nil, again_skip, again_free]
      rw [again_same (v := .agg ⟨cc d⟩) (by simp (disch := first | omega | (simp only [add_nx, upd_nx, res_nx, putAt_nx] <;> omega) | decide) only [rUz, ↓reduceIte, Nat.reduceEqDiff, Nat.reduceAdd, rDz, infoL, Nat.reduceSub, putAt_ne, res_bl, hb2, hb3, q1, q3, qp, u1, u3, up, w1, w3, w4, p3, fieldAddr_ptr fB1 sBc, pBc, fieldAddr_ptr fRp0 sI1, pI1]) (hvc d)]
      try simp (disch := first | decide | rfl) only [again_nil, again_skip, again_free]
      rw [again_same (v := iv (j : Int)) (by simp (disch := first | omega | (simp only [add_nx, upd_nx, res_nx, putAt_nx] <;> omega) | decide) only [rUz, ↓reduceIte, Nat.reduceEqDiff, Nat.reduceAdd, rDz, infoL, Nat.reduceSub, putAt_ne, res_bl, hb2, hb3, q1, q3, qp, u1, u3, up, w1, w3, w4, p3, fieldAddr_ptr fB1 sBc, pBc, fieldAddr_ptr fRp0 sI1, pI1]) veq_int]
      try simp (disch := first | decide | rfl) only [again_nil, again_skip, again_free]
      rw [again_same (v := s) (by simp (disch := first | omega | (simp only [add_nx, upd_nx, res_nx, putAt_nx] <;> omega) | decide) only [rUz, ↓reduceIte, Nat.reduceEqDiff, Nat.reduceAdd, rDz, infoL, Nat.reduceSub, putAt_ne, res_bl, hb2, hb3, q1, q3, qp, u1, u3, up, w1, w3, w4, p3, fieldAddr_ptr fB1 sBc, pBc, fieldAddr_ptr fRp0 sI1, pI1]) hvs]
      try simp (disch := first | decide | rfl) only [again_nil, again_skip, again_free]
      rw [again_same (v := cv) (by simp (disch := first | omega | (simp only [add_nx, upd_nx, res_nx, putAt_nx] <;> omega) | decide) only [rUz, ↓reduceIte, Nat.reduceEqDiff, Nat.reduceAdd, rDz, infoL, Nat.reduceSub, putAt_ne, res_bl, hb2, hb3, q1, q3, qp, u1, u3, up, w1, w3, w4, p3, fieldAddr_ptr fB1 sBc, pBc, fieldAddr_ptr fRp0 sI1, pI1]) hvcv]
      try simp (disch := first | decide | rfl) only [again_nil, again_skip, again_free]
      rw [again_same (v := .agg ⟨cc c⟩) (by simp (disch := first | omega | (simp only [add_nx, upd_nx, res_nx, putAt_nx] <;> omega) | decide) only [rUz, ↓reduceIte, Nat.reduceEqDiff, Nat.reduceAdd, rDz, infoL, Nat.reduceSub, putAt_ne, res_bl, hb2, hb3, q1, q3, qp, u1, u3, up, w1, w3, w4, p3, fieldAddr_ptr fB1 sBc, pBc, fieldAddr_ptr fRp0 sI1, pI1]) (hvc c)]
      try simp (disch := first | decide | rfl) only [again_nil, again_skip, again_free]
      rw [again_same (v := cv) (by simp (disch := first | omega | (simp only [add_nx, upd_nx, res_nx, putAt_nx] <;> omega) | decide) only [rUz, ↓reduceIte, Nat.reduceEqDiff, Nat.reduceAdd, rDz, infoL, Nat.reduceSub, putAt_ne, res_bl, hb2, hb3, q1, q3, qp, u1, u3, up, w1, w3, w4, p3, fieldAddr_ptr fB1 sBc, pBc, fieldAddr_ptr fRp0 sI1, pI1]) hvcv]
      try simp (disch := first | decide | rfl) only [again_nil, again_skip, again_free]
    simp (disch := first | omega | (simp only [add_nx, upd_nx, res_nx, putAt_nx] <;> omega) | decide) only [rUz, ↓reduceIte, Nat.reduceEqDiff, Nat.reduceAdd, rMz, infoL, Nat.reduceSub]
    refine dm_one rfl rfl ?_
    refine dmW_alloc (r := h.nx) (z := .agg ⟨[iv 0, iv 0, iv 0, iv 0]⟩) rfl zL (by simp (disch := first | omega | (simp only [add_nx, upd_nx, res_nx, putAt_nx] <;> omega) | decide) only [putAt_fn, res_fn, res_fe]) (Nat.le_of_ble_eq_true rfl) ?_ ?_
    · try simp (disch := first | decide | rfl) only [again_nil, again_skip, again_free]
      rw [again_same (v := .agg ⟨cc d⟩) (by simp (disch := first | omega | (simp only [add_nx, upd_nx, res_nx, putAt_nx] <;> omega) | decide) only [rUz, ↓reduceIte, Nat.reduceEqDiff, Nat.reduceAdd, rDz, infoL, Nat.reduceSub, putAt_ne, res_bl, hb2, hb3, q1, q3, qp, u1, u3, up, w1, w3, w4, p3, fieldAddr_ptr fB1 sBc, pBc, fieldAddr_ptr fRp0 sI1, pI1]) (hvc d)]
      try simp (disch := first | decide | rfl) only [again_nil, again_skip, again_free]
      rw [again_same (v := iv (j : Int)) (by simp (disch := first | omega | (simp only [add_nx, upd_nx, res_nx, putAt_nx] <;> omega) | decide) only [rUz, ↓reduceIte, Nat.reduceEqDiff, Nat.reduceAdd, rDz, infoL, Nat.reduceSub, putAt_ne, res_bl, hb2, hb3, q1, q3, qp, u1, u3, up, w1, w3, w4, p3, fieldAddr_ptr fB1 sBc, pBc, fieldAddr_ptr fRp0 sI1, pI1]) veq_int]
      try simp (disch := first | decide | rfl) only [again_nil, again_skip, again_free]
      rw [again_same (v := s) (by simp (disch := first | omega | (simp only [add_nx, upd_nx, res_nx, putAt_nx] <;> omega) | decide) only [rUz, ↓reduceIte, Nat.reduceEqDiff, Nat.reduceAdd, rDz, infoL, Nat.reduceSub, putAt_ne, res_bl, hb2, hb3, q1, q3, qp, u1, u3, up, w1, w3, w4, p3, fieldAddr_ptr fB1 sBc, pBc, fieldAddr_ptr fRp0 sI1, pI1]) hvs]
      try simp (disch := first | decide | rfl) only [again_nil, again_skip, again_free]
      rw [again_same (v := cv) (by simp (disch := first | omega | (simp only [add_nx, upd_nx, res_nx, putAt_nx] <;> omega) | decide) only [rUz, ↓reduceIte, Nat.reduceEqDiff, Nat.reduceAdd, rDz, infoL, Nat.reduceSub, putAt_ne, res_bl, hb2, hb3, q1, q3, qp, u1, u3, up, w1, w3, w4, p3, fieldAddr_ptr fB1 sBc, pBc, fieldAddr_ptr fRp0 sI1, pI1]) hvcv]
      try simp (disch := first | decide | rfl) only [again_nil, again_skip, again_free]
      rw [again_same (v := .agg ⟨cc c⟩) (by simp (disch := first | omega | (simp only [add_nx, upd_nx, res_nx, putAt_nx] <;> omega) | decide) only [rUz, ↓reduceIte, Nat.reduceEqDiff, Nat.reduceAdd, rDz, infoL, Nat.reduceSub, putAt_ne, res_bl, hb2, hb3, q1, q3, qp, u1, u3, up, w1, w3, w4, p3, fieldAddr_ptr fB1 sBc, pBc, fieldAddr_ptr fRp0 sI1, pI1]) (hvc c)]
      try simp (disch := first | decide | rfl) only [again_nil, again_skip, again_free]
      rw [again_same (v := cv) (by simp (disch := first | omega | (simp only [add_nx, upd_nx, res_nx, putAt_nx] <;> omega) | decide) only [rUz, ↓reduceIte, Nat.reduceEqDiff, Nat.reduceAdd, rDz, infoL, Nat.reduceSub, putAt_ne, res_bl, hb2, hb3, q1, q3, qp, u1, u3, up, w1, w3, w4, p3, fieldAddr_ptr fB1 sBc, pBc, fieldAddr_ptr fRp0 sI1, pI1]) hvcv]
      try simp (disch := first | decide | rfl) only [again_nil, again_skip, again_free]
    simp (disch := first | omega | (simp only [add_nx, upd_nx, res_nx, putAt_nx] <;> omega) | decide) only [rUz, ↓reduceIte, Nat.reduceEqDiff, Nat.reduceAdd, rMz, infoL, Nat.reduceSub]
    refine dm_one rfl rfl ?_
    refine dmW_none rfl rfl (aw_storeN (B := h.nx) (ls := cc c) (by simp (disch := first | omega | (simp only [add_nx, upd_nx, res_nx, putAt_nx] <;> omega) | decide) only [rUz, ↓reduceIte, Nat.reduceEqDiff, Nat.reduceAdd, rMz, infoL, Nat.reduceSub]) (by simp (disch := first | omega | (simp only [add_nx, upd_nx, res_nx, putAt_nx] <;> omega) | decide) only [rUz, ↓reduceIte, Nat.reduceEqDiff, Nat.reduceAdd, rMz, infoL, Nat.reduceSub]) sL (by omega) rfl (by simp (disch := first | omega | (simp only [add_nx, upd_nx, res_nx, putAt_nx] <;> omega) | decide) only [putAt_eq, putAt_ne]; rfl) (by simp (disch := first | omega | (simp only [add_nx, upd_nx, res_nx, putAt_nx] <;> omega) | decide) only [putAt_fe, putAt_fn]; rfl) rfl) ?_ ?_
    · try simp (disch := first | decide | rfl) only [again_nil, again_skip, again_free]
      rw [again_same (v := .agg ⟨cc d⟩) (by simp (disch := first | omega | (simp only [add_nx, upd_nx, res_nx, putAt_nx] <;> omega) | decide) only [rUz, ↓reduceIte, Nat.reduceEqDiff, Nat.reduceAdd, rDz, infoL, Nat.reduceSub, upd_ne, putAt_ne, res_bl, hb2, hb3, q1, q3, qp, u1, u3, up, w1, w3, w4, p3, fieldAddr_ptr fB1 sBc, pBc, fieldAddr_ptr fRp0 sI1, pI1]) (hvc d)]
      try simp (disch := first | decide | rfl) only [again_nil, again_skip, again_free]
      rw [again_same (v := iv (j : Int)) (by simp (disch := first | omega | (simp only [add_nx, upd_nx, res_nx, putAt_nx] <;> omega) | decide) only [rUz, ↓reduceIte, Nat.reduceEqDiff, Nat.reduceAdd, rDz, infoL, Nat.reduceSub, upd_ne, putAt_ne, res_bl, hb2, hb3, q1, q3, qp, u1, u3, up, w1, w3, w4, p3, fieldAddr_ptr fB1 sBc, pBc, fieldAddr_ptr fRp0 sI1, pI1]) veq_int]
      try simp (disch := first | decide | rfl) only [again_nil, again_skip, again_free]
      rw [again_same (v := s) (by simp (disch := first | omega | (simp only [add_nx, upd_nx, res_nx, putAt_nx] <;> omega) | decide) only [rUz, ↓reduceIte, Nat.reduceEqDiff, Nat.reduceAdd, rDz, infoL, Nat.reduceSub, upd_ne, putAt_ne, res_bl, hb2, hb3, q1, q3, qp, u1, u3, up, w1, w3, w4, p3, fieldAddr_ptr fB1 sBc, pBc, fieldAddr_ptr fRp0 sI1, pI1]) hvs]
      try simp (disch := first | decide | rfl) only [again_nil, again_skip, again_free]
      rw [again_same (v := cv) (by simp (disch := first | omega | (simp only [add_nx, upd_nx, res_nx, putAt_nx] <;> omega) | decide) only [rUz, ↓reduceIte, Nat.reduceEqDiff, Nat.reduceAdd, rDz, infoL, Nat.reduceSub, upd_ne, putAt_ne, res_bl, hb2, hb3, q1, q3, qp, u1, u3, up, w1, w3, w4, p3, fieldAddr_ptr fB1 sBc, pBc, fieldAddr_ptr fRp0 sI1, pI1]) hvcv]
      try simp (disch := first | decide | rfl) only [again_nil, again_skip, again_free]
    simp (disch := first | omega | (simp only [add_nx, upd_nx, res_nx, putAt_nx] <;> omega) | decide) only [rUz, ↓reduceIte, Nat.reduceEqDiff, Nat.reduceAdd, rMz, infoL, Nat.reduceSub]
    refine dm_one rfl rfl ?_
    refine dmW_none rfl rfl (aw_storeN (B := h.nx + 1) (ls := cc d) (by simp (disch := first | omega | (simp only [add_nx, upd_nx, res_nx, putAt_nx] <;> omega) | decide) only [rUz, ↓reduceIte, Nat.reduceEqDiff, Nat.reduceAdd, rMz, infoL, Nat.reduceSub]) (by simp (disch := first | omega | (simp only [add_nx, upd_nx, res_nx, putAt_nx] <;> omega) | decide) only [rUz, ↓reduceIte, Nat.reduceEqDiff, Nat.reduceAdd, rMz, infoL, Nat.reduceSub]) sL (by omega) rfl (by simp (disch := first | omega | (simp only [add_nx, upd_nx, res_nx, putAt_nx] <;> omega) | decide) only [upd_ne, putAt_eq, putAt_ne]; rfl) (by simp (disch := first | omega | (simp only [add_nx, upd_nx, res_nx, putAt_nx] <;> omega) | decide) only [upd_fams, putAt_fe, putAt_fn]; rfl) rfl) ?_ ?_
    · try simp (disch := first | decide | rfl) only [again_nil, again_skip, again_free]
    simp (disch := first | omega | (simp only [add_nx, upd_nx, res_nx, putAt_nx] <;> omega) | decide) only [rUz, ↓reduceIte, Nat.reduceEqDiff, Nat.reduceAdd, rMz, infoL, Nat.reduceSub]
    refine hJ' _ _ ?_ ?_ ?_ ?_ (fun i h1 h2 h3 => by simp (disch := omega) only [tget_ne]) ?_ ?_
    · exact (((((Kp.refl (h := h)).res.res).putAt (by omega)).putAt (by omega)).upd (by omega)).upd (by omega)
    · simp (disch := first | omega | (simp only [add_nx, upd_nx, res_nx, putAt_nx] <;> omega) | decide) only [upd_ne, upd_eq]
    · simp (disch := first | omega | (simp only [add_nx, upd_nx, res_nx, putAt_nx] <;> omega) | decide) only [upd_ne, upd_eq]
    · show h.nx + 2 ≤ h.nx + 1 + 1; omega
    all_goals (first | rfl | (simp (disch := first | omega | (simp only [add_nx, upd_nx, res_nx, putAt_nx] <;> omega) | decide) only [rUz, ↓reduceIte, Nat.reduceEqDiff, Nat.reduceAdd]; done) | (simp (disch := first | omega | (simp only [add_nx, upd_nx, res_nx, putAt_nx] <;> omega) | decide) only [rUz, ↓reduceIte, Nat.reduceEqDiff, Nat.reduceAdd]; rfl))
end Go.Proofs.Rg
