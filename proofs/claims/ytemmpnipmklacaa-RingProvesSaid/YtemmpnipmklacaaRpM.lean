import Derived.Test.YtemmpnipmklacaaRpI
namespace Go.Proofs.Rg
open Go Go.Ev
set_option linter.unusedSimpArgs false
variable {pr : Prim} {R : ExT}
/-! ## What makes a ring, on the other side -/
def irP (n : Nat) (cs : List C4) (r : R2) : Bool := !(decide ((r.1.length : Int) < 2) || decide ((n : Int) < (r.1.length : Int)) || decide (r.2 < 1) || decide (100 < r.2)) && (r.1.all (inC cs) && ringB cs r.1)
noncomputable def sOps (n : Nat) : Array Oper := (findReg' n ((Try.f59.body).getD .skip)).getD #[]
theorem aw_alloc {P : Program} {call : CallT} {t : T Value} {h : AHeap} {dst : Option Tmp} {e ty : TypeId} {pos : String} {af : Array Edge} {g : Option (Nat × Bool)} {z : Value} (hz : zeroOf P e = some z) (K : KV) : awrite P call t h ⟨dst, .alloc e, ty, pos, af, g⟩ K = K (.pointer (some ⟨h.nx, 0, none⟩)) (h.add z.cells.toList) := by
  simp only [awrite, wAlloc, hz, newC_add, ptrK]
set_option maxHeartbeats 32000000 in
theorem first_y (S : Ev.Steps Try.prog pr R) (h : AHeap) (hs : Int) (cv s : Value) (am : Int) (cs : List C4) (hc : CAt h cv cs) (l : List Int) (hl : IAt h s l) (B2 B3 : Nat) (h2n : B2 < h.nx) (h3n : B3 < h.nx) (hb2 : h.bl.get B2 = some (.cells [iv hs, cv] B2 false)) (hb3 : h.bl.get B3 = some (.cells [s, iv am] B3 false))
    (k i : Nat) (hk : k < l.length) (c : C4) (hlk : l[k] = (i : Int)) (hi : cs[i]? = some c) (t : T Value) (t2 : tget t 2 = ptr0 B2) (t3 : tget t 3 = ptr0 B3) (t7 : tget t 7 = iv (k : Int)) (K : KT)
    (hJ : ∀ (t' : T Value) (h2 : AHeap), Kp h h2 → h2.bl.get h.nx = some (.cells (cc c) h.nx false) → h.nx + 1 ≤ h2.nx → (∀ i, i < 31 → i ≠ 8 → tget t' i = tget t i) → tget t' 8 = ptr0 h.nx → K .normal t' h2 [] = true) :
    R 95 none (.region 12 (sOps 12) true) t h [] K = true := by
  obtain ⟨b, fb, ro, cells, q1, q2, q3, q4, q5, _⟩ := hc.idx slA sK hi
  have qp := part_cc pK q4 q5
  obtain ⟨bl, fl, rl, w1, w2, w3, w4⟩ := hl.idx slI s3' hk
  rw [hlk] at w4
  simp only [sOps, Try.f59, Option.getD_some, Option.getD_none, findReg', ↓reduceIte, Nat.reduceEqDiff, Option.or_none, Option.none_or, Option.or_some, reduceCtorEq]
  have hvcv : veq cv cv = true := by
    rcases hc with ⟨_, rfl | rfl⟩ | ⟨b, cap, f, ro, _, rfl, _⟩
    · simp only [veq]
    · simp only [emptyS, veq]
    · simp only [veq, Nat.beq_refl, Bool.and_self]
  have hvs := hl.veq
  have hvc : veq (.agg ⟨cc c⟩) (.agg ⟨cc c⟩) = true := by simp only [cc, veq, veqA, veqL, beqI_eq, beqKind, decide_true, Bool.and_self]
  refine S.drawnL [(false, 0), (false, 1), (false, 0), (false, 4), (false, 0), (false, 28), (false, 60), (false, 127), (false, 255), (true, 0), (true, 1023)] (by kernel_rfl) (by kernel_rfl) (by kernel_rfl) ?_
  generalize hJJ : (fun (t : T Value) (h : AHeap) => _) = KJ
  have hJ' : ∀ (t' : T Value) (h2 : AHeap), Kp h h2 → h2.bl.get h.nx = some (.cells (cc c) h.nx false) → h.nx + 1 ≤ h2.nx → (∀ i, i < 31 → i ≠ 8 → tget t' i = tget t i) → tget t' 8 = ptr0 h.nx → KJ t' h2 = true := by
    intro t' h2 a1 a2 a3 a4 a5
    subst hJJ
    exact hJ t' h2 a1 a2 a3 a4 a5
  clear hJJ hJ
  simp (disch := first | omega | (simp only [add_nx, upd_nx, res_nx, putAt_nx] <;> omega) | decide) only [rUz, ↓reduceIte, Nat.reduceEqDiff, Nat.reduceAdd, rDz, infoL, Nat.reduceSub, t2, t3, t7, hb2, hb3, fieldAddr_ptr fA1 sAc, pAc, fieldAddr_ptr fRr0 sI1, pI1, q1, q3, qp, w1, w3, w4, p3]
  refine drW_some (v := .pointer (some ⟨h.nx, 0, none⟩)) (h' := h.add [iv 0, iv 0, iv 0, iv 0]) (aw_alloc zK) (Nat.le_of_ble_eq_true rfl) ?_ ?_
  · try simp (disch := first | decide | rfl) only [again_nil, again_skip, again_free]
    rw [again_same (v := .agg ⟨cc c⟩) (by simp (disch := first | omega | (simp only [add_nx, upd_nx, res_nx, putAt_nx] <;> omega) | decide) only [rUz, ↓reduceIte, Nat.reduceEqDiff, Nat.reduceAdd, rDz, infoL, Nat.reduceSub, ag_ne, hb2, hb3, fieldAddr_ptr fA1 sAc, pAc, fieldAddr_ptr fRr0 sI1, pI1, q1, q3, qp, w1, w3, w4, p3]) hvc]
    try simp (disch := first | decide | rfl) only [again_nil, again_skip, again_free]
    rw [again_same (v := iv (i : Int)) (by simp (disch := first | omega | (simp only [add_nx, upd_nx, res_nx, putAt_nx] <;> omega) | decide) only [rUz, ↓reduceIte, Nat.reduceEqDiff, Nat.reduceAdd, rDz, infoL, Nat.reduceSub, ag_ne, hb2, hb3, fieldAddr_ptr fA1 sAc, pAc, fieldAddr_ptr fRr0 sI1, pI1, q1, q3, qp, w1, w3, w4, p3]) veq_int]
    try simp (disch := first | decide | rfl) only [again_nil, again_skip, again_free]
    rw [again_same (v := s) (by simp (disch := first | omega | (simp only [add_nx, upd_nx, res_nx, putAt_nx] <;> omega) | decide) only [rUz, ↓reduceIte, Nat.reduceEqDiff, Nat.reduceAdd, rDz, infoL, Nat.reduceSub, ag_ne, hb2, hb3, fieldAddr_ptr fA1 sAc, pAc, fieldAddr_ptr fRr0 sI1, pI1, q1, q3, qp, w1, w3, w4, p3]) hvs]
    try simp (disch := first | decide | rfl) only [again_nil, again_skip, again_free]
    rw [again_same (v := cv) (by simp (disch := first | omega | (simp only [add_nx, upd_nx, res_nx, putAt_nx] <;> omega) | decide) only [rUz, ↓reduceIte, Nat.reduceEqDiff, Nat.reduceAdd, rDz, infoL, Nat.reduceSub, ag_ne, hb2, hb3, fieldAddr_ptr fA1 sAc, pAc, fieldAddr_ptr fRr0 sI1, pI1, q1, q3, qp, w1, w3, w4, p3]) hvcv]
    try simp (disch := first | decide | rfl) only [again_nil, again_skip, again_free]
  simp (disch := first | omega | (simp only [add_nx, upd_nx, res_nx, putAt_nx] <;> omega) | decide) only [rUz, ↓reduceIte, Nat.reduceEqDiff, Nat.reduceAdd, rDz, infoL, Nat.reduceSub]
  refine drW_storeN (B := h.nx) (c := [iv 0, iv 0, iv 0, iv 0]) (fam := h.nx) (k0 := h.nx) (ls := cc c) (by simp (disch := first | omega | (simp only [add_nx, upd_nx, res_nx, putAt_nx] <;> omega) | decide) only [rUz, ↓reduceIte, Nat.reduceEqDiff, Nat.reduceAdd, rDz, infoL, Nat.reduceSub]) (by simp (disch := first | omega | (simp only [add_nx, upd_nx, res_nx, putAt_nx] <;> omega) | decide) only [rUz, ↓reduceIte, Nat.reduceEqDiff, Nat.reduceAdd, rDz, infoL, Nat.reduceSub]) sK (by omega) rfl (ag_eq rfl) (af_eq rfl) rfl ?_ ?_
  · try simp (disch := first | decide | rfl) only [again_nil, again_skip, again_free]
  simp (disch := first | omega | (simp only [add_nx, upd_nx, res_nx, putAt_nx] <;> omega) | decide) only [rUz, ↓reduceIte, Nat.reduceEqDiff, Nat.reduceAdd, rDz, infoL, Nat.reduceSub]
  refine hJ' _ _ (Kp.refl.add.upd (Nat.le_refl _)) (upd_eq _ _ _) (Nat.le_refl _) (fun i h1 h2 => by simp (disch := omega) only [tget_ne]) ?_
  all_goals (first | rfl | (simp (disch := first | omega | (simp only [add_nx, upd_nx, res_nx, putAt_nx] <;> omega) | decide) only [rUz, ↓reduceIte, Nat.reduceEqDiff, Nat.reduceAdd]; done) | (simp (disch := first | omega | (simp only [add_nx, upd_nx, res_nx, putAt_nx] <;> omega) | decide) only [rUz, ↓reduceIte, Nat.reduceEqDiff, Nat.reduceAdd]; rfl))
end Go.Proofs.Rg
