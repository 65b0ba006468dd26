import Derived.Test.YtllabiheedejoaaGreatPo6
/- The offer at a price; the opening price. -/
namespace Go.Proofs.Po
open Go Go.Ev Go.RowKit
set_option linter.unusedSimpArgs false
variable {pr : Prim} {R : ExT}
/-- An offer: the price, what is bought, what is sold. -/
abbrev I3 := Int × Int × Int
def c3 (x : I3) : List Value := [iv x.1, iv x.2.1, iv x.2.2]
theorem c3_len (x : I3) : (c3 x).length = 3 := rfl
theorem c30 (x : I3) : (c3 x)[0]? = some (iv x.1) := rfl
theorem c31 (x : I3) : (c3 x)[1]? = some (iv x.2.1) := rfl
theorem c32 (x : I3) : (c3 x)[2]? = some (iv x.2.2) := rfl
theorem veq_c3 (x : I3) : veq (.agg ⟨c3 x⟩) (.agg ⟨c3 x⟩) = true := by
  simp only [c3, veq, veqA, veqL, beqKind, beqI_eq, decide_true, Bool.and_self]
def buyN (p : Int) (x : Od) : Int := bif x.b && decide (p ≤ x.l) then x.n else 0
def sellN (p : Int) (x : Od) : Int := bif !x.b && decide (x.l ≤ p) then x.n else 0
def sumO (f : Od → Int) : List Od → Int
  | [] => 0
  | x :: r => f x + sumO f r
theorem sumO_snoc (f : Od → Int) (x : Od) : ∀ l : List Od, sumO f (l ++ [x]) = sumO f l + f x
  | [] => by simp [sumO]
  | y :: r => by simp only [List.cons_append, sumO, sumO_snoc f x r]; omega
theorem sumO_take (f : Od → Int) (O : List Od) (k : Nat) {x : Od} (h : O[k]? = some x) : sumO f (O.take (k + 1)) = sumO f (O.take k) + f x := by
  rw [List.take_add_one, h, Option.toList_some, sumO_snoc]
theorem sumO_bnd {f : Od → Int} : ∀ {l : List Od}, (∀ x, x ∈ l → 0 ≤ f x ∧ f x ≤ 20) → 0 ≤ sumO f l ∧ sumO f l ≤ 20 * (l.length : Int)
  | [], _ => by simp [sumO]
  | x :: r, h => by
    have h1 := h x (by simp)
    have h2 := sumO_bnd (f := f) (l := r) fun y hy => h y (by simp [hy])
    simp only [sumO, List.length_cons]
    omega
theorem buy_bnd {p : Int} {x : Od} (h : OkO x) : 0 ≤ buyN p x ∧ buyN p x ≤ 20 := by
  have h1 := h.n1; have h2 := h.n2
  unfold buyN
  cases x.b && decide (p ≤ x.l) <;> simp only [cond_true, cond_false] <;> omega
theorem sell_bnd {p : Int} {x : Od} (h : OkO x) : 0 ≤ sellN p x ∧ sellN p x ≤ 20 := by
  have h1 := h.n1; have h2 := h.n2
  unfold sellN
  cases !x.b && decide (x.l ≤ p) <;> simp only [cond_true, cond_false] <;> omega
def buysZ (O : List Od) (p : Int) : Int := sumO (buyN p) O
def sellsZ (O : List Od) (p : Int) : Int := sumO (sellN p) O
theorem buys_bnd {O : List Od} (hv : Val O) (p : Int) (k : Nat) : 0 ≤ sumO (buyN p) (O.take k) ∧ sumO (buyN p) (O.take k) ≤ 120 := by
  have h6 := hv.l6
  have := sumO_bnd (f := buyN p) (l := O.take k) fun x hx => buy_bnd (hv.ok x (List.mem_of_mem_take hx))
  have hl : (O.take k).length ≤ 6 := by rw [List.length_take]; omega
  omega
theorem sells_bnd {O : List Od} (hv : Val O) (p : Int) (k : Nat) : 0 ≤ sumO (sellN p) (O.take k) ∧ sumO (sellN p) (O.take k) ≤ 120 := by
  have h6 := hv.l6
  have := sumO_bnd (f := sellN p) (l := O.take k) fun x hx => sell_bnd (hv.ok x (List.mem_of_mem_take hx))
  have hl : (O.take k).length ≤ 6 := by rw [List.length_take]; omega
  omega
/-! ## An offer -/
set_option maxHeartbeats 4000000 in
theorem shares_y (S : Ev.Steps Tryz.prog pr R) (hoff : Off pr) (h0 : AHeap) (x : I3) : Brings Tryz.prog R 51 [.agg ⟨c3 x⟩] h0 fun u _ => u = iv (min2 x.2.1 x.2.2) := by
  refine brings_of (fn := Tryz.f51) (c := (Tryz.f51.body).getD .skip) (by kernel_rfl) rfl (by kernel_rfl) rfl (fun K hK => ?_)
  generalize hF : finish Tryz.prog Tryz.f51 K = KF
  simp only [Tryz.f51, Option.getD_some, argsT, setArgs, fV1_eq, T.setK_eq, id]
  repeat refine S.seq ?_
  refine S.region ?_
  simp (disch := first | omega | (simp only [add_nx, upd_nx] <;> omega) | decide) only [rUz, ↓reduceIte, Nat.reduceEqDiff, Nat.reduceAdd]
  repeat refine S.seq ?_
  refine S.region ?_
  simp (disch := first | omega | (simp only [add_nx, upd_nx] <;> omega) | decide) only [rUz, ↓reduceIte, Nat.reduceEqDiff, Nat.reduceAdd, fieldAddr_ptr fF1 s3, fieldAddr_ptr fF2 s3, p3, c31, c32, w_buildSlice]
  refine wr_lit1 slI s3' z3 rfl (by omega) (u := iv x.2.2) (l := [iv x.2.2]) (by simp (disch := first | omega | (simp only [add_nx, upd_nx] <;> omega) | decide) only [rUz, ↓reduceIte, Nat.reduceEqDiff, Nat.reduceAdd]) rfl rfl ?_
  obtain ⟨g, hg⟩ : ∃ g, g = h0.add (c3 x) := ⟨_, rfl⟩
  have hkg : Kp h0 g := by subst hg; exact Kp.refl.add
  rw [← hg]
  clear hg
  simp (disch := first | omega | (simp only [add_nx, upd_nx] <;> omega) | decide) only [rUz, ↓reduceIte, Nat.reduceEqDiff, Nat.reduceAdd]
  refine wr_brings (fid := 73) (first := #[]) (captured := #[]) (Post := fun u h' => u = iv ([x.2.2].foldl min2 x.2.1) ∧ h' = g.add [iv x.2.2]) rfl (hoff _ _ _ rfl) (by simp (disch := first | omega | (simp only [add_nx, upd_nx] <;> omega) | decide) only [rUz, ↓reduceIte, Nat.reduceEqDiff, Nat.reduceAdd]; exact least_y S _ x.2.1 _ [x.2.2] (.inr ⟨g.nx, 1, g.nx, false, rfl, Nat.lt_succ_self _, ag_eq rfl⟩) (by simp)) ?_
  rintro u g2 - ⟨rfl, rfl⟩
  simp (disch := first | omega | (simp only [add_nx, upd_nx] <;> omega) | decide) only [rUz, ↓reduceIte, Nat.reduceEqDiff, Nat.reduceAdd]
  refine S.ret ?_
  try simp only [seqK_ret, blockK_ret]
  subst hF
  simp only [finish, endMarks]
  rw [show Tryz.f51.results.toList = [.tmp 2] from rfl]
  simp (disch := first | omega | (simp only [add_nx, upd_nx] <;> omega) | decide) only [resA, ev_tmp, tget_ne, tget_eq, get_ne, get_eq, upd_eq, upd_ne, ag_eq, ag_ne, result1]
  exact hK _ _ hkg.add rfl
theorem mm_bnd {a b : Int} (ha : 0 ≤ a ∧ a ≤ 120) (hb : 0 ≤ b ∧ b ≤ 120) : 0 ≤ min2 a b ∧ min2 a b ≤ 120 ∧ 0 ≤ max2 a b - min2 a b ∧ max2 a b - min2 a b ≤ 120 ∧ 0 ≤ max2 a b ∧ max2 a b ≤ 120 := by
  unfold min2 max2
  by_cases h : b < a
  · rw [if_pos h]
    by_cases h' : b > a
    · rw [if_pos h']; omega
    · rw [if_neg h']; omega
  · rw [if_neg h]
    by_cases h' : b > a
    · rw [if_pos h']; omega
    · rw [if_neg h']; omega
def surZ (x : I3) : Int := max2 x.2.1 x.2.2 - min2 x.2.1 x.2.2
set_option maxHeartbeats 4000000 in
theorem surplus_y (S : Ev.Steps Tryz.prog pr R) (hoff : Off pr) (h0 : AHeap) (x : I3) (hx1 : 0 ≤ x.2.1 ∧ x.2.1 ≤ 120) (hx2 : 0 ≤ x.2.2 ∧ x.2.2 ≤ 120) : Brings Tryz.prog R 96 [.agg ⟨c3 x⟩] h0 fun u _ => u = iv (surZ x) := by
  refine brings_of (fn := Tryz.f96) (c := (Tryz.f96.body).getD .skip) (by kernel_rfl) rfl (by kernel_rfl) rfl (fun K hK => ?_)
  generalize hF : finish Tryz.prog Tryz.f96 K = KF
  simp only [Tryz.f96, Option.getD_some, argsT, setArgs, fV1_eq, T.setK_eq, id]
  obtain ⟨m1, m2, m3, m4, m5, m6⟩ := mm_bnd hx1 hx2
  unfold surZ at hK
  repeat refine S.seq ?_
  refine S.region ?_
  simp (disch := first | omega | (simp only [add_nx, upd_nx] <;> omega) | decide) only [rUz, ↓reduceIte, Nat.reduceEqDiff, Nat.reduceAdd]
  have hb1 : (h0.add (c3 x)).bl.get h0.nx = some (.cells (c3 x) h0.nx false) := ag_eq rfl
  have hn1 : h0.nx < (h0.add (c3 x)).nx := Nat.lt_succ_self _
  have hk1 : Kp h0 (h0.add (c3 x)) := Kp.refl.add
  generalize h0.add (c3 x) = g at hb1 hn1 hk1 ⊢
  generalize h0.nx = B1 at hb1 hn1 ⊢
  repeat refine S.seq ?_
  refine S.drawnL [(false, 0), (false, 1), (false, 0), (false, 4), (true, 12), (true, 31), (false, 0), (true, 127), (false, 255), (false, 511)] (by kernel_rfl) (by kernel_rfl) (by kernel_rfl) ?_
  simp (disch := first | omega | (simp only [add_nx, upd_nx] <;> omega) | decide) only [rUz, ↓reduceIte, Nat.reduceEqDiff, Nat.reduceAdd, rDz, infoL, Nat.reduceSub, hb1, fieldAddr_ptr fF1 s3, fieldAddr_ptr fF2 s3, p3, c31, c32]
  refine draw_pick' rfl ?_
  simp (disch := first | omega | (simp only [add_nx, upd_nx] <;> omega) | decide) only [rUz, ↓reduceIte, Nat.reduceEqDiff, Nat.reduceAdd, rDz, infoL, Nat.reduceSub, hb1, part_0 pF (c3_len x)]
  refine drW_give (aw_lit1 slI s3' z3 rfl (by omega) (u := iv x.2.2) (l := [iv x.2.2]) (by simp (disch := first | omega | (simp only [add_nx, upd_nx] <;> omega) | decide) only [rUz, ↓reduceIte, Nat.reduceEqDiff, Nat.reduceAdd, rDz, infoL, Nat.reduceSub]) rfl rfl) (Nat.le_of_ble_eq_true rfl) ?_ ?_
  · have hbx : (g.add [iv x.2.2]).bl.get B1 = some (.cells (c3 x) B1 false) := by rw [ag_ne (by omega)]; exact hb1
    try simp (disch := first | decide | rfl) only [again_nil, again_skip, again_free]
    rw [again_same (v := .agg ⟨c3 x⟩) (by simp (disch := first | omega | (simp only [add_nx, upd_nx] <;> omega) | decide) only [rUz, ↓reduceIte, Nat.reduceEqDiff, Nat.reduceAdd, rDz, infoL, Nat.reduceSub, hbx, part_0 pF (c3_len x)]) (veq_c3 x)]
    try simp (disch := first | decide | rfl) only [again_nil, again_skip, again_free]
    rw [again_same (v := iv x.2.1) (by simp (disch := first | omega | (simp only [add_nx, upd_nx] <;> omega) | decide) only [rUz, ↓reduceIte, Nat.reduceEqDiff, Nat.reduceAdd, rDz, infoL, Nat.reduceSub, hbx, fieldAddr_ptr fF1 s3, p3, c31]) veq_int]
    try simp (disch := first | decide | rfl) only [again_nil, again_skip, again_free]
  simp (disch := first | omega | (simp only [add_nx, upd_nx] <;> omega) | decide) only [rUz, ↓reduceIte, Nat.reduceEqDiff, Nat.reduceAdd, rDz, infoL, Nat.reduceSub]
  refine drW_brings (fid := 104) (first := #[]) (captured := #[]) (Post := fun u h' => u = iv ([x.2.2].foldl max2 x.2.1) ∧ h' = g.add [iv x.2.2]) rfl (hoff _ _ _ rfl) (by simp (disch := first | omega | (simp only [add_nx, upd_nx] <;> omega) | decide) only [rUz, ↓reduceIte, Nat.reduceEqDiff, Nat.reduceAdd]; exact greatest_y S _ x.2.1 _ [x.2.2] (.inr ⟨g.nx, 1, g.nx, false, rfl, Nat.lt_succ_self _, ag_eq rfl⟩) (by simp)) (Nat.le_of_ble_eq_true rfl) ?_
  rintro u g2 - ⟨rfl, rfl⟩
  refine ⟨?_, ?_⟩
  · have hbx : (g.add [iv x.2.2]).bl.get B1 = some (.cells (c3 x) B1 false) := by rw [ag_ne (by omega)]; exact hb1
    try simp (disch := first | decide | rfl) only [again_nil, again_skip, again_free]
    rw [again_same (v := .agg ⟨c3 x⟩) (by simp (disch := first | omega | (simp only [add_nx, upd_nx] <;> omega) | decide) only [rUz, ↓reduceIte, Nat.reduceEqDiff, Nat.reduceAdd, rDz, infoL, Nat.reduceSub, hbx, part_0 pF (c3_len x)]) (veq_c3 x)]
    try simp (disch := first | decide | rfl) only [again_nil, again_skip, again_free]
  simp (disch := first | omega | (simp only [add_nx, upd_nx] <;> omega) | decide) only [rUz, ↓reduceIte, Nat.reduceEqDiff, Nat.reduceAdd, rDz, infoL, Nat.reduceSub]
  refine drW_brings (fid := 51) (first := #[]) (captured := #[]) (Post := fun u _ => u = iv (min2 x.2.1 x.2.2)) rfl (hoff _ _ _ rfl) (by simp (disch := first | omega | (simp only [add_nx, upd_nx] <;> omega) | decide) only [rUz, ↓reduceIte, Nat.reduceEqDiff, Nat.reduceAdd]; exact shares_y S hoff _ x) (Nat.le_of_ble_eq_true rfl) ?_
  rintro u g3 hk3 rfl
  refine ⟨?_, ?_⟩
  · try simp (disch := first | decide | rfl) only [again_nil, again_skip, again_free]
  simp (disch := first | omega | (simp only [add_nx, upd_nx] <;> omega) | decide) only [rUz, ↓reduceIte, Nat.reduceEqDiff, Nat.reduceAdd, rDz, infoL, Nat.reduceSub, List.foldl_cons, List.foldl_nil]
  refine S.ret ?_
  try simp only [seqK_ret, blockK_ret]
  subst hF
  simp only [finish, endMarks]
  rw [show Tryz.f96.results.toList = [.tmp 2] from rfl]
  simp (disch := first | omega | (simp only [add_nx, upd_nx] <;> omega) | decide) only [resA, ev_tmp, tget_ne, tget_eq, get_ne, get_eq, upd_eq, upd_ne, ag_eq, ag_ne, result1]
  exact hK _ _ (hk1.add.trans hk3) rfl
def betterB (x y : I3) : Bool := decide (0 < orZ [cmpZ (min2 x.2.1 x.2.2) (min2 y.2.1 y.2.2), cmpZ (surZ y) (surZ x)])
set_option maxHeartbeats 8000000 in
theorem isBetter_y (S : Ev.Steps Tryz.prog pr R) (hoff : Off pr) (h0 : AHeap) (x y : I3) (hx1 : 0 ≤ x.2.1 ∧ x.2.1 ≤ 120) (hx2 : 0 ≤ x.2.2 ∧ x.2.2 ≤ 120) (hy1 : 0 ≤ y.2.1 ∧ y.2.1 ≤ 120) (hy2 : 0 ≤ y.2.2 ∧ y.2.2 ≤ 120) :
    Brings Tryz.prog R 72 [.agg ⟨c3 x⟩, .agg ⟨c3 y⟩] h0 fun u _ => u = .bool (betterB x y) := by
  refine brings_of (fn := Tryz.f72) (c := (Tryz.f72.body).getD .skip) (by kernel_rfl) rfl (by kernel_rfl) rfl (fun K hK => ?_)
  generalize hF : finish Tryz.prog Tryz.f72 K = KF
  simp only [Tryz.f72, Option.getD_some, argsT, setArgs, fV1_eq, T.setK_eq, id]
  unfold betterB at hK
  repeat refine S.seq ?_
  refine S.region ?_
  simp (disch := first | omega | (simp only [add_nx, upd_nx] <;> omega) | decide) only [rUz, ↓reduceIte, Nat.reduceEqDiff, Nat.reduceAdd]
  obtain ⟨B2, hB2⟩ : ∃ z, z = h0.nx := ⟨_, rfl⟩
  obtain ⟨B3, hB3⟩ : ∃ z, z = h0.nx + 1 := ⟨_, rfl⟩
  have hb2 : ((h0.add (c3 x)).add (c3 y)).bl.get B2 = some (.cells (c3 x) B2 false) := by rw [ag_ne (by show B2 ≠ h0.nx + 1; omega)]; subst hB2; exact ag_eq rfl
  have hb3 : ((h0.add (c3 x)).add (c3 y)).bl.get B3 = some (.cells (c3 y) B3 false) := by subst hB3; exact ag_eq rfl
  have hk1 : Kp h0 ((h0.add (c3 x)).add (c3 y)) := Kp.refl.add.add
  have hn2 : B2 < ((h0.add (c3 x)).add (c3 y)).nx := by show B2 < h0.nx + 2; omega
  have hn3 : B3 < ((h0.add (c3 x)).add (c3 y)).nx := by show B3 < h0.nx + 2; omega
  rw [← hB3, ← hB2]
  clear hB2 hB3
  generalize (h0.add (c3 x)).add (c3 y) = g at hb2 hb3 hk1 hn2 hn3 ⊢
  repeat refine S.seq ?_
  refine S.drawnL [(false, 0), (true, 1), (false, 0), (true, 7), (true, 15), (false, 0), (true, 63), (false, 0), (true, 255), (true, 511), (true, 1023), (true, 2047), (false, 4095), (false, 8191)] (by kernel_rfl) (by kernel_rfl) (by kernel_rfl) ?_
  simp (disch := first | omega | (simp only [add_nx, upd_nx] <;> omega) | decide) only [rUz, ↓reduceIte, Nat.reduceEqDiff, Nat.reduceAdd, rDz, infoL, Nat.reduceSub, hb2, hb3, part_0 pF (c3_len x), part_0 pF (c3_len y)]
  refine draw_pick' rfl ?_
  simp (disch := first | omega | (simp only [add_nx, upd_nx] <;> omega) | decide) only [rUz, ↓reduceIte, Nat.reduceEqDiff, Nat.reduceAdd, rDz, infoL, Nat.reduceSub, hb2, hb3, part_0 pF (c3_len x), part_0 pF (c3_len y)]
  refine draw_pick' rfl ?_
  simp (disch := first | omega | (simp only [add_nx, upd_nx] <;> omega) | decide) only [rUz, ↓reduceIte, Nat.reduceEqDiff, Nat.reduceAdd, rDz, infoL, Nat.reduceSub, hb2, hb3, part_0 pF (c3_len x), part_0 pF (c3_len y)]
  refine draw_pick' rfl ?_
  simp (disch := first | omega | (simp only [add_nx, upd_nx] <;> omega) | decide) only [rUz, ↓reduceIte, Nat.reduceEqDiff, Nat.reduceAdd, rDz, infoL, Nat.reduceSub, hb2, hb3, part_0 pF (c3_len x), part_0 pF (c3_len y)]
  refine drW_brings (fid := 51) (first := #[]) (captured := #[]) (Post := fun u _ => u = iv (min2 x.2.1 x.2.2)) rfl (hoff _ _ _ rfl) (by simp (disch := first | omega | (simp only [add_nx, upd_nx] <;> omega) | decide) only [rUz, ↓reduceIte, Nat.reduceEqDiff, Nat.reduceAdd]; exact shares_y S hoff _ x) (Nat.le_of_ble_eq_true rfl) ?_
  rintro u g1 hk2 rfl
  have hb2a := (hk2.get hn2).trans hb2
  have hb3a := (hk2.get hn3).trans hb3
  refine ⟨?_, ?_⟩
  · try simp (disch := first | decide | rfl) only [again_nil, again_skip, again_free]
    rw [again_same (v := .agg ⟨c3 x⟩) (by simp (disch := first | omega | (simp only [add_nx, upd_nx] <;> omega) | decide) only [rUz, ↓reduceIte, Nat.reduceEqDiff, Nat.reduceAdd, rDz, infoL, Nat.reduceSub, hb2a, part_0 pF (c3_len x)]) (veq_c3 x)]
    try simp (disch := first | decide | rfl) only [again_nil, again_skip, again_free]
    rw [again_same (v := .agg ⟨c3 y⟩) (by simp (disch := first | omega | (simp only [add_nx, upd_nx] <;> omega) | decide) only [rUz, ↓reduceIte, Nat.reduceEqDiff, Nat.reduceAdd, rDz, infoL, Nat.reduceSub, hb3a, part_0 pF (c3_len y)]) (veq_c3 y)]
    try simp (disch := first | decide | rfl) only [again_nil, again_skip, again_free]
    rw [again_same (v := .agg ⟨c3 y⟩) (by simp (disch := first | omega | (simp only [add_nx, upd_nx] <;> omega) | decide) only [rUz, ↓reduceIte, Nat.reduceEqDiff, Nat.reduceAdd, rDz, infoL, Nat.reduceSub, hb3a, part_0 pF (c3_len y)]) (veq_c3 y)]
    try simp (disch := first | decide | rfl) only [again_nil, again_skip, again_free]
  simp (disch := first | omega | (simp only [add_nx, upd_nx] <;> omega) | decide) only [rUz, ↓reduceIte, Nat.reduceEqDiff, Nat.reduceAdd, rDz, infoL, Nat.reduceSub]
  refine drW_brings (fid := 51) (first := #[]) (captured := #[]) (Post := fun u _ => u = iv (min2 y.2.1 y.2.2)) rfl (hoff _ _ _ rfl) (by simp (disch := first | omega | (simp only [add_nx, upd_nx] <;> omega) | decide) only [rUz, ↓reduceIte, Nat.reduceEqDiff, Nat.reduceAdd]; exact shares_y S hoff _ y) (Nat.le_of_ble_eq_true rfl) ?_
  rintro u g2 hk3 rfl
  have hk13 := hk2.trans hk3
  have hb2b := (hk13.get hn2).trans hb2
  have hb3b := (hk13.get hn3).trans hb3
  refine ⟨?_, ?_⟩
  · try simp (disch := first | decide | rfl) only [again_nil, again_skip, again_free]
    rw [again_same (v := .agg ⟨c3 x⟩) (by simp (disch := first | omega | (simp only [add_nx, upd_nx] <;> omega) | decide) only [rUz, ↓reduceIte, Nat.reduceEqDiff, Nat.reduceAdd, rDz, infoL, Nat.reduceSub, hb2b, part_0 pF (c3_len x)]) (veq_c3 x)]
    try simp (disch := first | decide | rfl) only [again_nil, again_skip, again_free]
    rw [again_same (v := .agg ⟨c3 y⟩) (by simp (disch := first | omega | (simp only [add_nx, upd_nx] <;> omega) | decide) only [rUz, ↓reduceIte, Nat.reduceEqDiff, Nat.reduceAdd, rDz, infoL, Nat.reduceSub, hb3b, part_0 pF (c3_len y)]) (veq_c3 y)]
    try simp (disch := first | decide | rfl) only [again_nil, again_skip, again_free]
  simp (disch := first | omega | (simp only [add_nx, upd_nx] <;> omega) | decide) only [rUz, ↓reduceIte, Nat.reduceEqDiff, Nat.reduceAdd, rDz, infoL, Nat.reduceSub]
  refine drW_brings (fid := 95) (first := #[]) (captured := #[]) (Post := fun u h => u = iv (cmpZ (min2 x.2.1 x.2.2) (min2 y.2.1 y.2.2)) ∧ h = g2) rfl (hoff _ _ _ rfl) (by simp (disch := first | omega | (simp only [add_nx, upd_nx] <;> omega) | decide) only [rUz, ↓reduceIte, Nat.reduceEqDiff, Nat.reduceAdd]; exact compare_y S hoff g2 _ _) (Nat.le_of_ble_eq_true rfl) ?_
  rintro u g3 - ⟨rfl, rfl⟩
  refine ⟨?_, ?_⟩
  · try simp (disch := first | decide | rfl) only [again_nil, again_skip, again_free]
    rw [again_same (v := .agg ⟨c3 x⟩) (by simp (disch := first | omega | (simp only [add_nx, upd_nx] <;> omega) | decide) only [rUz, ↓reduceIte, Nat.reduceEqDiff, Nat.reduceAdd, rDz, infoL, Nat.reduceSub, hb2b, part_0 pF (c3_len x)]) (veq_c3 x)]
    try simp (disch := first | decide | rfl) only [again_nil, again_skip, again_free]
    rw [again_same (v := .agg ⟨c3 y⟩) (by simp (disch := first | omega | (simp only [add_nx, upd_nx] <;> omega) | decide) only [rUz, ↓reduceIte, Nat.reduceEqDiff, Nat.reduceAdd, rDz, infoL, Nat.reduceSub, hb3b, part_0 pF (c3_len y)]) (veq_c3 y)]
    try simp (disch := first | decide | rfl) only [again_nil, again_skip, again_free]
  simp (disch := first | omega | (simp only [add_nx, upd_nx] <;> omega) | decide) only [rUz, ↓reduceIte, Nat.reduceEqDiff, Nat.reduceAdd, rDz, infoL, Nat.reduceSub]
  refine drW_brings (fid := 96) (first := #[]) (captured := #[]) (Post := fun u _ => u = iv (surZ y)) rfl (hoff _ _ _ rfl) (by simp (disch := first | omega | (simp only [add_nx, upd_nx] <;> omega) | decide) only [rUz, ↓reduceIte, Nat.reduceEqDiff, Nat.reduceAdd]; exact surplus_y S hoff _ y hy1 hy2) (Nat.le_of_ble_eq_true rfl) ?_
  rintro u g4 hk4 rfl
  have hk14 := hk13.trans hk4
  have hb2c := (hk14.get hn2).trans hb2
  refine ⟨?_, ?_⟩
  · try simp (disch := first | decide | rfl) only [again_nil, again_skip, again_free]
    rw [again_same (v := .agg ⟨c3 x⟩) (by simp (disch := first | omega | (simp only [add_nx, upd_nx] <;> omega) | decide) only [rUz, ↓reduceIte, Nat.reduceEqDiff, Nat.reduceAdd, rDz, infoL, Nat.reduceSub, hb2c, part_0 pF (c3_len x)]) (veq_c3 x)]
    try simp (disch := first | decide | rfl) only [again_nil, again_skip, again_free]
  simp (disch := first | omega | (simp only [add_nx, upd_nx] <;> omega) | decide) only [rUz, ↓reduceIte, Nat.reduceEqDiff, Nat.reduceAdd, rDz, infoL, Nat.reduceSub]
  refine drW_brings (fid := 96) (first := #[]) (captured := #[]) (Post := fun u _ => u = iv (surZ x)) rfl (hoff _ _ _ rfl) (by simp (disch := first | omega | (simp only [add_nx, upd_nx] <;> omega) | decide) only [rUz, ↓reduceIte, Nat.reduceEqDiff, Nat.reduceAdd]; exact surplus_y S hoff _ x hx1 hx2) (Nat.le_of_ble_eq_true rfl) ?_
  rintro u g5 hk5 rfl
  refine ⟨?_, ?_⟩
  · try simp (disch := first | decide | rfl) only [again_nil, again_skip, again_free]
  simp (disch := first | omega | (simp only [add_nx, upd_nx] <;> omega) | decide) only [rUz, ↓reduceIte, Nat.reduceEqDiff, Nat.reduceAdd, rDz, infoL, Nat.reduceSub]
  refine drW_brings (fid := 95) (first := #[]) (captured := #[]) (Post := fun u h => u = iv (cmpZ (surZ y) (surZ x)) ∧ h = g5) rfl (hoff _ _ _ rfl) (by simp (disch := first | omega | (simp only [add_nx, upd_nx] <;> omega) | decide) only [rUz, ↓reduceIte, Nat.reduceEqDiff, Nat.reduceAdd]; exact compare_y S hoff g5 _ _) (Nat.le_of_ble_eq_true rfl) ?_
  rintro u g6 - ⟨rfl, rfl⟩
  refine ⟨?_, ?_⟩
  · try simp (disch := first | decide | rfl) only [again_nil, again_skip, again_free]
  simp (disch := first | omega | (simp only [add_nx, upd_nx] <;> omega) | decide) only [rUz, ↓reduceIte, Nat.reduceEqDiff, Nat.reduceAdd, rDz, infoL, Nat.reduceSub]
  refine drW_give (aw_lit2 slI s3' z3 rfl (by omega) (u := iv (cmpZ (min2 x.2.1 x.2.2) (min2 y.2.1 y.2.2))) (w := iv (cmpZ (surZ y) (surZ x))) (l := [iv (cmpZ (min2 x.2.1 x.2.2) (min2 y.2.1 y.2.2)), iv (cmpZ (surZ y) (surZ x))]) (by simp (disch := first | omega | (simp only [add_nx, upd_nx] <;> omega) | decide) only [rUz, ↓reduceIte, Nat.reduceEqDiff, Nat.reduceAdd, rDz, infoL, Nat.reduceSub]) (by simp (disch := first | omega | (simp only [add_nx, upd_nx] <;> omega) | decide) only [rUz, ↓reduceIte, Nat.reduceEqDiff, Nat.reduceAdd, rDz, infoL, Nat.reduceSub]) rfl rfl rfl) (Nat.le_of_ble_eq_true rfl) ?_ ?_
  · try simp (disch := first | decide | rfl) only [again_nil, again_skip, again_free]
  simp (disch := first | omega | (simp only [add_nx, upd_nx] <;> omega) | decide) only [rUz, ↓reduceIte, Nat.reduceEqDiff, Nat.reduceAdd, rDz, infoL, Nat.reduceSub]
  refine drW_brings (fid := 94) (first := #[]) (captured := #[]) (Post := fun u h => u = iv (orZ [cmpZ (min2 x.2.1 x.2.2) (min2 y.2.1 y.2.2), cmpZ (surZ y) (surZ x)]) ∧ h = g6.add [iv (cmpZ (min2 x.2.1 x.2.2) (min2 y.2.1 y.2.2)), iv (cmpZ (surZ y) (surZ x))]) rfl (hoff _ _ _ rfl) (by simp (disch := first | omega | (simp only [add_nx, upd_nx] <;> omega) | decide) only [rUz, ↓reduceIte, Nat.reduceEqDiff, Nat.reduceAdd]; exact or_y S _ _ [cmpZ (min2 x.2.1 x.2.2) (min2 y.2.1 y.2.2), cmpZ (surZ y) (surZ x)] (.inr ⟨g6.nx, 2, g6.nx, false, rfl, Nat.lt_succ_self _, ag_eq rfl⟩) (by simp)) (Nat.le_of_ble_eq_true rfl) ?_
  rintro u g7 - ⟨rfl, rfl⟩
  refine ⟨?_, ?_⟩
  · try simp (disch := first | decide | rfl) only [again_nil, again_skip, again_free]
  simp (disch := first | omega | (simp only [add_nx, upd_nx] <;> omega) | decide) only [rUz, ↓reduceIte, Nat.reduceEqDiff, Nat.reduceAdd, rDz, infoL, Nat.reduceSub]
  refine S.ret ?_
  try simp only [seqK_ret, blockK_ret]
  subst hF
  simp only [finish, endMarks]
  rw [show Tryz.f72.results.toList = [.tmp 4] from rfl]
  simp (disch := first | omega | (simp only [add_nx, upd_nx] <;> omega) | decide) only [resA, ev_tmp, tget_ne, tget_eq, get_ne, get_eq, upd_eq, upd_ne, ag_eq, ag_ne, result1]
  exact hK _ _ ((hk1.trans (hk14.trans hk5)).add) rfl
end Go.Proofs.Po
