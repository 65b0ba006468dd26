import Derived.Test.YtkocecoddghmbaaGreatPtA
import Derived.Test.YtkocecoddghmbaaGreatPoO
/- Records and sales, by the reference. -/
namespace Go.Proofs.Po
open Go Go.Ev Go.RowKit
set_option linter.unusedSimpArgs false
variable {pr : Prim} {R : ExT}
structure IBc (l : List Sa) (H : AHeap) (sv : Value) (k : Nat) (t : T Value) (h : AHeap) : Prop where
  kp : Kp H h
  ex : ∃ u F, App H.nx h 4 u ((l.take k).map cSa) F ∧ tget t 3 = u
  t0 : tget t 0 = sv
  t4 : tget t 4 = iv (k : Int)
  hk : k ≤ l.length
theorem bcSx (x : Sa) : rBuild Tryz.prog 57 [(0, iv x.bu), (1, iv x.se), (2, iv x.nu), (3, iv x.pr)] = some (.agg ⟨cSa x⟩) := bcS _ _ _ _
set_option maxHeartbeats 16000000 in
theorem salesC_y (S : Ev.Steps Tryz.prog pr R) (h0 : AHeap) (sv : Value) (l : List Sa) (hs : SlAt h0 4 sv (l.map cSa)) (hl : l.length ≤ 1000) :
    Brings Tryz.prog R 24 [sv] h0 fun u h => SlAt h 4 u (l.map cSa) := by
  refine brings_of (fn := Tryz.f24) (c := (Tryz.f24.body).getD .skip) (by kernel_rfl) rfl (by kernel_rfl) rfl (fun K hK => ?_)
  generalize hF : finish Tryz.prog Tryz.f24 K = KF
  simp only [Tryz.f24, Option.getD_some, argsT, setArgs, fV1_eq, T.setK_eq, id]
  repeat refine S.seq ?_
  refine S.region ?_
  simp (disch := first | omega | (simp only [add_nx, upd_nx] <;> omega) | decide) only [rUz, ↓reduceIte, Nat.reduceEqDiff, Nat.reduceAdd]
  repeat refine S.seq ?_
  refine S.region ?_
  simp (disch := first | omega | (simp only [add_nx, upd_nx] <;> omega) | decide) only [rUz, ↓reduceIte, Nat.reduceEqDiff, Nat.reduceAdd]
  repeat refine S.seq ?_
  refine S.region ?_
  simp (disch := first | omega | (simp only [add_nx, upd_nx] <;> omega) | decide) only [rUz, ↓reduceIte, Nat.reduceEqDiff, Nat.reduceAdd]
  repeat refine S.seq ?_
  refine S.block ?_
  refine S.loop (ι := Nat) (IBc l h0 sv) (fun k => l.length - k) ?_ 0 _ _ ?_
  rotate_left
  · refine ⟨Kp.refl, ⟨nl, 0, .inl ⟨rfl, rfl⟩, ?_⟩, ?_, ?_, Nat.zero_le _⟩
    all_goals (first | rfl | (simp (disch := first | omega | (simp only [add_nx, upd_nx] <;> omega) | decide) only [rUz, ↓reduceIte, Nat.reduceEqDiff, Nat.reduceAdd]; done) | (simp (disch := first | omega | (simp only [add_nx, upd_nx] <;> omega) | decide) only [rUz, ↓reduceIte, Nat.reduceEqDiff, Nat.reduceAdd]; rfl))
  intro k t h ⟨kp, ⟨u, F, app, t3⟩, t0, t4, hk⟩ K' hn he
  have lS := fun t h1 o => row_len (SlAt.mono hs kp) isrS t h1 o
  repeat refine S.seq ?_
  refine S.region ?_
  simp (disch := first | omega | (simp only [add_nx, upd_nx] <;> omega) | decide) only [rUz, ↓reduceIte, Nat.reduceEqDiff, Nat.reduceAdd, t0, t4, lS]
  repeat refine S.seq ?_
  refine S.cond (v := decide ((k : Int) < (l.length : Int))) (by first | rfl | (simp (disch := first | omega | (simp only [add_nx, upd_nx] <;> omega) | decide) only [rUz, ↓reduceIte, Nat.reduceEqDiff, Nat.reduceAdd] <;> rfl)) (fun e => ?_) (fun e => ?_)
  · have hkn : k < l.length := by have := of_decide_eq_true e; omega
    clear e
    have hps : l[k]? = some l[k] := List.getElem?_eq_getElem hkn
    have hrows : (l.take (k + 1)).map cSa = (l.take k).map cSa ++ [cSa l[k]] := by rw [take_snoc hkn, List.map_append]; rfl
    generalize l[k] = x at hps hrows
    obtain ⟨b, f, ro, cells, q1, q2, q3, q4, q5, q6⟩ := row_idx (SlAt.mono hs kp) slrS srS hps
    have c0 := q6 0 _ (cSa0 x)
    have c1 := q6 1 _ (cSa1 x)
    have c2' := q6 2 _ (cSa2 x)
    have c3' := q6 3 _ (cSa3 x)
    rw [Nat.add_zero] at c0
    repeat refine S.seq ?_
    refine S.skip ?_
    simp (disch := first | omega | (simp only [add_nx, upd_nx] <;> omega) | decide) only [rUz, ↓reduceIte, Nat.reduceEqDiff, Nat.reduceAdd]
    repeat refine S.seq ?_
    refine S.block ?_
    repeat refine S.seq ?_
    refine S.drawnL [(false, 0), (false, 0), (false, 0), (false, 6), (false, 14), (false, 30), (false, 0), (false, 0), (false, 192), (false, 448), (false, 960), (false, 0), (false, 0), (false, 6144), (false, 14336), (false, 30720), (false, 0), (false, 0), (false, 196608), (false, 458752), (false, 983040), (false, 2097150), (true, 4194302), (true, 8388607), (false, 16777215)] (by kernel_rfl) (by kernel_rfl) (by kernel_rfl) ?_
    simp (disch := first | omega | (simp only [add_nx, upd_nx] <;> omega) | decide) only [rUz, ↓reduceIte, Nat.reduceEqDiff, Nat.reduceAdd, rDz, infoL, Nat.reduceSub, t0, t3, t4, q1, q3, fieldAddr_ptr frS0 s3, fieldAddr_ptr frS1 s3, fieldAddr_ptr frS2 s3, fieldAddr_ptr frS3 s3, p3, c0, c1, c2', c3', rd_build, List.map_cons, List.map_nil, bcSx]
    refine drW_give (v := .slice (some ⟨h.nx, 0, none⟩) 1 1) (h' := h.add (cSa x)) (aw_lit1 slcS scS zcS rfl (by omega) (u := .agg ⟨cSa x⟩) (l := cSa x) (by simp (disch := first | omega | (simp only [add_nx, upd_nx] <;> omega) | decide) only [rUz, ↓reduceIte, Nat.reduceEqDiff, Nat.reduceAdd]) rfl rfl) (Nat.le_of_ble_eq_true rfl) ?_ ?_
    · try simp (disch := first | decide | rfl) only [again_nil, again_skip, again_free]
    simp (disch := first | omega | (simp only [add_nx, upd_nx] <;> omega) | decide) only [rUz, ↓reduceIte, Nat.reduceEqDiff, Nat.reduceAdd, rDz, infoL, Nat.reduceSub]
    refine drW_app (bx := h.nx) (cx := 1) (v := u) slcS ucS (by simp (disch := first | omega | (simp only [add_nx, upd_nx] <;> omega) | decide) only [rUz, ↓reduceIte, Nat.reduceEqDiff, Nat.reduceAdd, rDz, infoL, Nat.reduceSub]) (by simp (disch := first | omega | (simp only [add_nx, upd_nx] <;> omega) | decide) only [rUz, ↓reduceIte, Nat.reduceEqDiff, Nat.reduceAdd, rDz, infoL, Nat.reduceSub]) (app.mono Kp.refl.add) (by have := kp.1; show h0.nx ≤ h.nx + 1; omega) scS rfl (by omega) (ag_eq rfl) ncS (by rw [List.length_map, List.length_take]; show _ < 1000000; omega) (Nat.le_of_ble_eq_true rfl) ?_
    intro v3 h3 F3 gr
    refine ⟨?_, ?_⟩
    · try simp (disch := first | decide | rfl) only [again_nil, again_skip, again_free]
    simp (disch := first | omega | (simp only [add_nx, upd_nx] <;> omega) | decide) only [rUz, ↓reduceIte, Nat.reduceEqDiff, Nat.reduceAdd, rDz, infoL, Nat.reduceSub]
    repeat refine S.seq ?_
    refine S.region ?_
    simp (disch := first | omega | (simp only [add_nx, upd_nx] <;> omega) | decide) only [rUz, ↓reduceIte, Nat.reduceEqDiff, Nat.reduceAdd, t4]
    have hkp' : Kp h0 h3 := gr.sm.kp (Nat.le_refl _) (kp.trans (Kp.refl.add (c := cSa x)))
    refine hn (k + 1) _ _ (by omega) ⟨hkp', ⟨v3, F3, by rw [hrows]; exact gr.app, ?_⟩, ?_, ?_, by omega⟩
    all_goals (first | rfl | (simp (disch := first | omega | (simp only [add_nx, upd_nx] <;> omega) | decide) only [rUz, ↓reduceIte, Nat.reduceEqDiff, Nat.reduceAdd, t0]; done) | (simp (disch := first | omega | (simp only [add_nx, upd_nx] <;> omega) | decide) only [rUz, ↓reduceIte, Nat.reduceEqDiff, Nat.reduceAdd, t0]; rfl))
  have hkn : k = l.length := by have := of_decide_eq_false e; omega
  subst hkn
  rw [List.take_of_length_le (Nat.le_refl _)] at app
  refine S.exit (he _ _ _ _ (fun e => by cases e) ?_)
  simp (disch := first | omega | (simp only [add_nx, upd_nx] <;> omega) | decide) only [rUz, ↓reduceIte, Nat.reduceEqDiff, Nat.reduceAdd]
  repeat refine S.seq ?_
  refine S.region ?_
  simp (disch := first | omega | (simp only [add_nx, upd_nx] <;> omega) | decide) only [rUz, ↓reduceIte, Nat.reduceEqDiff, Nat.reduceAdd, t3]
  refine S.ret ?_
  try simp only [seqK_ret, blockK_ret]
  subst hF
  simp only [finish, endMarks]
  rw [show Tryz.f24.results.toList = [.tmp 2] from rfl]
  simp (disch := first | omega | (simp only [add_nx, upd_nx] <;> omega) | decide) only [resA, ev_tmp, tget_ne, tget_eq, get_ne, get_eq, upd_eq, upd_ne, ag_eq, ag_ne, result1]
  exact hK _ _ kp app.at

set_option maxHeartbeats 8000000 in
theorem recorded_y (S : Ev.Steps Tryz.prog pr R) (hoff : Off pr) (h0 : AHeap) (v w : Value) (O : List Od) (L : List Sa) (hb : PoAt h0 v O) (hw : SlAt h0 4 w (L.map cSa)) :
    Brings Tryz.prog R 25 [.agg ⟨poV v⟩, w] h0 fun u _ => u = iv (lookZ O L) := by
  refine brings_of (fn := Tryz.f25) (c := (Tryz.f25.body).getD .skip) (by kernel_rfl) rfl (by kernel_rfl) rfl (fun K hK => ?_)
  generalize hF : finish Tryz.prog Tryz.f25 K = KF
  simp only [Tryz.f25, Option.getD_some, argsT, setArgs, fV1_eq, T.setK_eq, id]
  have hK' : ∀ n, n = lookZ O L → ∀ g, Kp h0 g → K (iv n) g = true := fun b e g hk => hK _ _ hk (by rw [e])
  clear hK
  unfold lookZ at hK'
  have lS := fun t h1 o => row_len hw isrS t h1 o
  repeat refine S.seq ?_
  refine S.region ?_
  simp (disch := first | omega | (simp only [add_nx, upd_nx] <;> omega) | decide) only [rUz, ↓reduceIte, Nat.reduceEqDiff, Nat.reduceAdd]
  have hb1 : (h0.add (poV v)).bl.get h0.nx = some (.cells (poV v) h0.nx false) := ag_eq rfl
  have hk1 : Kp h0 (h0.add (poV v)) := Kp.refl.add
  generalize h0.add (poV v) = H at hb1 hk1 ⊢
  generalize h0.nx = B2 at hb1 ⊢
  repeat refine S.seq ?_
  refine S.region ?_
  simp (disch := first | omega | (simp only [add_nx, upd_nx] <;> omega) | decide) only [rUz, ↓reduceIte, Nat.reduceEqDiff, Nat.reduceAdd, hb1, part_0 pA (poV_len v)]
  refine wr_brings (fid := 15) (first := #[]) (captured := #[]) (Post := fun u _ => u = iv (faultZ O)) rfl (hoff _ _ _ rfl) (by simp (disch := first | omega | (simp only [add_nx, upd_nx] <;> omega) | decide) only [rUz, ↓reduceIte, Nat.reduceEqDiff, Nat.reduceAdd]; exact faultw_y S hoff H v O (hb.mono hk1)) ?_
  rintro u g hkg rfl
  simp (disch := first | omega | (simp only [add_nx, upd_nx] <;> omega) | decide) only [rUz, ↓reduceIte, Nat.reduceEqDiff, Nat.reduceAdd]
  cases h1 : decide (faultZ O = 0) with
  | false =>
    rw [h1, cond_false] at hK'
    repeat refine S.seq ?_
    refine S.region ?_
    simp (disch := first | omega | (simp only [add_nx, upd_nx] <;> omega) | decide) only [rUz, ↓reduceIte, Nat.reduceEqDiff, Nat.reduceAdd, h1, Bool.not_false]
    repeat refine S.seq ?_
    refine S.cond (v := true) (by first | rfl | (simp (disch := first | omega | (simp only [add_nx, upd_nx] <;> omega) | decide) only [rUz, ↓reduceIte, Nat.reduceEqDiff, Nat.reduceAdd] <;> rfl)) (fun _ => ?_) (fun e => by cases e)
    repeat refine S.seq ?_
    refine S.region ?_
    simp (disch := first | omega | (simp only [add_nx, upd_nx] <;> omega) | decide) only [rUz, ↓reduceIte, Nat.reduceEqDiff, Nat.reduceAdd]
    refine S.ret ?_
    try simp only [seqK_ret, blockK_ret]
    subst hF
    simp only [finish, endMarks]
    rw [show Tryz.f25.results.toList = [.tmp 4] from rfl]
    simp (disch := first | omega | (simp only [add_nx, upd_nx] <;> omega) | decide) only [resA, ev_tmp, tget_ne, tget_eq, get_ne, get_eq, upd_eq, upd_ne, ag_eq, ag_ne, result1]
    exact hK' _ rfl _ (hk1.trans hkg)
  | true =>
  rw [h1, cond_true] at hK'
  repeat refine S.seq ?_
  refine S.region ?_
  simp (disch := first | omega | (simp only [add_nx, upd_nx] <;> omega) | decide) only [rUz, ↓reduceIte, Nat.reduceEqDiff, Nat.reduceAdd, h1, Bool.not_true]
  repeat refine S.seq ?_
  refine S.cond (v := false) (by first | rfl | (simp (disch := first | omega | (simp only [add_nx, upd_nx] <;> omega) | decide) only [rUz, ↓reduceIte, Nat.reduceEqDiff, Nat.reduceAdd] <;> rfl)) (fun e => by cases e) (fun _ => ?_)
  repeat refine S.seq ?_
  refine S.skip ?_
  simp (disch := first | omega | (simp only [add_nx, upd_nx] <;> omega) | decide) only [rUz, ↓reduceIte, Nat.reduceEqDiff, Nat.reduceAdd]
  cases h2 : decide ((L.length : Int) ≤ 6) with
  | false =>
    rw [h2, cond_false] at hK'
    repeat refine S.seq ?_
    refine S.region ?_
    simp (disch := first | omega | (simp only [add_nx, upd_nx] <;> omega) | decide) only [rUz, ↓reduceIte, Nat.reduceEqDiff, Nat.reduceAdd, lS, gtB, h2, Bool.not_false]
    repeat refine S.seq ?_
    refine S.cond (v := true) (by first | rfl | (simp (disch := first | omega | (simp only [add_nx, upd_nx] <;> omega) | decide) only [rUz, ↓reduceIte, Nat.reduceEqDiff, Nat.reduceAdd] <;> rfl)) (fun _ => ?_) (fun e => by cases e)
    repeat refine S.seq ?_
    refine S.region ?_
    simp (disch := first | omega | (simp only [add_nx, upd_nx] <;> omega) | decide) only [rUz, ↓reduceIte, Nat.reduceEqDiff, Nat.reduceAdd]
    refine S.ret ?_
    try simp only [seqK_ret, blockK_ret]
    subst hF
    simp only [finish, endMarks]
    rw [show Tryz.f25.results.toList = [.tmp 4] from rfl]
    simp (disch := first | omega | (simp only [add_nx, upd_nx] <;> omega) | decide) only [resA, ev_tmp, tget_ne, tget_eq, get_ne, get_eq, upd_eq, upd_ne, ag_eq, ag_ne, result1]
    exact hK' _ rfl _ (hk1.trans hkg)
  | true =>
  rw [h2, cond_true] at hK'
  repeat refine S.seq ?_
  refine S.region ?_
  simp (disch := first | omega | (simp only [add_nx, upd_nx] <;> omega) | decide) only [rUz, ↓reduceIte, Nat.reduceEqDiff, Nat.reduceAdd, lS, gtB, h2, Bool.not_true]
  repeat refine S.seq ?_
  refine S.cond (v := false) (by first | rfl | (simp (disch := first | omega | (simp only [add_nx, upd_nx] <;> omega) | decide) only [rUz, ↓reduceIte, Nat.reduceEqDiff, Nat.reduceAdd] <;> rfl)) (fun e => by cases e) (fun _ => ?_)
  repeat refine S.seq ?_
  refine S.skip ?_
  simp (disch := first | omega | (simp only [add_nx, upd_nx] <;> omega) | decide) only [rUz, ↓reduceIte, Nat.reduceEqDiff, Nat.reduceAdd]
  repeat refine S.seq ?_
  refine S.region ?_
  simp (disch := first | omega | (simp only [add_nx, upd_nx] <;> omega) | decide) only [rUz, ↓reduceIte, Nat.reduceEqDiff, Nat.reduceAdd]
  refine S.ret ?_
  try simp only [seqK_ret, blockK_ret]
  subst hF
  simp only [finish, endMarks]
  rw [show Tryz.f25.results.toList = [.tmp 4] from rfl]
  simp (disch := first | omega | (simp only [add_nx, upd_nx] <;> omega) | decide) only [resA, ev_tmp, tget_ne, tget_eq, get_ne, get_eq, upd_eq, upd_ne, ag_eq, ag_ne, result1]
  exact hK' _ rfl _ (hk1.trans hkg)
/-! ## Explains -/
def fstU (r : Sa) : List Sa → List Bool → Nat → Option Nat
  | a :: l, b :: u, j => bif eqSa a r && !b then some j else fstU r l u (j + 1)
  | [], _, _ => none
  | _ :: _, [], _ => none
def exZ (l : List Sa) : List Sa → List Bool → Bool
  | [], _ => true
  | r :: rs, u => match fstU r l u 0 with
    | none => false
    | some k => exZ l rs (u.set k true)
theorem ex_none {l : List Sa} {r : Sa} {rs : List Sa} {u : List Bool} (h : fstU r l u 0 = none) : exZ l (r :: rs) u = false := by
  show (match fstU r l u 0 with | none => false | some k => exZ l rs (u.set k true)) = false
  rw [h]
theorem ex_some {l : List Sa} {r : Sa} {rs : List Sa} {u : List Bool} {k : Nat} (h : fstU r l u 0 = some k) : exZ l (r :: rs) u = exZ l rs (u.set k true) := by
  show (match fstU r l u 0 with | none => false | some k => exZ l rs (u.set k true)) = _
  rw [h]
theorem slBl : slOf Tryz.prog 98 = some 4 := by kernel_rfl
theorem sb' : sizeB Tryz.prog 4 = some 1 := by kernel_rfl
noncomputable def infb : TypeInfo := (Tryz.prog.info? 4).getD default
theorem infob : Tryz.prog.info? 4 = some infb := by kernel_rfl
theorem infobb : Nat.blt infb.bytes bigNat = true := by kernel_rfl
theorem infobs : infb.size = 1 := by kernel_rfl
theorem zbb : zeroOf Tryz.prog 4 = some (.bool false) := by kernel_rfl
def bv (u : List Bool) : List Value := u.map Value.bool
theorem bv_rep (n : Nat) : (List.replicate n (Value.cells (.bool false)).toList).flatten = bv (List.replicate n false) := by
  unfold bv
  induction n with
  | zero => rfl
  | succ n ih => rw [List.replicate_succ, List.replicate_succ, List.flatten_cons, List.map_cons, ih]; rfl
theorem bv_len (u : List Bool) : (bv u).length = u.length := by unfold bv; rw [List.length_map]
theorem bv_get {u : List Bool} {k : Nat} {b : Bool} (h : u[k]? = some b) : (bv u)[k]? = some (.bool b) := by unfold bv; rw [List.getElem?_map, h]; rfl
theorem bv_set (u : List Bool) (k : Nat) (b : Bool) : (bv u).set k (.bool b) = bv (u.set k b) := by unfold bv; rw [List.map_set]
theorem w_cvu {x : Operand} : isW Tryz.prog (.convert 3 99 x) = false := by
  show isDig Tryz.prog 3 99 = false
  kernel_rfl
theorem shr_0 {i : Nat} (hi : i < 6) {t : T Value} {o : Oper} : rBin Tryz.prog t o .shr 3 (.int .u64 (i : Int)) (iv 0) = some (iv 0) := by
  rcases (by omega : i = 0 ∨ i = 1 ∨ i = 2 ∨ i = 3 ∨ i = 4 ∨ i = 5) with rfl | rfl | rfl | rfl | rfl | rfl <;> kernel_rfl
structure IEo (l rs : List Sa) (lv rv : Value) (B7 : Nat) (h0 : AHeap) (i : Nat) (t : T Value) (h : AHeap) : Prop where
  kp : Kp h0 h
  ex : ∃ u : List Bool, h.bl.get B7 = some (.cells (bv u) B7 false) ∧ u.length = l.length ∧ exZ l rs (List.replicate l.length false) = exZ l (rs.drop i) u
  fm : h.fams.get B7 = some [B7]
  lt : B7 < h.nx
  t0 : tget t 0 = lv
  t1 : tget t 1 = rv
  t2 : tget t 2 = iv 0
  t7 : tget t 7 = .slice (some ⟨B7, 0, none⟩) l.length l.length
  t8 : tget t 8 = iv (i : Int)
  hi : i ≤ rs.length
structure IEi (l : List Sa) (r : Sa) (u : List Bool) (lv rv : Value) (B7 : Nat) (H : AHeap) (i k : Nat) (t : T Value) (h : AHeap) : Prop where
  hh : h = H
  ha : fstU r l u 0 = fstU r (l.drop k) (u.drop k) k
  t0 : tget t 0 = lv
  t1 : tget t 1 = rv
  t2 : tget t 2 = iv 0
  t7 : tget t 7 = .slice (some ⟨B7, 0, none⟩) l.length l.length
  t8 : tget t 8 = iv (i : Int)
  t9 : tget t 9 = .bool false
  t10 : tget t 10 = iv (k : Int)
  hk : k ≤ l.length
set_option maxRecDepth 100000 in
set_option maxHeartbeats 32000000 in
theorem rexplains_y (S : Ev.Steps Tryz.prog pr R) (h0 : AHeap) (lv rv : Value) (l rs : List Sa) (hl : SlAt h0 4 lv (l.map cSa)) (hr : SlAt h0 4 rv (rs.map cSa)) (hl1 : l.length ≤ 1000) (hr6 : rs.length ≤ 6) :
    Brings Tryz.prog R 26 [lv, rv, iv 0] h0 fun v _ => v = .bool (exZ l rs (List.replicate l.length false)) := by
  refine brings_of (fn := Tryz.f26) (c := (Tryz.f26.body).getD .skip) (by kernel_rfl) rfl (by kernel_rfl) rfl (fun K hK => ?_)
  generalize hF : finish Tryz.prog Tryz.f26 K = KF
  simp only [Tryz.f26, Option.getD_some, argsT, setArgs, fV1_eq, T.setK_eq, id]
  have hK' : ∀ b, b = exZ l rs (List.replicate l.length false) → ∀ g, Kp h0 g → K (.bool b) g = true := fun b e g hk => hK _ _ hk (by rw [e])
  clear hK
  have lL := fun t h1 o => row_len hl isrS t h1 o
  have lR := fun t h1 o => row_len hr isrS t h1 o
  repeat refine S.seq ?_
  refine S.region ?_
  simp (disch := first | omega | (simp only [add_nx, upd_nx] <;> omega) | decide) only [rUz, ↓reduceIte, Nat.reduceEqDiff, Nat.reduceAdd]
  repeat refine S.seq ?_
  refine S.region ?_
  simp (disch := first | omega | (simp only [add_nx, upd_nx] <;> omega) | decide) only [rUz, ↓reduceIte, Nat.reduceEqDiff, Nat.reduceAdd, lL, w_makeSlice]
  refine wr_makeRows (k := l.length) (sz := 1) slBl infob zbb infobb infobs rfl (by simp (disch := first | omega | (simp only [add_nx, upd_nx] <;> omega) | decide) only [rUz, ↓reduceIte, Nat.reduceEqDiff, Nat.reduceAdd]) (by simp (disch := first | omega | (simp only [add_nx, upd_nx] <;> omega) | decide) only [rUz, ↓reduceIte, Nat.reduceEqDiff, Nat.reduceAdd]) (by omega) ?_
  rw [bv_rep]
  obtain ⟨B7, hB7⟩ : ∃ z, z = h0.nx := ⟨_, rfl⟩
  have hkA : Kp h0 (h0.add (bv (List.replicate l.length false))) := Kp.refl.add
  have gA : (h0.add (bv (List.replicate l.length false))).bl.get B7 = some (.cells (bv (List.replicate l.length false)) B7 false) := by subst hB7; exact ag_eq rfl
  have fA : (h0.add (bv (List.replicate l.length false))).fams.get B7 = some [B7] := by subst hB7; exact af_eq rfl
  have nA : B7 < (h0.add (bv (List.replicate l.length false))).nx := by subst hB7; exact Nat.lt_succ_self _
  rw [← hB7]
  have h7 : h0.nx ≤ B7 := by omega
  generalize h0.add (bv (List.replicate l.length false)) = HA at hkA gA fA nA ⊢
  clear hB7
  simp (disch := first | omega | (simp only [add_nx, upd_nx] <;> omega) | decide) only [rUz, ↓reduceIte, Nat.reduceEqDiff, Nat.reduceAdd]
  repeat refine S.seq ?_
  refine S.region ?_
  simp (disch := first | omega | (simp only [add_nx, upd_nx] <;> omega) | decide) only [rUz, ↓reduceIte, Nat.reduceEqDiff, Nat.reduceAdd]
  repeat refine S.seq ?_
  refine S.block ?_
  refine S.loop (ι := Nat) (IEo l rs lv rv B7 h0) (fun i => rs.length - i) ?_ 0 _ _ ?_
  rotate_left
  · refine ⟨hkA, ⟨_, gA, by rw [List.length_replicate], by rw [List.drop_zero]⟩, fA, nA, ?_, ?_, ?_, ?_, ?_, Nat.zero_le _⟩
    all_goals (first | rfl | (simp (disch := first | omega | (simp only [add_nx, upd_nx] <;> omega) | decide) only [rUz, ↓reduceIte, Nat.reduceEqDiff, Nat.reduceAdd]; done) | (simp (disch := first | omega | (simp only [add_nx, upd_nx] <;> omega) | decide) only [rUz, ↓reduceIte, Nat.reduceEqDiff, Nat.reduceAdd]; rfl))
  clear hkA gA fA nA
  clear HA
  intro i t h ⟨kp, ⟨u, hu, hul, hex⟩, fm, lt, t0, t1, t2, t7, t8, hi⟩ K' hn he
  repeat refine S.seq ?_
  refine S.region ?_
  simp (disch := first | omega | (simp only [add_nx, upd_nx] <;> omega) | decide) only [rUz, ↓reduceIte, Nat.reduceEqDiff, Nat.reduceAdd, t1, t8, lR]
  repeat refine S.seq ?_
  refine S.cond (v := decide ((i : Int) < (rs.length : Int))) (by first | rfl | (simp (disch := first | omega | (simp only [add_nx, upd_nx] <;> omega) | decide) only [rUz, ↓reduceIte, Nat.reduceEqDiff, Nat.reduceAdd] <;> rfl)) (fun e => ?_) (fun e => ?_)
  · have hin : i < rs.length := by have := of_decide_eq_true e; omega
    clear e
    have hpr : rs[i]? = some rs[i] := List.getElem?_eq_getElem hin
    rw [List.drop_eq_getElem_cons hin] at hex
    generalize rs[i] = r at hpr hex
    obtain ⟨b2, f2, o2, c2', r1, r2, r3, r4, r5, _⟩ := row_idx (SlAt.mono hr kp) slrS srS hpr
    have rp := part_at prS r4 r5
    have hi6 : i < 6 := by omega
    have hcu := conv_u i (by omega)
    have hsh : ∀ (t : T Value) (o : Oper), rBin Tryz.prog t o .shr 3 (.int .u64 (i : Int)) (iv 0) = some (iv 0) := fun t o => shr_0 hi6
    repeat refine S.seq ?_
    refine S.skip ?_
    simp (disch := first | omega | (simp only [add_nx, upd_nx] <;> omega) | decide) only [rUz, ↓reduceIte, Nat.reduceEqDiff, Nat.reduceAdd]
    repeat refine S.seq ?_
    refine S.block ?_
    repeat refine S.seq ?_
    refine S.region ?_
    simp (disch := first | omega | (simp only [add_nx, upd_nx] <;> omega) | decide) only [rUz, ↓reduceIte, Nat.reduceEqDiff, Nat.reduceAdd, t2, t8, w_cvu, rd_conv, hcu, hsh]
    have htm : decide (Int.tmod 0 2 = 1) = false := by decide
    refine optR_of' (bin_rem (i := 0) (j := 2) (by simp (disch := first | omega | (simp only [add_nx, upd_nx] <;> omega) | decide) only [rUz, ↓reduceIte, Nat.reduceEqDiff, Nat.reduceAdd]) (by simp (disch := first | omega | (simp only [add_nx, upd_nx] <;> omega) | decide) only [rUz, ↓reduceIte, Nat.reduceEqDiff, Nat.reduceAdd]) (by omega)) ?_
    simp (disch := first | omega | (simp only [add_nx, upd_nx] <;> omega) | decide) only [rUz, ↓reduceIte, Nat.reduceEqDiff, Nat.reduceAdd, htm]
    repeat refine S.seq ?_
    refine S.cond (v := false) (by first | rfl | (simp (disch := first | omega | (simp only [add_nx, upd_nx] <;> omega) | decide) only [rUz, ↓reduceIte, Nat.reduceEqDiff, Nat.reduceAdd] <;> rfl)) (fun e => by cases e) (fun _ => ?_)
    repeat refine S.seq ?_
    refine S.skip ?_
    simp (disch := first | omega | (simp only [add_nx, upd_nx] <;> omega) | decide) only [rUz, ↓reduceIte, Nat.reduceEqDiff, Nat.reduceAdd]
    repeat refine S.seq ?_
    refine S.region ?_
    simp (disch := first | omega | (simp only [add_nx, upd_nx] <;> omega) | decide) only [rUz, ↓reduceIte, Nat.reduceEqDiff, Nat.reduceAdd]
    repeat refine S.seq ?_
    refine S.region ?_
    simp (disch := first | omega | (simp only [add_nx, upd_nx] <;> omega) | decide) only [rUz, ↓reduceIte, Nat.reduceEqDiff, Nat.reduceAdd]
    repeat refine S.seq ?_
    refine S.block ?_
    refine S.loop (ι := Nat) (IEi l r u lv rv B7 h i) (fun k => l.length - k) ?_ 0 _ _ ?_
    rotate_left
    · refine ⟨rfl, by rw [List.drop_zero, List.drop_zero], ?_, ?_, ?_, ?_, ?_, ?_, ?_, Nat.zero_le _⟩
      all_goals (first | rfl | (simp (disch := first | omega | (simp only [add_nx, upd_nx] <;> omega) | decide) only [rUz, ↓reduceIte, Nat.reduceEqDiff, Nat.reduceAdd, t0, t1, t2, t7, t8]; done) | (simp (disch := first | omega | (simp only [add_nx, upd_nx] <;> omega) | decide) only [rUz, ↓reduceIte, Nat.reduceEqDiff, Nat.reduceAdd, t0, t1, t2, t7, t8]; rfl))
    clear t0 t1 t2 t7 t8
    clear t
    intro k t h' ⟨hh, ha, t0, t1, t2, t7, t8, t9, t10, hk⟩ K2 hn2 he2
    subst hh
    repeat refine S.seq ?_
    refine S.region ?_
    simp (disch := first | omega | (simp only [add_nx, upd_nx] <;> omega) | decide) only [rUz, ↓reduceIte, Nat.reduceEqDiff, Nat.reduceAdd, t0, t10, lL]
    repeat refine S.seq ?_
    refine S.cond (v := decide ((k : Int) < (l.length : Int))) (by first | rfl | (simp (disch := first | omega | (simp only [add_nx, upd_nx] <;> omega) | decide) only [rUz, ↓reduceIte, Nat.reduceEqDiff, Nat.reduceAdd] <;> rfl)) (fun e => ?_) (fun e => ?_)
    · have hkn : k < l.length := by have := of_decide_eq_true e; omega
      clear e
      have hku : k < u.length := by omega
      have hps : l[k]? = some l[k] := List.getElem?_eq_getElem hkn
      have hub : u[k]? = some u[k] := List.getElem?_eq_getElem hku
      rw [List.drop_eq_getElem_cons hkn, List.drop_eq_getElem_cons hku, fstU] at ha
      generalize l[k] = a at hps ha
      generalize u[k] = b at hub ha
      obtain ⟨b1, f1, o1, c1, q1, q2, q3, q4, q5, _⟩ := row_idx (SlAt.mono hl kp) slrS srS hps
      have qp := part_at prS q4 q5
      have hg := bv_get hub
      have i7 : ∀ c, rIndexAddr Tryz.prog 98 (.slice (some ⟨B7, 0, none⟩) l.length c) (iv (k : Int)) = some (.pointer (some ⟨B7, k, none⟩)) := fun c => by rw [indexAddr_sl slBl sb' hkn, Nat.zero_add, Nat.mul_one]
      repeat refine S.seq ?_
      refine S.skip ?_
      simp (disch := first | omega | (simp only [add_nx, upd_nx] <;> omega) | decide) only [rUz, ↓reduceIte, Nat.reduceEqDiff, Nat.reduceAdd]
      repeat refine S.seq ?_
      refine S.block ?_
      repeat refine S.seq ?_
      refine S.drawnL [(false, 0), (false, 0), (false, 3), (false, 7), (false, 0), (false, 0), (false, 48), (false, 112), (false, 255), (false, 511), (false, 1023), (false, 1023), (false, 4095), (false, 8191), (false, 16383), (false, 32767)] (by kernel_rfl) (by kernel_rfl) (by kernel_rfl) ?_
      simp (disch := first | omega | (simp only [add_nx, upd_nx] <;> omega) | decide) only [rUz, ↓reduceIte, Nat.reduceEqDiff, Nat.reduceAdd, rDz, infoL, Nat.reduceSub, t0, t1, t8, t10, q1, q3, qp, r1, r3, rp]
      refine drR_of' (v := .bool (eqSa a r)) (bin_eqInts kSaR gSaR rfl (eqInts_Sa a r) (plain_Sa a) (plain_Sa r) (by simp (disch := first | omega | (simp only [add_nx, upd_nx] <;> omega) | decide) only [rUz, ↓reduceIte, Nat.reduceEqDiff, Nat.reduceAdd, rDz, infoL, Nat.reduceSub]) (by simp (disch := first | omega | (simp only [add_nx, upd_nx] <;> omega) | decide) only [rUz, ↓reduceIte, Nat.reduceEqDiff, Nat.reduceAdd, rDz, infoL, Nat.reduceSub])) ?_
      cases hq : eqSa a r with
      | false =>
        rw [hq, Bool.false_and, cond_false] at ha
        simp (disch := first | omega | (simp only [add_nx, upd_nx] <;> omega) | decide) only [rUz, ↓reduceIte, Nat.reduceEqDiff, Nat.reduceAdd, rDz, infoL, Nat.reduceSub]
        repeat refine S.seq ?_
        refine S.cond (v := false) (by first | rfl | (simp (disch := first | omega | (simp only [add_nx, upd_nx] <;> omega) | decide) only [rUz, ↓reduceIte, Nat.reduceEqDiff, Nat.reduceAdd] <;> rfl)) (fun e => by cases e) (fun _ => ?_)
        repeat refine S.seq ?_
        refine S.skip ?_
        simp (disch := first | omega | (simp only [add_nx, upd_nx] <;> omega) | decide) only [rUz, ↓reduceIte, Nat.reduceEqDiff, Nat.reduceAdd]
        repeat refine S.seq ?_
        refine S.region ?_
        simp (disch := first | omega | (simp only [add_nx, upd_nx] <;> omega) | decide) only [rUz, ↓reduceIte, Nat.reduceEqDiff, Nat.reduceAdd, t10]
        refine hn2 (k + 1) _ _ (by omega) ⟨rfl, ha, ?_, ?_, ?_, ?_, ?_, ?_, ?_, by omega⟩
        all_goals (first | rfl | (simp (disch := first | omega | (simp only [add_nx, upd_nx] <;> omega) | decide) only [rUz, ↓reduceIte, Nat.reduceEqDiff, Nat.reduceAdd, t0, t1, t2, t7, t8, t9]; done) | (simp (disch := first | omega | (simp only [add_nx, upd_nx] <;> omega) | decide) only [rUz, ↓reduceIte, Nat.reduceEqDiff, Nat.reduceAdd, t0, t1, t2, t7, t8, t9]; rfl))
      | true =>
      rw [hq, Bool.true_and] at ha
      cases b with
      | true =>
        rw [Bool.not_true, cond_false] at ha
        simp (disch := first | omega | (simp only [add_nx, upd_nx] <;> omega) | decide) only [rUz, ↓reduceIte, Nat.reduceEqDiff, Nat.reduceAdd, rDz, infoL, Nat.reduceSub, t7, t10, i7, hu, pb, hg, un_not, Bool.not_true]
        repeat refine S.seq ?_
        refine S.cond (v := false) (by first | rfl | (simp (disch := first | omega | (simp only [add_nx, upd_nx] <;> omega) | decide) only [rUz, ↓reduceIte, Nat.reduceEqDiff, Nat.reduceAdd] <;> rfl)) (fun e => by cases e) (fun _ => ?_)
        repeat refine S.seq ?_
        refine S.skip ?_
        simp (disch := first | omega | (simp only [add_nx, upd_nx] <;> omega) | decide) only [rUz, ↓reduceIte, Nat.reduceEqDiff, Nat.reduceAdd]
        repeat refine S.seq ?_
        refine S.region ?_
        simp (disch := first | omega | (simp only [add_nx, upd_nx] <;> omega) | decide) only [rUz, ↓reduceIte, Nat.reduceEqDiff, Nat.reduceAdd, t10]
        refine hn2 (k + 1) _ _ (by omega) ⟨rfl, ha, ?_, ?_, ?_, ?_, ?_, ?_, ?_, by omega⟩
        all_goals (first | rfl | (simp (disch := first | omega | (simp only [add_nx, upd_nx] <;> omega) | decide) only [rUz, ↓reduceIte, Nat.reduceEqDiff, Nat.reduceAdd, t0, t1, t2, t7, t8, t9]; done) | (simp (disch := first | omega | (simp only [add_nx, upd_nx] <;> omega) | decide) only [rUz, ↓reduceIte, Nat.reduceEqDiff, Nat.reduceAdd, t0, t1, t2, t7, t8, t9]; rfl))
      | false =>
        rw [Bool.not_false, cond_true] at ha
        rw [ex_some ha] at hex
        have hbl : k < (bv u).length := by rw [bv_len]; omega
        simp (disch := first | omega | (simp only [add_nx, upd_nx] <;> omega) | decide) only [rUz, ↓reduceIte, Nat.reduceEqDiff, Nat.reduceAdd, rDz, infoL, Nat.reduceSub, t7, t10, i7, hu, pb, hg, un_not, Bool.not_false]
        repeat refine S.seq ?_
        refine S.cond (v := true) (by first | rfl | (simp (disch := first | omega | (simp only [add_nx, upd_nx] <;> omega) | decide) only [rUz, ↓reduceIte, Nat.reduceEqDiff, Nat.reduceAdd] <;> rfl)) (fun _ => ?_) (fun e => by cases e)
        repeat refine S.seq ?_
        refine S.region ?_
        simp (disch := first | omega | (simp only [add_nx, upd_nx] <;> omega) | decide) only [rUz, ↓reduceIte, Nat.reduceEqDiff, Nat.reduceAdd, t7, t10, i7]
        refine wr_store sb' ?_
        simp (disch := first | omega | (simp only [add_nx, upd_nx] <;> omega) | decide) only [rUz, ↓reduceIte, Nat.reduceEqDiff, Nat.reduceAdd, hu, fm, hbl]
        rw [bv_set]
        refine S.exit ?_
        rw [blockK_out (by decide)]
        refine he2 _ _ _ _ (fun e => by cases e) ?_
        simp (disch := first | omega | (simp only [add_nx, upd_nx] <;> omega) | decide) only [rUz, ↓reduceIte, Nat.reduceEqDiff, Nat.reduceAdd]
        repeat refine S.seq ?_
        refine S.region ?_
        simp (disch := first | omega | (simp only [add_nx, upd_nx] <;> omega) | decide) only [rUz, ↓reduceIte, Nat.reduceEqDiff, Nat.reduceAdd, un_not, Bool.not_true]
        repeat refine S.seq ?_
        refine S.cond (v := false) (by first | rfl | (simp (disch := first | omega | (simp only [add_nx, upd_nx] <;> omega) | decide) only [rUz, ↓reduceIte, Nat.reduceEqDiff, Nat.reduceAdd] <;> rfl)) (fun e => by cases e) (fun _ => ?_)
        repeat refine S.seq ?_
        refine S.skip ?_
        simp (disch := first | omega | (simp only [add_nx, upd_nx] <;> omega) | decide) only [rUz, ↓reduceIte, Nat.reduceEqDiff, Nat.reduceAdd]
        repeat refine S.seq ?_
        refine S.region ?_
        simp (disch := first | omega | (simp only [add_nx, upd_nx] <;> omega) | decide) only [rUz, ↓reduceIte, Nat.reduceEqDiff, Nat.reduceAdd, t8]
        refine hn (i + 1) _ _ (by omega) ⟨kp.upd h7, ⟨u.set k true, upd_eq _ _ _, by rw [List.length_set]; exact hul, hex⟩, fm, lt, ?_, ?_, ?_, ?_, ?_, by omega⟩
        all_goals (first | rfl | (simp (disch := first | omega | (simp only [add_nx, upd_nx] <;> omega) | decide) only [rUz, ↓reduceIte, Nat.reduceEqDiff, Nat.reduceAdd, t0, t1, t2, t7]; done) | (simp (disch := first | omega | (simp only [add_nx, upd_nx] <;> omega) | decide) only [rUz, ↓reduceIte, Nat.reduceEqDiff, Nat.reduceAdd, t0, t1, t2, t7]; rfl))
    have hkn : k = l.length := by have := of_decide_eq_false e; omega
    subst hkn
    rw [List.drop_of_length_le (Nat.le_refl _), fstU] at ha
    rw [ex_none ha] at hex
    refine S.exit (he2 _ _ _ _ (fun e => by cases e) ?_)
    simp (disch := first | omega | (simp only [add_nx, upd_nx] <;> omega) | decide) only [rUz, ↓reduceIte, Nat.reduceEqDiff, Nat.reduceAdd]
    repeat refine S.seq ?_
    refine S.region ?_
    simp (disch := first | omega | (simp only [add_nx, upd_nx] <;> omega) | decide) only [rUz, ↓reduceIte, Nat.reduceEqDiff, Nat.reduceAdd, t9, un_not, Bool.not_false]
    repeat refine S.seq ?_
    refine S.cond (v := true) (by first | rfl | (simp (disch := first | omega | (simp only [add_nx, upd_nx] <;> omega) | decide) only [rUz, ↓reduceIte, Nat.reduceEqDiff, Nat.reduceAdd] <;> rfl)) (fun _ => ?_) (fun e => by cases e)
    repeat refine S.seq ?_
    refine S.region ?_
    simp (disch := first | omega | (simp only [add_nx, upd_nx] <;> omega) | decide) only [rUz, ↓reduceIte, Nat.reduceEqDiff, Nat.reduceAdd]
    refine S.ret ?_
    simp only [seqK_ret, blockK_ret]
    refine he _ _ _ _ (fun e => by cases e) ?_
    try simp only [seqK_ret, blockK_ret]
    subst hF
    simp only [finish, endMarks]
    rw [show Tryz.f26.results.toList = [.tmp 6] from rfl]
    simp (disch := first | omega | (simp only [add_nx, upd_nx] <;> omega) | decide) only [resA, ev_tmp, tget_ne, tget_eq, get_ne, get_eq, upd_eq, upd_ne, ag_eq, ag_ne, result1]
    exact hK' _ hex.symm _ kp
  have hin : i = rs.length := by have := of_decide_eq_false e; omega
  subst hin
  rw [List.drop_of_length_le (Nat.le_refl _), exZ] at hex
  refine S.exit (he _ _ _ _ (fun e => by cases e) ?_)
  simp (disch := first | omega | (simp only [add_nx, upd_nx] <;> omega) | decide) only [rUz, ↓reduceIte, Nat.reduceEqDiff, Nat.reduceAdd]
  repeat refine S.seq ?_
  refine S.region ?_
  simp (disch := first | omega | (simp only [add_nx, upd_nx] <;> omega) | decide) only [rUz, ↓reduceIte, Nat.reduceEqDiff, Nat.reduceAdd]
  refine S.ret ?_
  try simp only [seqK_ret, blockK_ret]
  subst hF
  simp only [finish, endMarks]
  rw [show Tryz.f26.results.toList = [.tmp 6] from rfl]
  simp (disch := first | omega | (simp only [add_nx, upd_nx] <;> omega) | decide) only [resA, ev_tmp, tget_ne, tget_eq, get_ne, get_eq, upd_eq, upd_ne, ag_eq, ag_ne, result1]
  exact hK' _ hex.symm _ kp
end Go.Proofs.Po
