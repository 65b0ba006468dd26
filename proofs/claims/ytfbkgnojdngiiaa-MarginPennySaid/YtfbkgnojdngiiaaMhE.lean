import Derived.Test.YtfbkgnojdngiiaaMhD
/- A bank at work: how a loan stands on a day, with what is known already. -/
namespace Go.Proofs.Mg
open Go Go.Ev Go.RowKit
set_option linter.unusedSimpArgs false
variable {pr : Prim} {R : ExT}
/-- How a loan stands on a day. -/
def stdF (x : PL) (Ts : List PT) (rt : List Int) (d : Nat) : N3 := (owedZ x.2.1 x.2.2.1 (vsF x.2.2.2 Ts) (rsF rt) d, vsF x.2.2.2 Ts d, x.2.2.1)
structure Memo (L : List PL) (Ts : List PT) (rt : List Int) (M : GL N3) : Prop where
  ok : ∀ e, e ∈ M → ∃ (i d : Nat) (x : PL), e.1 = ((i : Int), (d : Int)) ∧ L[i]? = some x ∧ e.2 = stdF x Ts rt d
theorem Memo.get {L : List PL} {Ts : List PT} {rt : List Int} {M : GL N3} (k : Memo L Ts rt M) {i d : Nat} {x : PL} (hx : L[i]? = some x) {y : Nat × N3} (h : lkG M ((i : Int), (d : Int)) 0 = some y) : y.2 = stdF x Ts rt d := by
  obtain ⟨i', d', x', e1, e2, e3⟩ := k.ok _ (lkG_mem h)
  have h1 : (i : Int) = (i' : Int) := congrArg Prod.fst e1
  have h2 : (d : Int) = (d' : Int) := congrArg Prod.snd e1
  obtain rfl : i = i' := by omega
  obtain rfl : d = d' := by omega
  rw [hx] at e2
  cases e2
  exact e3
theorem Memo.snoc {L : List PL} {Ts : List PT} {rt : List Int} {M : GL N3} (k : Memo L Ts rt M) {i d : Nat} {x : PL} (hx : L[i]? = some x) : Memo L Ts rt (M ++ [(((i : Int), (d : Int)), stdF x Ts rt d)]) := ⟨fun e he => by
  rcases List.mem_append.1 he with he | he
  · exact k.ok e he
  · obtain rfl := List.mem_singleton.1 he
    exact ⟨i, d, x, rfl, hx, rfl⟩⟩
section
variable {h h' : AHeap} {r n : Nat} {es : List MapEntry}
theorem BkAt.frm {dv lv : Value} {D : List PD} {L : List PL} (k : BkAt h dv lv D L) (a : Fr h r h') (hm : h.bl.get r = some (.map es n)) : BkAt h' dv lv D L :=
  ⟨k.dy.frm a hm, fun x hx => (k.pr x hx).frm a hm, k.ln.frm a hm, fun x hx => (k.sh x hx).frm a hm⟩
theorem TuAt.frm {pv rv : Value} {Ts : List PT} {rt : List Int} (k : TuAt h pv rv Ts rt) (a : Fr h r h') (hm : h.bl.get r = some (.map es n)) : TuAt h' pv rv Ts rt :=
  ⟨k.pr.frm a hm, fun x hx => (k.ps x hx).frm a hm, k.rt.frm a hm⟩
end
/-- A bank at work. -/
structure WAt (h : AHeap) (Bw r : Nat) (st : Int) (dv lv pv rv : Value) (D : List PD) (L : List PL) (Ts : List PT) (rt : List Int) (M : GL N3) : Prop where
  bw : h.bl.get Bw = some (.cells (wkV st dv lv pv rv r) Bw false)
  lw : Bw < h.nx
  lr : r < h.nx
  ne : Bw ≠ r
  bk : BkAt h dv lv D L
  tu : TuAt h pv rv Ts rt
  mp : h.bl.get r = some (.map (mkG c3 M 0) M.length)
  mm : Memo L Ts rt M
/-- What is known of later days is known no more. -/
def Later (M M' : GL N3) (d : Nat) : Prop := ∀ p : II, (d : Int) < p.2 → lkG M p 0 = none → lkG M' p 0 = none
section
variable {h h' : AHeap} {Bw r : Nat} {st : Int} {dv lv pv rv : Value} {D : List PD} {L : List PL} {Ts : List PT} {rt : List Int} {M M0 : GL N3}
theorem WAt.kp (k : WAt h Bw r st dv lv pv rv D L Ts rt M) (a : Kp h h') : WAt h' Bw r st dv lv pv rv D L Ts rt M :=
  ⟨(a.get k.lw).trans k.bw, Nat.lt_of_lt_of_le k.lw a.1, Nat.lt_of_lt_of_le k.lr a.1, k.ne, k.bk.mono a, k.tu.mono a, (a.get k.lr).trans k.mp, k.mm⟩
/-- A store into a block that is new. -/
theorem WAt.updN {h0 : AHeap} {B : Nat} {c : List Value} (k : WAt h Bw r st dv lv pv rv D L Ts rt M) (k0 : WAt h0 Bw r st dv lv pv rv D L Ts rt M0) (a : Fr h0 r h) (hB : h0.nx ≤ B) : WAt (h.upd B c B) Bw r st dv lv pv rv D L Ts rt M := by
  have hw := k0.lw
  have hr := k0.lr
  have f : Fr h0 r (h.upd B c B) := ⟨a.le, fun j hj hn => by rw [upd_ne _ _ _ (by omega)]; exact a.bl j hj hn, fun j hj => by rw [upd_fams]; exact a.fam j hj⟩
  exact ⟨by rw [upd_ne _ _ _ (by omega)]; exact k.bw, k.lw, k.lr, k.ne, k0.bk.frm f k0.mp, k0.tu.frm f k0.mp, by rw [upd_ne _ _ _ (by omega)]; exact k.mp, k.mm⟩
theorem fr_updN {h0 : AHeap} {B : Nat} {c : List Value} (a : Fr h0 r h) (hB : h0.nx ≤ B) : Fr h0 r (h.upd B c B) := ⟨a.le, fun j hj hn => by rw [upd_ne _ _ _ (by omega)]; exact a.bl j hj hn, fun j hj => by rw [upd_fams]; exact a.fam j hj⟩
end
theorem veq_c2 (p : R2) : veq (.agg ⟨c2 p⟩) (.agg ⟨c2 p⟩) = true := by
  simp only [c2, veq, veqA, veqL, beqKind, beqI_eq, decide_true, Bool.and_self]
theorem veq_cL (x : PL) (hx : veq x.1 x.1 = true) : veq (.agg ⟨cL x⟩) (.agg ⟨cL x⟩) = true := by
  simp only [cL, veq, veqA, veqL, hx, beqKind, beqI_eq, decide_true, Bool.and_self]
/-- What asking how a loan stands brings. -/
def AtPost (h0 : AHeap) (Bw r : Nat) (st : Int) (dv lv pv rv : Value) (D : List PD) (L : List PL) (Ts : List PT) (rt : List Int) (M : GL N3) (x : PL) (d : Nat) (u : Value) (h : AHeap) : Prop :=
  u = .agg ⟨c3 (stdF x Ts rt d)⟩ ∧ Fr h0 r h ∧ ∃ M', WAt h Bw r st dv lv pv rv D L Ts rt M' ∧ Later M M' d
theorem std_ok {st : Int} {D : List PD} {L : List PL} {Ts : List PT} {rt : List Int} (hv : Val st D L) (ht : Tru st D.length Ts rt) {i d : Nat} {x : PL} (hx : L[i]? = some x) (hd : d < D.length) : StOk (stdF x Ts rt d) := by
  have hok := okL_iff.1 (hv.ln x (List.mem_of_getElem? hx))
  have hs4 := hv.s4
  have hl := hok.len
  have hr := rates_of ht hok.sh (by omega)
  have ho := owed_bnd hr hok.m0 hok.m1 hok.g0 hok.g1 hv.d4 hd
  have hvv := hr.v d hd
  exact ⟨ho.1, ho.2, hvv.1, hvv.2, hok.g0, hok.g1⟩
theorem due_std {x : PL} {Ts : List PT} {rt : List Int} {d : Nat} : dueZ (stdF x Ts rt d) = debtZ x.2.1 x.2.2.1 (vsF x.2.2.2 Ts) (rsF rt) (d + 1) := rfl
set_option maxHeartbeats 32000000 in
theorem at_step (S : Ev.Steps Try.prog pr R) (hoff : Off pr) (Bw r : Nat) (st : Int) (dv lv pv rv : Value) (D : List PD) (L : List PL) (Ts : List PT) (rt : List Int) (hv : Val st D L) (htr : Tru st D.length Ts rt) (i : Nat) (x : PL) (hx : L[i]? = some x) (d : Nat) (hd : d < D.length)
    (hrec : ∀ d', d = d' + 1 → ∀ (h0 : AHeap) (M : GL N3), WAt h0 Bw r st dv lv pv rv D L Ts rt M → BringsX Try.prog R 49 [ptr0 Bw, .agg ⟨c2 ((i : Int), (d' : Int))⟩] h0 (AtPost h0 Bw r st dv lv pv rv D L Ts rt M x d'))
    (h0 : AHeap) (M : GL N3) (hw : WAt h0 Bw r st dv lv pv rv D L Ts rt M) :
    BringsX Try.prog R 49 [ptr0 Bw, .agg ⟨c2 ((i : Int), (d : Int))⟩] h0 (AtPost h0 Bw r st dv lv pv rv D L Ts rt M x d) := by
  refine bringsX_of (fn := Try.f49) (c := (Try.f49.body).getD .skip) (by kernel_rfl) rfl (by kernel_rfl) rfl (fun K hK => ?_)
  generalize hF : finish Try.prog Try.f49 K = KF
  simp only [Try.f49, Option.getD_some, argsT, setArgs, fV1_eq, T.setK_eq, id]
  have hd4 := hv.d4
  repeat refine S.seq ?_
  refine S.region ?_
  simp (disch := first | omega | (simp only [add_nx, upd_nx] <;> omega) | decide) only [rUz, ↓reduceIte, Nat.reduceEqDiff, Nat.reduceAdd, wr_alloc zN]
  obtain ⟨B3, hB3⟩ : ∃ x, x = h0.nx := ⟨_, rfl⟩
  obtain ⟨B4, hB4⟩ : ∃ x, x = h0.nx + 1 := ⟨_, rfl⟩
  have hb3 : ((h0.add (c2 ((i : Int), (d : Int)))).add [iv 0, iv 0, iv 0]).bl.get B3 = some (.cells (c2 ((i : Int), (d : Int))) B3 false) := by simp (disch := first | omega | (simp only [add_nx, upd_nx] <;> omega) | decide) only [ag_ne]; subst hB3; exact ag_eq rfl
  have hb4 : ((h0.add (c2 ((i : Int), (d : Int)))).add [iv 0, iv 0, iv 0]).bl.get B4 = some (.cells [iv 0, iv 0, iv 0] B4 false) := by subst hB4; exact ag_eq rfl
  have hf4 : ((h0.add (c2 ((i : Int), (d : Int)))).add [iv 0, iv 0, iv 0]).fams.get B4 = some [B4] := by subst hB4; exact af_eq rfl
  have hk1 : Kp h0 ((h0.add (c2 ((i : Int), (d : Int)))).add [iv 0, iv 0, iv 0]) := Kp.refl.add.add
  have hn4 : B4 < ((h0.add (c2 ((i : Int), (d : Int)))).add [iv 0, iv 0, iv 0]).nx := by show B4 < h0.nx + 2; omega
  have h03 : h0.nx ≤ B3 := by omega
  have h34 : B3 < B4 := by omega
  rw [← hB4, ← hB3]
  generalize (h0.add (c2 ((i : Int), (d : Int)))).add [iv 0, iv 0, iv 0] = H at hb3 hb4 hf4 hk1 hn4 ⊢
  clear hB3 hB4
  have hwH := hw.kp hk1
  have hve1 : veq (.map (some r)) (.map (some r)) = true := by simp only [veq, Nat.beq_refl]
  have hb3r : B3 ≠ r := by have := hw.lr; omega
  have hb4r : B4 ≠ r := by have := hw.lr; omega
  have hrw : r < h0.nx := hw.lr
  have hww : Bw < h0.nx := hw.lw
  obtain ⟨B5, hB5⟩ : ∃ x, x = H.nx := ⟨_, rfl⟩
  have hpk : partL Try.prog 98 (c2 ((i : Int), (d : Int))) 0 = some (.agg ⟨Go.Ev.pv ((i : Int), (d : Int))⟩) := part_0 (l := c2 ((i : Int), (d : Int))) pP rfl
  have hve3 : veq (.agg ⟨Go.Ev.pv ((i : Int), (d : Int))⟩) (.agg ⟨Go.Ev.pv ((i : Int), (d : Int))⟩) = true := veq_c2 _
  obtain ⟨y, hy, hy1, hy2⟩ : ∃ y : N3 × Bool, lkTG c3 (.agg ⟨[iv 0, iv 0, iv 0]⟩) (lkG M ((i : Int), (d : Int)) 0) = .tuple #[.agg ⟨c3 y.1⟩, .bool y.2] ∧ (y.2 = true → y.1 = stdF x Ts rt d) ∧ (y.2 = false → lkG M ((i : Int), (d : Int)) 0 = none) := by
    cases hlk : lkG M ((i : Int), (d : Int)) 0 with
    | some y => exact ⟨(y.2, true), rfl, fun _ => hw.mm.get hx hlk, (fun e => by cases e)⟩
    | none => exact ⟨((0, 0, 0), false), rfl, (fun e => by cases e), fun _ => rfl⟩
  have hvt : veq (.tuple #[.agg ⟨c3 y.1⟩, .bool y.2]) (.tuple #[.agg ⟨c3 y.1⟩, .bool y.2]) = true := by
    cases y.2 <;> simp only [c3, veq, veqA, veqL, beqKind, beqI_eq, decide_true, Bool.and_self, beqB]
  repeat refine S.seq ?_
  refine S.drawnL [(false, 0), (false, 1), (false, 3), (false, 7), (false, 0), (false, 31), (false, 63), (false, 127), (false, 127), (true, 0), (true, 767), (false, 2047)] (by kernel_rfl) (by kernel_rfl) (by kernel_rfl) ?_
  generalize hJJ : (fun (t : T Value) (h : AHeap) => _) = KJ
  suffices hJ : ∀ t h, Kp H h → B5 < h.nx → h.bl.get B5 = some (.cells (c3 y.1) B5 false) → tget t 0 = ptr0 Bw → tget t 3 = ptr0 B3 → tget t 4 = ptr0 B4 → tget t 5 = ptr0 B5 → tget t 6 = .bool y.2 → KJ t h = true by
    clear hJJ hK
    have t01 : (⟨[Value.agg ⟨c3 y.1⟩, .bool y.2]⟩ : Array Value)[0]? = some (.agg ⟨c3 y.1⟩) := rfl
    have t11 : (⟨[Value.agg ⟨c3 y.1⟩, .bool y.2]⟩ : Array Value)[1]? = some (.bool y.2) := rfl
    have hlk : ∀ (t : T Value) (h : AHeap) (o : Oper), h.bl.get r = some (.map (mkG c3 M 0) M.length) → rLookup Try.prog t h o 127 (.agg ⟨Go.Ev.pv ((i : Int), (d : Int))⟩) true (.map (some r)) = some (.tuple #[.agg ⟨c3 y.1⟩, .bool y.2]) := fun t h o hg => by
      rw [lookup_G mMap kSpot zN hg, hy]
    have hlkH := fun t o => hlk t H o hwH.mp
    simp (disch := first | omega | (simp only [add_nx, upd_nx] <;> omega) | decide) only [rUz, ↓reduceIte, Nat.reduceEqDiff, Nat.reduceAdd, rDz, infoL, Nat.reduceSub, hwH.bw, hb3, fieldAddr_ptr fW2 lMap, qMap, wk5, hpk, rd_lookup, w_lookup, hlkH, t01, t11, extract_tuple]
    have hkz : Kp H (H.add [iv 0, iv 0, iv 0]) := Kp.refl.add
    have hbz := (hkz.get hwH.lw).trans hwH.bw
    have h3z := (hkz.get (by omega : B3 < H.nx)).trans hb3
    have hmz := fun t o => hlk t (H.add [iv 0, iv 0, iv 0]) o ((hkz.get hwH.lr).trans hwH.mp)
    refine drW_give (v := .pointer (some ⟨H.nx, 0, none⟩)) (h' := H.add [iv 0, iv 0, iv 0]) (aw_alloc zN) (Nat.le_of_ble_eq_true rfl) ?_ ?_
    · try simp (disch := first | decide | rfl) only [again_nil, again_skip, again_free]
      rw [again_same (v := .tuple ⟨[.agg ⟨c3 y.1⟩, .bool y.2]⟩) (by simp (disch := first | omega | (simp only [add_nx, upd_nx] <;> omega) | decide) only [rUz, ↓reduceIte, Nat.reduceEqDiff, Nat.reduceAdd, rDz, infoL, Nat.reduceSub, rd_lookup, hmz]) hvt]
      try simp (disch := first | decide | rfl) only [again_nil, again_skip, again_free]
      rw [again_same (v := .agg ⟨Go.Ev.pv ((i : Int), (d : Int))⟩) (by simp (disch := first | omega | (simp only [add_nx, upd_nx] <;> omega) | decide) only [rUz, ↓reduceIte, Nat.reduceEqDiff, Nat.reduceAdd, rDz, infoL, Nat.reduceSub, h3z, hpk]) hve3]
      try simp (disch := first | decide | rfl) only [again_nil, again_skip, again_free]
      rw [again_same (v := .map (some r)) (by simp (disch := first | omega | (simp only [add_nx, upd_nx] <;> omega) | decide) only [rUz, ↓reduceIte, Nat.reduceEqDiff, Nat.reduceAdd, rDz, infoL, Nat.reduceSub, hbz, fieldAddr_ptr fW2 lMap, qMap, wk5]) hve1]
      try simp (disch := first | decide | rfl) only [again_nil, again_skip, again_free]
    simp (disch := first | omega | (simp only [add_nx, upd_nx] <;> omega) | decide) only [rUz, ↓reduceIte, Nat.reduceEqDiff, Nat.reduceAdd, rDz, infoL, Nat.reduceSub]
    refine drW_giveN (aw_storeN (B := H.nx) (ls := c3 y.1) (by simp (disch := first | omega | (simp only [add_nx, upd_nx] <;> omega) | decide) only [rUz, ↓reduceIte, Nat.reduceEqDiff, Nat.reduceAdd, rDz, infoL, Nat.reduceSub]) (by simp (disch := first | omega | (simp only [add_nx, upd_nx] <;> omega) | decide) only [rUz, ↓reduceIte, Nat.reduceEqDiff, Nat.reduceAdd, rDz, infoL, Nat.reduceSub]) sN (by omega) rfl (ag_eq rfl) (af_eq rfl) rfl) ?_ ?_
    · try simp (disch := first | decide | rfl) only [again_nil, again_skip, again_free]
    simp (disch := first | omega | (simp only [add_nx, upd_nx] <;> omega) | decide) only [rUz, ↓reduceIte, Nat.reduceEqDiff, Nat.reduceAdd, rDz, infoL, Nat.reduceSub]
    subst hB5
    refine hJ _ _ (hkz.upd (Nat.le_refl _)) (Nat.lt_succ_self _) (upd_eq _ _ _) ?_ ?_ ?_ ?_ ?_
    all_goals (first | rfl | (simp (disch := first | omega | (simp only [add_nx, upd_nx] <;> omega) | decide) only [rUz, ↓reduceIte, Nat.reduceEqDiff, Nat.reduceAdd]; done) | (simp (disch := first | omega | (simp only [add_nx, upd_nx] <;> omega) | decide) only [rUz, ↓reduceIte, Nat.reduceEqDiff, Nat.reduceAdd]; rfl))
  intro t h hkp hn5 hb5 t0 t3 t4 t5 t6
  subst hJJ
  simp only [seqK_normal]
  have hw1 := hwH.kp hkp
  have hb3h := (hkp.get (by omega : B3 < H.nx)).trans hb3
  have hb4h := (hkp.get hn4).trans hb4
  have hf4h := (hkp.fget hn4).trans hf4
  have h0kp := hk1.trans hkp
  have hend : ∀ (h' : AHeap) (M' : GL N3), Fr h0 r h' → WAt h' Bw r st dv lv pv rv D L Ts rt M' → Later M M' d → K (.agg ⟨c3 (stdF x Ts rt d)⟩) (h'.upd B4 (c3 (stdF x Ts rt d)) B4) = true := by
    intro h' M' f1 f2 f3
    exact hK _ _ ⟨rfl, fr_updN f1 (by omega), M', f2.updN hw f1 (by omega), f3⟩
  clear hK
  repeat refine S.seq ?_
  refine S.region ?_
  simp (disch := first | omega | (simp only [add_nx, upd_nx] <;> omega) | decide) only [rUz, ↓reduceIte, Nat.reduceEqDiff, Nat.reduceAdd, t6]
  cases hyb : y.2 with
  | true =>
    have e5 := hy1 hyb
    rw [e5] at hb5
    repeat refine S.seq ?_
    refine S.cond (v := true) (by first | rfl | (simp (disch := first | omega | (simp only [add_nx, upd_nx] <;> omega) | decide) only [rUz, ↓reduceIte, Nat.reduceEqDiff, Nat.reduceAdd, hyb] <;> rfl)) (fun _ => ?_) (fun e => by cases e)
    repeat refine S.seq ?_
    refine S.region ?_
    simp (disch := first | omega | (simp only [add_nx, upd_nx] <;> omega) | decide) only [rUz, ↓reduceIte, Nat.reduceEqDiff, Nat.reduceAdd, t5, hb5, part_0 pN (c3_len (stdF x Ts rt d))]
    refine wr_storeN (B := B4) (c := [iv 0, iv 0, iv 0]) (fam := B4) (k := B4) (l := c3 (stdF x Ts rt d)) (by simp (disch := first | omega | (simp only [add_nx, upd_nx] <;> omega) | decide) only [rUz, ↓reduceIte, Nat.reduceEqDiff, Nat.reduceAdd, t4]) (by simp (disch := first | omega | (simp only [add_nx, upd_nx] <;> omega) | decide) only [rUz, ↓reduceIte, Nat.reduceEqDiff, Nat.reduceAdd]) sN (by omega) rfl hb4h hf4h rfl ?_
    simp (disch := first | omega | (simp only [add_nx, upd_nx] <;> omega) | decide) only [rUz, ↓reduceIte, Nat.reduceEqDiff, Nat.reduceAdd]
    refine S.ret ?_
    try simp only [seqK_ret, blockK_ret]
    subst hF
    simp only [finish, endMarks]
    rw [show Try.f49.results.toList = [.cell 4 107] from rfl]
    simp (disch := first | omega | (simp only [add_nx, upd_nx] <;> omega) | decide) only [resA, ev_tmp, tget_ne, tget_eq, get_ne, get_eq, upd_eq, upd_ne, ag_eq, ag_ne, result1, t4, part_0 pN (c3_len (stdF x Ts rt d))]
    exact hend h M h0kp.fr hw1 fun p _ hn => hn
  | false =>
  have hlk := hy2 hyb
  repeat refine S.seq ?_
  refine S.cond (v := false) (by first | rfl | (simp (disch := first | omega | (simp only [add_nx, upd_nx] <;> omega) | decide) only [rUz, ↓reduceIte, Nat.reduceEqDiff, Nat.reduceAdd, hyb] <;> rfl)) (fun e => by cases e) (fun _ => ?_)
  repeat refine S.seq ?_
  refine S.skip ?_
  simp (disch := first | omega | (simp only [add_nx, upd_nx] <;> omega) | decide) only [rUz, ↓reduceIte, Nat.reduceEqDiff, Nat.reduceAdd]
  clear t5 t6 hy hy1 hy2 hvt hb5
  obtain ⟨b, f, ro, cells, q1, q2, q3, q4, q5, _⟩ := row_idx hw1.bk.ln slcL scL hx
  have qp := part_at pcL q4 q5
  have hok := okL_iff.1 (hv.ln x (List.mem_of_getElem? hx))
  have hxv := hw1.bk.sh x (List.mem_of_getElem? hx)
  have c20' : (c2 ((i : Int), (d : Int)))[0]? = some (iv (i : Int)) := rfl
  have c21' : (c2 ((i : Int), (d : Int)))[1]? = some (iv (d : Int)) := rfl
  have hlvv := row_veq hw1.bk.ln
  have hxvv := veq_cL x hxv.veq
  repeat refine S.seq ?_
  refine S.drawnL [(false, 0), (false, 1), (false, 3), (false, 7), (false, 15), (false, 0), (false, 32), (false, 127), (false, 255), (true, 0), (true, 1023)] (by kernel_rfl) (by kernel_rfl) (by kernel_rfl) ?_
  simp (disch := first | omega | (simp only [add_nx, upd_nx] <;> omega) | decide) only [rUz, ↓reduceIte, Nat.reduceEqDiff, Nat.reduceAdd, rDz, infoL, Nat.reduceSub, t0, t3, hw1.bw, hb3h, fieldAddr_ptr fW0 SB, fieldAddr_ptr fB2 lcL, fieldAddr_ptr fP0 s3, p3, qcL, wk2, c20', q1, q3, qp]
  have hlt3 : B3 < h.nx := by have := hkp.1; omega
  have hltw : Bw < h.nx := hw1.lw
  refine drW_give (aw_alloc zcL) (Nat.le_of_ble_eq_true rfl) ?_ ?_
  · try simp (disch := first | decide | rfl) only [again_nil, again_skip, again_free]
    rw [again_same (v := .agg ⟨cL x⟩) (by simp (disch := first | omega | (simp only [add_nx, upd_nx] <;> omega) | decide) only [rUz, ↓reduceIte, Nat.reduceEqDiff, Nat.reduceAdd, rDz, infoL, Nat.reduceSub, ag_ne, q3, qp]) hxvv]
    try simp (disch := first | decide | rfl) only [again_nil, again_skip, again_free]
    rw [again_same (v := iv (i : Int)) (by simp (disch := first | omega | (simp only [add_nx, upd_nx] <;> omega) | decide) only [rUz, ↓reduceIte, Nat.reduceEqDiff, Nat.reduceAdd, rDz, infoL, Nat.reduceSub, t3, ag_ne, hb3h, fieldAddr_ptr fP0 s3, p3, c20']) veq_int]
    try simp (disch := first | decide | rfl) only [again_nil, again_skip, again_free]
    rw [again_same (v := lv) (by simp (disch := first | omega | (simp only [add_nx, upd_nx] <;> omega) | decide) only [rUz, ↓reduceIte, Nat.reduceEqDiff, Nat.reduceAdd, rDz, infoL, Nat.reduceSub, ag_ne, hw1.bw, fieldAddr_ptr fW0 SB, fieldAddr_ptr fB2 lcL, qcL, wk2]) hlvv]
    try simp (disch := first | decide | rfl) only [again_nil, again_skip, again_free]
  simp (disch := first | omega | (simp only [add_nx, upd_nx] <;> omega) | decide) only [rUz, ↓reduceIte, Nat.reduceEqDiff, Nat.reduceAdd, rDz, infoL, Nat.reduceSub]
  refine drW_giveN (aw_storeN (B := h.nx) (ls := cL x) (by simp (disch := first | omega | (simp only [add_nx, upd_nx] <;> omega) | decide) only [rUz, ↓reduceIte, Nat.reduceEqDiff, Nat.reduceAdd, rDz, infoL, Nat.reduceSub]) (by simp (disch := first | omega | (simp only [add_nx, upd_nx] <;> omega) | decide) only [rUz, ↓reduceIte, Nat.reduceEqDiff, Nat.reduceAdd, rDz, infoL, Nat.reduceSub]) scL (by omega) rfl (ag_eq rfl) (af_eq rfl) rfl) ?_ ?_
  · try simp (disch := first | decide | rfl) only [again_nil, again_skip, again_free]
  simp (disch := first | omega | (simp only [add_nx, upd_nx] <;> omega) | decide) only [rUz, ↓reduceIte, Nat.reduceEqDiff, Nat.reduceAdd, rDz, infoL, Nat.reduceSub]
  obtain ⟨B7, hB7⟩ : ∃ z, z = h.nx := ⟨_, rfl⟩
  have hk7 : Kp h ((h.add [iv 0, iv 0, nl]).upd h.nx (cL x) h.nx) := Kp.refl.add.upd (Nat.le_refl _)
  have hb7 : ((h.add [iv 0, iv 0, nl]).upd h.nx (cL x) h.nx).bl.get B7 = some (.cells (cL x) B7 false) := by subst hB7; exact upd_eq _ _ _
  have hn7 : B7 < ((h.add [iv 0, iv 0, nl]).upd h.nx (cL x) h.nx).nx := by subst hB7; exact Nat.lt_succ_self _
  rw [← hB7]
  rw [← hB7] at hk7 hb7 hn7
  have h7r : B7 ≠ r := by have := hw1.lr; omega
  generalize (h.add [iv 0, iv 0, nl]).upd B7 (cL x) B7 = G at hk7 hb7 hn7 ⊢
  have hwG := hw1.kp hk7
  have hb3G := (hk7.get hlt3).trans hb3h
  have hb4G := (hk7.get (by have := hkp.1; omega : B4 < h.nx)).trans hb4h
  have hf4G := (hk7.fget (by have := hkp.1; omega : B4 < h.nx)).trans hf4h
  have frG := (h0kp.trans hk7).fr (B := r)
  have hn4G : B4 < G.nx := by have := hkp.1; have := hk7.1; omega
  clear q1 q2 q3 q4 q5 qp hb3h hb4h hf4h hlvv
  repeat refine S.seq ?_
  refine S.region ?_
  simp (disch := first | omega | (simp only [add_nx, upd_nx] <;> omega) | decide) only [rUz, ↓reduceIte, Nat.reduceEqDiff, Nat.reduceAdd, hb7, fieldAddr_ptr fcL0 s3, p3, cL0]
  repeat refine S.seq ?_
  refine S.region ?_
  simp (disch := first | omega | (simp only [add_nx, upd_nx] <;> omega) | decide) only [rUz, ↓reduceIte, Nat.reduceEqDiff, Nat.reduceAdd, t3, hb3G, fieldAddr_ptr fP1 s3, p3, c21']
  repeat refine S.seq ?_
  generalize hJJ : seqK _ _ _ _ _ = KJ
  suffices hJ : ∀ t h' M', Fr h0 r h' → WAt h' Bw r st dv lv pv rv D L Ts rt M' → lkG M' ((i : Int), (d : Int)) 0 = none → Later M M' d → h'.bl.get B3 = some (.cells (c2 ((i : Int), (d : Int))) B3 false) → h'.bl.get B4 = some (.cells [iv 0, iv 0, iv 0] B4 false) → h'.fams.get B4 = some [B4] → h'.bl.get B7 = some (.cells (cL x) B7 false) → B7 < h'.nx → tget t 0 = ptr0 Bw → tget t 3 = ptr0 B3 → tget t 4 = ptr0 B4 → tget t 7 = ptr0 B7 → tget t 8 = iv (debtZ x.2.1 x.2.2.1 (vsF x.2.2.2 Ts) (rsF rt) d) → KJ .normal t h' [] = true by
    clear hJJ hend
    rcases Nat.eq_zero_or_pos d with hd0 | hd0
    · have hdz : decide (0 < (d : Int)) = false := decide_eq_false (by omega)
      have hdb : debtZ x.2.1 x.2.2.1 (vsF x.2.2.2 Ts) (rsF rt) d = x.2.1 := by rw [hd0]; rfl
      repeat refine S.seq ?_
      refine S.cond (v := false) (by first | rfl | (simp (disch := first | omega | (simp only [add_nx, upd_nx] <;> omega) | decide) only [rUz, ↓reduceIte, Nat.reduceEqDiff, Nat.reduceAdd, hdz] <;> rfl)) (fun e => by cases e) (fun _ => ?_)
      refine S.skip ?_
      refine hJ _ _ M frG hwG hlk (fun p _ hn => hn) hb3G hb4G hf4G hb7 hn7 ?_ ?_ ?_ ?_ ?_
      all_goals (first | rfl | (simp (disch := first | omega | (simp only [add_nx, upd_nx] <;> omega) | decide) only [rUz, ↓reduceIte, Nat.reduceEqDiff, Nat.reduceAdd, t0, t3, t4, hdb]; done) | (simp (disch := first | omega | (simp only [add_nx, upd_nx] <;> omega) | decide) only [rUz, ↓reduceIte, Nat.reduceEqDiff, Nat.reduceAdd, t0, t3, t4, hdb]; rfl))
    · obtain ⟨d', hdd⟩ : ∃ d', d = d' + 1 := ⟨d - 1, by omega⟩
      have hdz : decide (0 < (d : Int)) = true := decide_eq_true (by omega)
      have hd1 : (d : Int) - 1 = (d' : Int) := by omega
      have hdl : d' < D.length := by omega
      have hso := std_ok hv htr hx hdl
      have hds : dueZ (stdF x Ts rt d') = debtZ x.2.1 x.2.2.1 (vsF x.2.2.2 Ts) (rsF rt) d := by rw [due_std, hdd]
      repeat refine S.seq ?_
      refine S.cond (v := true) (by first | rfl | (simp (disch := first | omega | (simp only [add_nx, upd_nx] <;> omega) | decide) only [rUz, ↓reduceIte, Nat.reduceEqDiff, Nat.reduceAdd, hdz] <;> rfl)) (fun _ => ?_) (fun e => by cases e)
      repeat refine S.seq ?_
      refine S.region ?_
      simp (disch := first | omega | (simp only [add_nx, upd_nx] <;> omega) | decide) only [rUz, ↓reduceIte, Nat.reduceEqDiff, Nat.reduceAdd, t0, t3, hb3G, fieldAddr_ptr fP0 s3, fieldAddr_ptr fP1 s3, p3, c20', c21', hd1, rd_build, List.map_cons, List.map_nil, bP]
      refine wr_bringsX (fid := 49) (first := #[]) (captured := #[]) (Post := AtPost G Bw r st dv lv pv rv D L Ts rt M x d') rfl (hoff _ _ _ rfl) (by simp (disch := first | omega | (simp only [add_nx, upd_nx] <;> omega) | decide) only [rUz, ↓reduceIte, Nat.reduceEqDiff, Nat.reduceAdd]; exact hrec d' hdd G M hwG) ?_
      rintro u g ⟨rfl, frg, M', wg, hla⟩
      simp (disch := first | omega | (simp only [add_nx, upd_nx] <;> omega) | decide) only [rUz, ↓reduceIte, Nat.reduceEqDiff, Nat.reduceAdd]
      refine wr_brings (fid := 55) (first := #[]) (captured := #[]) (Post := fun u _ => u = iv (dueZ (stdF x Ts rt d'))) rfl (hoff _ _ _ rfl) (by simp (disch := first | omega | (simp only [add_nx, upd_nx] <;> omega) | decide) only [rUz, ↓reduceIte, Nat.reduceEqDiff, Nat.reduceAdd]; exact due_y S hoff g _ hso) ?_
      rintro u g2 hkg2 rfl
      have frg2 : Fr G r g2 := frg.kp hkg2
      have hlr := hwG.lr
      rw [hds]
      simp (disch := first | omega | (simp only [add_nx, upd_nx] <;> omega) | decide) only [rUz, ↓reduceIte, Nat.reduceEqDiff, Nat.reduceAdd]
      refine hJ _ _ M' (frG.trans frg2) (wg.kp hkg2) (hla _ (by show (d' : Int) < (d : Int); omega) hlk) (fun p hp hn => hla p (by omega) hn) ((frg2.get (by omega) hb3r).trans hb3G) ((frg2.get hn4G hb4r).trans hb4G) ((frg2.fam _ hn4G).trans hf4G) ((frg2.get hn7 h7r).trans hb7) (Nat.lt_of_lt_of_le hn7 frg2.le) ?_ ?_ ?_ ?_ ?_
      all_goals (first | rfl | (simp (disch := first | omega | (simp only [add_nx, upd_nx] <;> omega) | decide) only [rUz, ↓reduceIte, Nat.reduceEqDiff, Nat.reduceAdd, t0, t3, t4]; done) | (simp (disch := first | omega | (simp only [add_nx, upd_nx] <;> omega) | decide) only [rUz, ↓reduceIte, Nat.reduceEqDiff, Nat.reduceAdd, t0, t3, t4]; rfl))
  clear t0 t3 t4 hb3G hb4G hf4G frG hn4G hwG hb7 hn7 hk7 hkp hb3 hb4 hf4 hk1 hwH hw1 h0kp hlk hlt3 hltw
  clear t
  intro t G M' frG hwG hlk hla hb3 hb4 hf4 hb7 hn7 t0 t3 t4 t7 t8
  subst hJJ
  simp only [seqK_normal]
  have hdR : d < rt.length := by rw [htr.lr]; exact hd
  have hdT : d < Ts.length := by rw [htr.lt]; exact hd
  have hpT : Ts[d]? = some Ts[d] := List.getElem?_eq_getElem hdT
  have hxT : Ts[d] ∈ Ts := List.getElem_mem hdT
  have hpl := htr.pl _ hxT
  have hpb := htr.pb _ hxT
  have hxl := hok.len
  have hs1 := hv.s1
  have hs4 := hv.s4
  have hrate := rates_of htr hok.sh (by omega)
  have hrb := hrate.r d hd
  have hdb := debt_bnd hrate hok.m0 hok.m1 hok.g0 hok.g1 hd4 d (by omega)
  have hrs : rsF rt d = rt[d] := getD_lt hdR
  have hvs : vsF x.2.2.2 Ts d = valS x.2.2.2 Ts[d].2 := by unfold vsF; rw [List.getD_eq_getElem?_getD, hpT]; rfl
  have hsd : stdF x Ts rt d = (grownZ (debtZ x.2.1 x.2.2.1 (vsF x.2.2.2 Ts) (rsF rt) d) rt[d], valS x.2.2.2 Ts[d].2, x.2.2.1) := by
    unfold stdF owedZ
    rw [hrs, hvs]
  rw [hrs] at hrb
  have hkR : Kp G G.res := Kp.refl.res
  have hwR := hwG.kp hkR
  obtain ⟨b3, f3, o3, u1, u2, u3, u4⟩ := hwG.tu.rt.idx slI s3' hdR
  have u3R : G.res.bl.get b3 = some (.cells (rt.map iv) f3 o3) := u3
  have hx1v := hxv.veq
  generalize Ts[d] = p at hpT hxT hpl hpb hsd
  generalize rt[d] = rr at hrb hsd u4
  generalize debtZ x.2.1 x.2.2.1 (vsF x.2.2.2 Ts) (rsF rt) d = dd at t8 hdb hsd
  have hb3R : G.res.bl.get B3 = some (.cells (c2 ((i : Int), (d : Int))) B3 false) := hb3
  have hb7R : G.res.bl.get B7 = some (.cells (cL x) B7 false) := hb7
  have hn3R : B3 < G.res.nx := by have := frG.le; show B3 < G.nx + 1; omega
  have hn7R : B7 < G.res.nx := by show B7 < G.nx + 1; omega
  have hrvv := hwR.tu.rt.veq
  clear hrs hvs
  repeat refine S.seq ?_
  refine S.drawnM [(false, 0), (false, 0), (false, 2), (false, 6), (false, 14), (false, 30), (false, 0), (false, 64), (false, 254), (false, 510), (true, 1023), (false, 0), (false, 0), (false, 4096), (true, 16383), (false, 0), (false, 32768), (true, 131071), (false, 0), (false, 262144), (false, 1048575), (true, 0), (true, 4194303)] 2097152 [21] (by kernel_rfl) (by kernel_rfl) (by kernel_rfl) (by kernel_rfl) (by kernel_rfl) ?_
  simp (disch := first | omega | (simp only [add_nx, upd_nx] <;> omega) | decide) only [rUz, ↓reduceIte, Nat.reduceEqDiff, Nat.reduceAdd, rMz, infoL, Nat.reduceSub, t0, t3, t8, hwR.bw, hb3R, fieldAddr_ptr fW1 ScU, fieldAddr_ptr fcU1 lI, fieldAddr_ptr fP1 s3, p3, qI, wk4, c21', u1, u3R, u4]
  refine dm_pick rfl ?_
  simp (disch := first | omega | (simp only [add_nx, upd_nx] <;> omega) | decide) only [rUz, ↓reduceIte, Nat.reduceEqDiff, Nat.reduceAdd, rMz, infoL, Nat.reduceSub, t0, t3, t7, hb3R, hb7R, fieldAddr_ptr fP1 s3, fieldAddr_ptr fcL1 s3, fieldAddr_ptr fcL2 lI, p3, qI, c21', cL1, cL2]
  refine dm_pick rfl ?_
  simp (disch := first | omega | (simp only [add_nx, upd_nx] <;> omega) | decide) only [rUz, ↓reduceIte, Nat.reduceEqDiff, Nat.reduceAdd, rMz, infoL, Nat.reduceSub, t0, t3, t7, hb3R, hb7R, fieldAddr_ptr fP1 s3, fieldAddr_ptr fcL1 s3, fieldAddr_ptr fcL2 lI, p3, qI, c21', cL1, cL2]
  refine dm_pick rfl ?_
  simp (disch := first | omega | (simp only [add_nx, upd_nx] <;> omega) | decide) only [rUz, ↓reduceIte, Nat.reduceEqDiff, Nat.reduceAdd, rMz, infoL, Nat.reduceSub, t0, t3, t7, hb3R, hb7R, fieldAddr_ptr fP1 s3, fieldAddr_ptr fcL1 s3, fieldAddr_ptr fcL2 lI, p3, qI, c21', cL1, cL2]
  refine dm_pick rfl ?_
  simp (disch := first | omega | (simp only [add_nx, upd_nx] <;> omega) | decide) only [rUz, ↓reduceIte, Nat.reduceEqDiff, Nat.reduceAdd, rMz, infoL, Nat.reduceSub, t0, t3, t7, hb3R, hb7R, fieldAddr_ptr fP1 s3, fieldAddr_ptr fcL1 s3, fieldAddr_ptr fcL2 lI, p3, qI, c21', cL1, cL2]
  refine dm_pick rfl ?_
  simp (disch := first | omega | (simp only [add_nx, upd_nx] <;> omega) | decide) only [rUz, ↓reduceIte, Nat.reduceEqDiff, Nat.reduceAdd, rMz, infoL, Nat.reduceSub, t0, t3, t7, hb3R, hb7R, fieldAddr_ptr fP1 s3, fieldAddr_ptr fcL1 s3, fieldAddr_ptr fcL2 lI, p3, qI, c21', cL1, cL2]
  refine dm_pick rfl ?_
  simp (disch := first | omega | (simp only [add_nx, upd_nx] <;> omega) | decide) only [rUz, ↓reduceIte, Nat.reduceEqDiff, Nat.reduceAdd, rMz, infoL, Nat.reduceSub, t0, t3, t7, hb3R, hb7R, fieldAddr_ptr fP1 s3, fieldAddr_ptr fcL1 s3, fieldAddr_ptr fcL2 lI, p3, qI, c21', cL1, cL2]
  refine dm_pick rfl ?_
  simp (disch := first | omega | (simp only [add_nx, upd_nx] <;> omega) | decide) only [rUz, ↓reduceIte, Nat.reduceEqDiff, Nat.reduceAdd, rMz, infoL, Nat.reduceSub, t0, t3, t7, hb3R, hb7R, fieldAddr_ptr fP1 s3, fieldAddr_ptr fcL1 s3, fieldAddr_ptr fcL2 lI, p3, qI, c21', cL1, cL2]
  refine dm_one rfl rfl ?_
  refine dmW_brings (fid := 75) (first := #[]) (captured := #[]) (Post := fun u h => u = iv (grownZ dd rr) ∧ h = G.res) rfl rfl (by simp (disch := first | omega | (simp only [add_nx, upd_nx] <;> omega) | decide) only [rUz, ↓reduceIte, Nat.reduceEqDiff, Nat.reduceAdd, rMz, infoL, Nat.reduceSub]) (hoff _ _ _ rfl) (by simp (disch := first | omega | (simp only [add_nx, upd_nx] <;> omega) | decide) only [rUz, ↓reduceIte, Nat.reduceEqDiff, Nat.reduceAdd, rMz, infoL, Nat.reduceSub, t8]; exact grown_y S G.res dd rr hdb.1 (by omega) hrb.1 hrb.2) (Nat.le_of_ble_eq_true rfl) ?_
  rintro u g - ⟨rfl, rfl⟩
  refine ⟨?_, ?_⟩
  · try simp (disch := first | decide | rfl) only [again_nil, again_skip, again_free]
    rw [again_same (v := iv x.2.2.1) (by simp (disch := first | omega | (simp only [add_nx, upd_nx] <;> omega) | decide) only [rUz, ↓reduceIte, Nat.reduceEqDiff, Nat.reduceAdd, rDz, infoL, Nat.reduceSub, t7, hb7R, fieldAddr_ptr fcL1 s3, p3, cL1]) veq_int]
    try simp (disch := first | decide | rfl) only [again_nil, again_skip, again_free]
    rw [again_same (v := x.1) (by simp (disch := first | omega | (simp only [add_nx, upd_nx] <;> omega) | decide) only [rUz, ↓reduceIte, Nat.reduceEqDiff, Nat.reduceAdd, rDz, infoL, Nat.reduceSub, t7, hb7R, fieldAddr_ptr fcL2 lI, qI, cL2]) hx1v]
    try simp (disch := first | decide | rfl) only [again_nil, again_skip, again_free]
    rw [again_same (v := iv (d : Int)) (by simp (disch := first | omega | (simp only [add_nx, upd_nx] <;> omega) | decide) only [rUz, ↓reduceIte, Nat.reduceEqDiff, Nat.reduceAdd, rDz, infoL, Nat.reduceSub, t3, hb3R, fieldAddr_ptr fP1 s3, p3, c21']) veq_int]
    try simp (disch := first | decide | rfl) only [again_nil, again_skip, again_free]
  simp (disch := first | omega | (simp only [add_nx, upd_nx] <;> omega) | decide) only [rUz, ↓reduceIte, Nat.reduceEqDiff, Nat.reduceAdd, rMz, infoL, Nat.reduceSub]
  refine dm_one rfl rfl ?_
  refine dmW_brings (fid := 51) (first := #[]) (captured := #[]) (Post := fun u _ => u = .agg ⟨pad4 p.2⟩) rfl rfl (by simp (disch := first | omega | (simp only [add_nx, upd_nx] <;> omega) | decide) only [rUz, ↓reduceIte, Nat.reduceEqDiff, Nat.reduceAdd, rMz, infoL, Nat.reduceSub]) (hoff _ _ _ rfl) (by simp (disch := first | omega | (simp only [add_nx, upd_nx] <;> omega) | decide) only [rUz, ↓reduceIte, Nat.reduceEqDiff, Nat.reduceAdd, rMz, infoL, Nat.reduceSub, t0]; exact prices_y S G.res Bw r st dv lv pv rv hwR.bw hwR.lw Ts hwR.tu.pr hwR.tu.ps d p hpT (fun e => by rw [e] at hpl; simp at hpl; omega) (by omega)) (Nat.le_of_ble_eq_true rfl) ?_
  rintro u g hkg rfl
  have hb7g := (hkg.get hn7R).trans hb7R
  have hb3g := (hkg.get hn3R).trans hb3R
  refine ⟨?_, ?_⟩
  · try simp (disch := first | decide | rfl) only [again_nil, again_skip, again_free]
    rw [again_same (v := iv x.2.2.1) (by simp (disch := first | omega | (simp only [add_nx, upd_nx] <;> omega) | decide) only [rUz, ↓reduceIte, Nat.reduceEqDiff, Nat.reduceAdd, rDz, infoL, Nat.reduceSub, t7, hb7g, fieldAddr_ptr fcL1 s3, p3, cL1]) veq_int]
    try simp (disch := first | decide | rfl) only [again_nil, again_skip, again_free]
    rw [again_same (v := x.1) (by simp (disch := first | omega | (simp only [add_nx, upd_nx] <;> omega) | decide) only [rUz, ↓reduceIte, Nat.reduceEqDiff, Nat.reduceAdd, rDz, infoL, Nat.reduceSub, t7, hb7g, fieldAddr_ptr fcL2 lI, qI, cL2]) hx1v]
    try simp (disch := first | decide | rfl) only [again_nil, again_skip, again_free]
  simp (disch := first | omega | (simp only [add_nx, upd_nx] <;> omega) | decide) only [rUz, ↓reduceIte, Nat.reduceEqDiff, Nat.reduceAdd, rMz, infoL, Nat.reduceSub]
  refine dm_one rfl rfl ?_
  have hxg : IAt g x.1 x.2.2.2 := ((hwR.kp hkg).bk.sh x (List.mem_of_getElem? hx))
  refine dmW_brings (fid := 52) (first := #[]) (captured := #[]) (Post := fun u _ => u = iv (valS x.2.2.2 p.2)) rfl rfl (by simp (disch := first | omega | (simp only [add_nx, upd_nx] <;> omega) | decide) only [rUz, ↓reduceIte, Nat.reduceEqDiff, Nat.reduceAdd, rMz, infoL, Nat.reduceSub]) (hoff _ _ _ rfl) (by simp (disch := first | omega | (simp only [add_nx, upd_nx] <;> omega) | decide) only [rUz, ↓reduceIte, Nat.reduceEqDiff, Nat.reduceAdd, rMz, infoL, Nat.reduceSub]; exact worth_y S g x.1 x.2.2.2 p.2 hxg (by omega) (by omega) hok.sh hpb) (Nat.le_of_ble_eq_true rfl) ?_
  rintro u g2 hkg2 rfl
  have hk2 := hkg.trans hkg2
  have hb72 := (hk2.get hn7R).trans hb7R
  have hb32 := (hk2.get hn3R).trans hb3R
  have hbw2 := (hk2.get hwR.lw).trans hwR.bw
  have hu32 := (hk2.get (by show b3 < G.nx + 1; omega)).trans u3R
  have hf92 : g2.fams.get G.nx = some [] := (hk2.fget (Nat.lt_succ_self _)).trans (res_fe rfl)
  refine ⟨?_, ?_⟩
  · try simp (disch := first | decide | rfl) only [again_nil, again_skip, again_free]
    rw [again_same (v := iv x.2.2.1) (by simp (disch := first | omega | (simp only [add_nx, upd_nx] <;> omega) | decide) only [rUz, ↓reduceIte, Nat.reduceEqDiff, Nat.reduceAdd, rDz, infoL, Nat.reduceSub, t7, hb72, fieldAddr_ptr fcL1 s3, p3, cL1]) veq_int]
    try simp (disch := first | decide | rfl) only [again_nil, again_skip, again_free]
  simp (disch := first | omega | (simp only [add_nx, upd_nx] <;> omega) | decide) only [rUz, ↓reduceIte, Nat.reduceEqDiff, Nat.reduceAdd, rMz, infoL, Nat.reduceSub, rd_build, List.map_cons, List.map_nil, bN]
  refine dm_one rfl rfl ?_
  have n7 : B7 < G.nx := hn7
  have n3 : B3 < G.nx := by have := frG.le; omega
  have nw : Bw < G.nx := hwG.lw
  refine dmW_alloc (r := G.nx) (z := .agg ⟨[iv 0, iv 0, iv 0]⟩) rfl zN hf92 (Nat.le_of_ble_eq_true rfl) ?_ ?_
  · try simp (disch := first | decide | rfl) only [again_nil, again_skip, again_free]
    rw [again_same (v := iv x.2.2.1) (by simp (disch := first | omega | (simp only [add_nx, upd_nx] <;> omega) | decide) only [rUz, ↓reduceIte, Nat.reduceEqDiff, Nat.reduceAdd, rDz, infoL, Nat.reduceSub, t7, putAt_ne, hb72, fieldAddr_ptr fcL1 s3, p3, cL1]) veq_int]
    try simp (disch := first | decide | rfl) only [again_nil, again_skip, again_free]
    rw [again_same (v := x.1) (by simp (disch := first | omega | (simp only [add_nx, upd_nx] <;> omega) | decide) only [rUz, ↓reduceIte, Nat.reduceEqDiff, Nat.reduceAdd, rDz, infoL, Nat.reduceSub, t7, putAt_ne, hb72, fieldAddr_ptr fcL2 lI, qI, cL2]) hx1v]
    try simp (disch := first | decide | rfl) only [again_nil, again_skip, again_free]
    rw [again_same (v := iv (d : Int)) (by simp (disch := first | omega | (simp only [add_nx, upd_nx] <;> omega) | decide) only [rUz, ↓reduceIte, Nat.reduceEqDiff, Nat.reduceAdd, rDz, infoL, Nat.reduceSub, t3, putAt_ne, hb32, fieldAddr_ptr fP1 s3, p3, c21']) veq_int]
    try simp (disch := first | decide | rfl) only [again_nil, again_skip, again_free]
    rw [again_same (v := iv rr) (by simp (disch := first | omega | (simp only [add_nx, upd_nx] <;> omega) | decide) only [rUz, ↓reduceIte, Nat.reduceEqDiff, Nat.reduceAdd, rDz, infoL, Nat.reduceSub, putAt_ne, hu32, p3, u4]) veq_int]
    try simp (disch := first | decide | rfl) only [again_nil, again_skip, again_free]
    rw [again_same (v := iv (d : Int)) (by simp (disch := first | omega | (simp only [add_nx, upd_nx] <;> omega) | decide) only [rUz, ↓reduceIte, Nat.reduceEqDiff, Nat.reduceAdd, rDz, infoL, Nat.reduceSub, t3, putAt_ne, hb32, fieldAddr_ptr fP1 s3, p3, c21']) veq_int]
    try simp (disch := first | decide | rfl) only [again_nil, again_skip, again_free]
    rw [again_same (v := rv) (by simp (disch := first | omega | (simp only [add_nx, upd_nx] <;> omega) | decide) only [rUz, ↓reduceIte, Nat.reduceEqDiff, Nat.reduceAdd, rDz, infoL, Nat.reduceSub, t0, putAt_ne, hbw2, fieldAddr_ptr fW1 ScU, fieldAddr_ptr fcU1 lI, qI, wk4]) hrvv]
    try simp (disch := first | decide | rfl) only [again_nil, again_skip, again_free]
  have hst9 : c3 (stdF x Ts rt d) = [iv (grownZ dd rr), iv (valS x.2.2.2 p.2), iv x.2.2.1] := by rw [hsd]; rfl
  simp (disch := first | omega | (simp only [add_nx, upd_nx] <;> omega) | decide) only [rUz, ↓reduceIte, Nat.reduceEqDiff, Nat.reduceAdd, rMz, infoL, Nat.reduceSub]
  refine dm_one rfl rfl ?_
  refine dmW_none rfl rfl (aw_storeN (B := G.nx) (ls := [iv (grownZ dd rr), iv (valS x.2.2.2 p.2), iv x.2.2.1]) (by simp (disch := first | omega | (simp only [add_nx, upd_nx] <;> omega) | decide) only [rUz, ↓reduceIte, Nat.reduceEqDiff, Nat.reduceAdd, rMz, infoL, Nat.reduceSub]) (by simp (disch := first | omega | (simp only [add_nx, upd_nx] <;> omega) | decide) only [rUz, ↓reduceIte, Nat.reduceEqDiff, Nat.reduceAdd, rMz, infoL, Nat.reduceSub]) sN (by omega) rfl (by simp (disch := first | omega | (simp only [add_nx, upd_nx] <;> omega) | decide) only [putAt_eq]; rfl) (by simp (disch := first | omega | (simp only [add_nx, upd_nx] <;> omega) | decide) only [putAt_fe]; rfl) rfl) ?_ ?_
  · try simp (disch := first | decide | rfl) only [again_nil, again_skip, again_free]
  simp (disch := first | omega | (simp only [add_nx, upd_nx] <;> omega) | decide) only [rUz, ↓reduceIte, Nat.reduceEqDiff, Nat.reduceAdd, rMz, infoL, Nat.reduceSub]
  rw [← hst9]
  have hkG : Kp G ((g2.putAt G.nx [iv 0, iv 0, iv 0]).upd G.nx (c3 (stdF x Ts rt d)) G.nx) := ((hkR.trans hk2).putAt (Nat.le_refl _)).upd (Nat.le_refl _)
  have hb9 : ((g2.putAt G.nx [iv 0, iv 0, iv 0]).upd G.nx (c3 (stdF x Ts rt d)) G.nx).bl.get G.nx = some (.cells (c3 (stdF x Ts rt d)) G.nx false) := upd_eq _ _ _
  generalize (g2.putAt G.nx [iv 0, iv 0, iv 0]).upd G.nx (c3 (stdF x Ts rt d)) G.nx = G3 at hkG hb9 ⊢
  have hB9r : G.nx ≠ r := by have := hwG.lr; omega
  generalize G.nx = B9 at hb9 hB9r ⊢
  clear hst9 hb72 hb32 hbw2 hu32 hf92 hb7g hb3g hkg hkg2 hk2 hxg
  clear hb3R hb7R hn3R hn7R hkR hwR u1 u2 u3 u3R u4
  have hw3 := hwG.kp hkG
  have hb33 := (hkG.get n3).trans hb3
  have hb43 : G3.bl.get B4 = some (.cells [iv 0, iv 0, iv 0] B4 false) := (hkG.get (by omega)).trans hb4
  have hf43 : G3.fams.get B4 = some [B4] := (hkG.fget (by omega)).trans hf4
  have hps := part_0 pN (c3_len (stdF x Ts rt d))
  have hvs3 := veq_c3 (stdF x Ts rt d)
  repeat refine S.seq ?_
  refine S.drawnL [(false, 0), (false, 1), (false, 3), (false, 7), (false, 0), (false, 0), (true, 63)] (by kernel_rfl) (by kernel_rfl) (by kernel_rfl) ?_
  simp (disch := first | omega | (simp only [add_nx, upd_nx] <;> omega) | decide) only [rUz, ↓reduceIte, Nat.reduceEqDiff, Nat.reduceAdd, rDz, infoL, Nat.reduceSub, t0, t3, hw3.bw, hb33, hb9, fieldAddr_ptr fW2 lMap, qMap, wk5, hpk, hps]
  refine drW_giveN (h' := AHeap.setm G3 r (.map (mkG c3 (M' ++ [(((i : Int), (d : Int)), stdF x Ts rt d)]) 0) (M' ++ [(((i : Int), (d : Int)), stdF x Ts rt d)]).length)) (v := undef) (fun K => ?_) ?_ ?_
  · rw [aw_mapUpdate]
    simp (disch := first | omega | (simp only [add_nx, upd_nx] <;> omega) | decide) only [rUz, ↓reduceIte, Nat.reduceEqDiff, Nat.reduceAdd]
    exact update_G (p := ((i : Int), (d : Int))) (f := stdF x Ts rt d) rfl mMap kSpot hw3.mp hlk K
  · try simp (disch := first | decide | rfl) only [again_nil, again_skip, again_free]
  have frS : Fr h0 r (AHeap.setm G3 r (.map (mkG c3 (M' ++ [(((i : Int), (d : Int)), stdF x Ts rt d)]) 0) (M' ++ [(((i : Int), (d : Int)), stdF x Ts rt d)]).length)) := (frG.kp hkG).setm
  have frS' : Fr G3 r (AHeap.setm G3 r (.map (mkG c3 (M' ++ [(((i : Int), (d : Int)), stdF x Ts rt d)]) 0) (M' ++ [(((i : Int), (d : Int)), stdF x Ts rt d)]).length)) := Fr.refl.setm
  have wS : WAt (AHeap.setm G3 r (.map (mkG c3 (M' ++ [(((i : Int), (d : Int)), stdF x Ts rt d)]) 0) (M' ++ [(((i : Int), (d : Int)), stdF x Ts rt d)]).length)) Bw r st dv lv pv rv D L Ts rt (M' ++ [(((i : Int), (d : Int)), stdF x Ts rt d)]) :=
    ⟨by rw [setm_ne hw3.ne]; exact hw3.bw, hw3.lw, hw3.lr, hw3.ne, hw3.bk.frm frS' hw3.mp, hw3.tu.frm frS' hw3.mp, setm_eq, hw3.mm.snoc hx⟩
  have hb9S : (AHeap.setm G3 r (.map (mkG c3 (M' ++ [(((i : Int), (d : Int)), stdF x Ts rt d)]) 0) (M' ++ [(((i : Int), (d : Int)), stdF x Ts rt d)]).length)).bl.get B9 = some (.cells (c3 (stdF x Ts rt d)) B9 false) := by rw [setm_ne hB9r]; exact hb9
  have hb4S : (AHeap.setm G3 r (.map (mkG c3 (M' ++ [(((i : Int), (d : Int)), stdF x Ts rt d)]) 0) (M' ++ [(((i : Int), (d : Int)), stdF x Ts rt d)]).length)).bl.get B4 = some (.cells [iv 0, iv 0, iv 0] B4 false) := by rw [setm_ne hb4r]; exact hb43
  have hf4S : (AHeap.setm G3 r (.map (mkG c3 (M' ++ [(((i : Int), (d : Int)), stdF x Ts rt d)]) 0) (M' ++ [(((i : Int), (d : Int)), stdF x Ts rt d)]).length)).fams.get B4 = some [B4] := hf43
  have hlaS : Later M (M' ++ [(((i : Int), (d : Int)), stdF x Ts rt d)]) d := fun q hq hn => lkG_snoc (hla q hq hn) fun e => by
    have : q.2 = (d : Int) := congrArg Prod.snd e
    omega
  simp (disch := first | omega | (simp only [add_nx, upd_nx] <;> omega) | decide) only [rUz, ↓reduceIte, Nat.reduceEqDiff, Nat.reduceAdd, rDz, infoL, Nat.reduceSub]
  generalize AHeap.setm G3 r (.map (mkG c3 (M' ++ [(((i : Int), (d : Int)), stdF x Ts rt d)]) 0) (M' ++ [(((i : Int), (d : Int)), stdF x Ts rt d)]).length) = G4 at frS frS' wS hb9S hb4S hf4S ⊢
  repeat refine S.seq ?_
  refine S.region ?_
  simp (disch := first | omega | (simp only [add_nx, upd_nx] <;> omega) | decide) only [rUz, ↓reduceIte, Nat.reduceEqDiff, Nat.reduceAdd, hb9S, hps]
  refine wr_storeN (B := B4) (c := [iv 0, iv 0, iv 0]) (fam := B4) (k := B4) (l := c3 (stdF x Ts rt d)) (by simp (disch := first | omega | (simp only [add_nx, upd_nx] <;> omega) | decide) only [rUz, ↓reduceIte, Nat.reduceEqDiff, Nat.reduceAdd, t4]) (by simp (disch := first | omega | (simp only [add_nx, upd_nx] <;> omega) | decide) only [rUz, ↓reduceIte, Nat.reduceEqDiff, Nat.reduceAdd]) sN (by omega) rfl hb4S hf4S rfl ?_
  simp (disch := first | omega | (simp only [add_nx, upd_nx] <;> omega) | decide) only [rUz, ↓reduceIte, Nat.reduceEqDiff, Nat.reduceAdd]
  refine S.ret ?_
  try simp only [seqK_ret, blockK_ret]
  subst hF
  simp only [finish, endMarks]
  rw [show Try.f49.results.toList = [.cell 4 107] from rfl]
  simp (disch := first | omega | (simp only [add_nx, upd_nx] <;> omega) | decide) only [resA, ev_tmp, tget_ne, tget_eq, get_ne, get_eq, upd_eq, upd_ne, ag_eq, ag_ne, result1, t4, hps]
  exact hend G4 _ frS wS hlaS
theorem at_y (S : Ev.Steps Try.prog pr R) (hoff : Off pr) (Bw r : Nat) (st : Int) (dv lv pv rv : Value) (D : List PD) (L : List PL) (Ts : List PT) (rt : List Int) (hv : Val st D L) (htr : Tru st D.length Ts rt) (i : Nat) (x : PL) (hx : L[i]? = some x) : ∀ (d : Nat), d < D.length → ∀ (h0 : AHeap) (M : GL N3), WAt h0 Bw r st dv lv pv rv D L Ts rt M →
    BringsX Try.prog R 49 [ptr0 Bw, .agg ⟨c2 ((i : Int), (d : Int))⟩] h0 (AtPost h0 Bw r st dv lv pv rv D L Ts rt M x d)
  | 0, hd, h0, M, hw => at_step S hoff Bw r st dv lv pv rv D L Ts rt hv htr i x hx 0 hd (fun d' e => by omega) h0 M hw
  | d + 1, hd, h0, M, hw => at_step S hoff Bw r st dv lv pv rv D L Ts rt hv htr i x hx (d + 1) hd (fun d' e => by
      obtain rfl : d' = d := by omega
      exact at_y S hoff Bw r st dv lv pv rv D L Ts rt hv htr i x hx d' (by omega)) h0 M hw
end Go.Proofs.Mg
