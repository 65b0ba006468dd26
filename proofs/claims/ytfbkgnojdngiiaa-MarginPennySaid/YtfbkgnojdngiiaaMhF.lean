import Derived.Test.YtfbkgnojdngiiaaMhE
/- A bank at work begins; what is asked of a loan for each day. -/
namespace Go.Proofs.Mg
open Go Go.Ev Go.RowKit
set_option linter.unusedSimpArgs false
variable {pr : Prim} {R : ExT}
theorem bW0 (st : Int) (q1 q2 q3 q4 : Option Addr) (a1 b1 a2 b2 a3 b3 a4 b4 r : Nat) : rBuild Try.prog 129 [(0, .agg ⟨[iv st, .slice q1 a1 b1, .slice q2 a2 b2]⟩), (1, .agg ⟨[.slice q3 a3 b3, .slice q4 a4 b4]⟩), (2, .map (some r))] = some (.agg ⟨[iv st, .slice q1 a1 b1, .slice q2 a2 b2, .slice q3 a3 b3, .slice q4 a4 b4, .map (some r)]⟩) := by kernel_rfl
theorem bW {h : AHeap} {dv lv pv rv : Value} {D : List PD} {L : List PL} {Ts : List PT} {rt : List Int} (kb : BkAt h dv lv D L) (kt : TuAt h pv rv Ts rt) (st : Int) (r : Nat) : rBuild Try.prog 129 [(0, .agg ⟨bkV st dv lv⟩), (1, .agg ⟨tuV pv rv⟩), (2, .map (some r))] = some (.agg ⟨wkV st dv lv pv rv r⟩) := by
  obtain ⟨q1, a1, b1, rfl⟩ := row_sl kb.dy
  obtain ⟨q2, a2, b2, rfl⟩ := row_sl kb.ln
  obtain ⟨q3, a3, b3, rfl⟩ := row_sl kt.pr
  obtain ⟨q4, a4, b4, rfl⟩ := ints_sl kt.rt
  exact bW0 ..
set_option maxHeartbeats 4000000 in
theorem begin_y (S : Ev.Steps Try.prog pr R) (h0 : AHeap) (st : Int) (dv lv pv rv : Value) (D : List PD) (L : List PL) (Ts : List PT) (rt : List Int) (hb : BkAt h0 dv lv D L) (ht : TuAt h0 pv rv Ts rt) :
    Brings Try.prog R 77 [.agg ⟨bkV st dv lv⟩, .agg ⟨tuV pv rv⟩] h0 fun u h => ∃ Bw r, u = ptr0 Bw ∧ h0.nx ≤ r ∧ h0.nx ≤ Bw ∧ WAt h Bw r st dv lv pv rv D L Ts rt [] := by
  refine brings_of (fn := Try.f77) (c := (Try.f77.body).getD .skip) (by kernel_rfl) rfl (by kernel_rfl) rfl (fun K hK => ?_)
  generalize hF : finish Try.prog Try.f77 K = KF
  simp only [Try.f77, Option.getD_some, argsT, setArgs, fV1_eq, T.setK_eq, id]
  repeat refine S.seq ?_
  refine S.region ?_
  simp (disch := first | omega | (simp only [add_nx, upd_nx] <;> omega) | decide) only [rUz, ↓reduceIte, Nat.reduceEqDiff, Nat.reduceAdd]
  obtain ⟨B2, hB2⟩ : ∃ x, x = h0.nx := ⟨_, rfl⟩
  obtain ⟨B3, hB3⟩ : ∃ x, x = h0.nx + 1 := ⟨_, rfl⟩
  have hb2 : ((h0.add (bkV st dv lv)).add (tuV pv rv)).bl.get B2 = some (.cells (bkV st dv lv) B2 false) := by rw [ag_ne (by show B2 ≠ h0.nx + 1; omega)]; subst hB2; exact ag_eq rfl
  have hb3 : ((h0.add (bkV st dv lv)).add (tuV pv rv)).bl.get B3 = some (.cells (tuV pv rv) B3 false) := by subst hB3; exact ag_eq rfl
  have hk1 : Kp h0 ((h0.add (bkV st dv lv)).add (tuV pv rv)) := Kp.refl.add.add
  rw [← hB3, ← hB2]
  clear hB2 hB3
  generalize (h0.add (bkV st dv lv)).add (tuV pv rv) = H at hb2 hb3 hk1 ⊢
  have hbw := bW hb ht st H.nx
  repeat refine S.seq ?_
  refine S.region ?_
  simp (disch := first | omega | (simp only [add_nx, upd_nx] <;> omega) | decide) only [rUz, ↓reduceIte, Nat.reduceEqDiff, Nat.reduceAdd, hb2, hb3, part_0 pB (bkV_len st dv lv), part_0 pcU (tuV_len pv rv), w_makeMap, wr_mkmap, rd_build, List.map_cons, List.map_nil, hbw]
  refine S.ret ?_
  try simp only [seqK_ret, blockK_ret]
  subst hF
  simp only [finish, endMarks]
  rw [show Try.f77.results.toList = [.tmp 4] from rfl]
  simp (disch := first | omega | (simp only [add_nx, upd_nx] <;> omega) | decide) only [resA, ev_tmp, tget_ne, tget_eq, get_ne, get_eq, upd_eq, upd_ne, ag_eq, ag_ne, result1]
  have kz : Kp H (⟨T.set (H.nx + 1) H.bl H.nx (.map [] 0), H.nx + 1, H.fams⟩ : AHeap) := ⟨Nat.le_succ _, fun k hk => ⟨get_ne (by omega) (by omega), rfl⟩⟩
  have kA := (hk1.trans kz).add (c := wkV st dv lv pv rv H.nx)
  have h0H := hk1.1
  refine hK _ _ kA ⟨H.nx + 1, H.nx, rfl, by omega, by omega, ag_eq rfl, Nat.lt_succ_self _, ?_, by omega, hb.mono kA, ht.mono kA, ?_, ⟨fun e he => by cases he⟩⟩
  · show H.nx < H.nx + 1 + 1; omega
  · rw [ag_ne (by show H.nx ≠ H.nx + 1; omega)]
    exact get_eq (Nat.lt_succ_self _)
section
variable {H h : AHeap} {Bw r : Nat} {st : Int} {dv lv pv rv : Value} {D : List PD} {L : List PL} {Ts : List PT} {rt : List Int} {M M0 : GL N3}
theorem WAt.of (k0 : WAt H Bw r st dv lv pv rv D L Ts rt M0) (a : Fr H r h) (mp : h.bl.get r = some (.map (mkG c3 M 0) M.length)) (mm : Memo L Ts rt M) : WAt h Bw r st dv lv pv rv D L Ts rt M :=
  ⟨(a.get k0.lw k0.ne).trans k0.bw, Nat.lt_of_lt_of_le k0.lw a.le, Nat.lt_of_lt_of_le k0.lr a.le, k0.ne, k0.bk.frm a k0.mp, k0.tu.frm a k0.mp, mp, mm⟩
end
theorem own_fr {h h' : AHeap} {B r : Nat} {l : List Int} (k : Own h B l) (a : Fr h r h') (hn : B ≠ r) : Own h' B l := ⟨Nat.lt_of_lt_of_le k.1 a.le, (a.bl B k.1 hn).trans k.2.1, (a.fam B k.1).trans k.2.2⟩
structure IEa (Bw r i n : Nat) (st : Int) (dv lv pv rv : Value) (D : List PD) (L : List PL) (Ts : List PT) (rt : List Int) (fv : Value) (vals : List Int) (h0 : AHeap) (B7 : Nat) (k : Nat) (t : T Value) (h : AHeap) : Prop where
  fr : Fr h0 r h
  w : ∃ M, WAt h Bw r st dv lv pv rv D L Ts rt M
  own : Own h B7 (fillK vals k)
  t0 : tget t 0 = ptr0 Bw
  t1 : tget t 1 = iv (i : Int)
  t2 : tget t 2 = fv
  t7 : tget t 7 = .slice (some ⟨B7, 0, none⟩) n n
  t17 : tget t 17 = iv (n : Int)
  t18 : tget t 18 = iv (k : Int)
  hk : k ≤ n
set_option maxHeartbeats 8000000 in
theorem each_y (S : Ev.Steps Try.prog pr R) (hoff : Off pr) (h0 : AHeap) (Bw r : Nat) (st : Int) (dv lv pv rv : Value) (D : List PD) (L : List PL) (Ts : List PT) (rt : List Int) (hv : Val st D L) (htr : Tru st D.length Ts rt) (M0 : GL N3) (hw : WAt h0 Bw r st dv lv pv rv D L Ts rt M0) (i : Nat) (x : PL) (hx : L[i]? = some x) (G : FuncId) (hG : offB G = true) (q : Nat → Int)
    (hq : ∀ h' d, d < D.length → Brings Try.prog R G [.agg ⟨c3 (stdF x Ts rt d)⟩] h' fun u _ => u = iv (q d)) :
    BringsX Try.prog R 54 [ptr0 Bw, iv (i : Int), .func (.func G) #[] #[]] h0 fun u h => Fr h0 r h ∧ (∃ M, WAt h Bw r st dv lv pv rv D L Ts rt M) ∧ ∃ B, u = .slice (some ⟨B, 0, none⟩) D.length D.length ∧ h0.nx ≤ B ∧ Own h B ((List.range D.length).map q) := by
  refine bringsX_of (fn := Try.f54) (c := (Try.f54.body).getD .skip) (by kernel_rfl) rfl (by kernel_rfl) rfl (fun K hK => ?_)
  generalize hF : finish Try.prog Try.f54 K = KF
  simp only [Try.f54, Option.getD_some, argsT, setArgs, fV1_eq, T.setK_eq, id]
  have hd4 := hv.d4
  have lD := fun t h1 o => row_len hw.bk.dy iscD t h1 o
  obtain ⟨vals, hvals⟩ : ∃ l, l = (List.range D.length).map q := ⟨_, rfl⟩
  have hvl : vals.length = D.length := by rw [hvals]; simp
  rw [← hvals] at hK
  repeat refine S.seq ?_
  refine S.region ?_
  simp (disch := first | omega | (simp only [add_nx, upd_nx] <;> omega) | decide) only [rUz, ↓reduceIte, Nat.reduceEqDiff, Nat.reduceAdd]
  repeat refine S.seq ?_
  refine S.region ?_
  simp (disch := first | omega | (simp only [add_nx, upd_nx] <;> omega) | decide) only [rUz, ↓reduceIte, Nat.reduceEqDiff, Nat.reduceAdd, hw.bw, fieldAddr_ptr fW0 SB, fieldAddr_ptr fB1 lcD, qcD, wk1, lD, w_makeSlice]
  refine wr_makeInts (k := D.length) slI info3 z3 info3b info3s (by simp (disch := first | omega | (simp only [add_nx, upd_nx] <;> omega) | decide) only [rUz, ↓reduceIte, Nat.reduceEqDiff, Nat.reduceAdd]) (by simp (disch := first | omega | (simp only [add_nx, upd_nx] <;> omega) | decide) only [rUz, ↓reduceIte, Nat.reduceEqDiff, Nat.reduceAdd]) (by omega) (fun hown => ?_)
  have hkA : Kp h0 (h0.add ((List.replicate D.length 0).map iv)) := Kp.refl.add
  have hwA := hw.kp hkA
  obtain ⟨B7, hB7⟩ : ∃ z, z = h0.nx := ⟨_, rfl⟩
  have h7 : h0.nx ≤ B7 := by omega
  have h7r : B7 ≠ r := by have := hw.lr; omega
  rw [← hB7] at hown ⊢
  clear hB7
  have hl7 : ∀ (t : T Value) (h1 : AHeap) (o : Oper), rLen Try.prog t h1 o 22 (.slice (some ⟨B7, 0, none⟩) D.length D.length) = some (iv (D.length : Int)) := fun t h1 o => len_sl isI
  generalize h0.add ((List.replicate D.length 0).map iv) = H at hown hkA hwA ⊢
  simp (disch := first | omega | (simp only [add_nx, upd_nx] <;> omega) | decide) only [rUz, ↓reduceIte, Nat.reduceEqDiff, Nat.reduceAdd]
  repeat refine S.seq ?_
  refine S.region ?_
  simp (disch := first | omega | (simp only [add_nx, upd_nx] <;> omega) | decide) only [rUz, ↓reduceIte, Nat.reduceEqDiff, Nat.reduceAdd, hl7]
  repeat refine S.seq ?_
  refine S.block ?_
  refine S.loop (ι := Nat) (IEa Bw r i D.length st dv lv pv rv D L Ts rt (.func (.func G) #[] #[]) vals h0 B7) (fun k => D.length - k) ?_ 0 _ _ ?_
  rotate_left
  · refine ⟨hkA.fr, ⟨_, hwA⟩, by rw [fillK_zero, hvl]; exact hown, ?_, ?_, ?_, ?_, ?_, ?_, Nat.zero_le _⟩
    all_goals (first | rfl | (simp (disch := first | omega | (simp only [add_nx, upd_nx] <;> omega) | decide) only [rUz, ↓reduceIte, Nat.reduceEqDiff, Nat.reduceAdd]; done) | (simp (disch := first | omega | (simp only [add_nx, upd_nx] <;> omega) | decide) only [rUz, ↓reduceIte, Nat.reduceEqDiff, Nat.reduceAdd]; rfl))
  clear hown hwA hkA
  clear H
  intro k t h ⟨fr, ⟨M, w⟩, own, t0, t1, t2, t7, t17, t18, hk⟩ K' hn he
  repeat refine S.seq ?_
  refine S.region ?_
  simp (disch := first | omega | (simp only [add_nx, upd_nx] <;> omega) | decide) only [rUz, ↓reduceIte, Nat.reduceEqDiff, Nat.reduceAdd, t17, t18]
  repeat refine S.seq ?_
  refine S.cond (v := decide ((k : Int) < (D.length : Int))) (by first | rfl | (simp (disch := first | omega | (simp only [add_nx, upd_nx] <;> omega) | decide) only [rUz, ↓reduceIte, Nat.reduceEqDiff, Nat.reduceAdd] <;> rfl)) (fun e => ?_) (fun e => ?_)
  · have hkn : k < D.length := by have := of_decide_eq_true e; omega
    clear e
    have hkv : k < vals.length := by omega
    have hvk : vals[k] = q k := by
      have : vals[k]? = some (q k) := by rw [hvals, List.getElem?_map, List.getElem?_range hkn]; rfl
      rw [List.getElem?_eq_getElem hkv] at this
      exact Option.some.inj this
    have e7 := fillK_set vals hkv
    have l7 := fillK_len vals (k := k) (by omega)
    rw [hvk] at e7
    have i7 : ∀ c, rIndexAddr Try.prog 22 (.slice (some ⟨B7, 0, none⟩) D.length c) (iv (k : Int)) = some (.pointer (some ⟨B7, k, none⟩)) := fun c => by rw [indexAddr_sl slI s3' hkn, Nat.zero_add, Nat.mul_one]
    repeat refine S.seq ?_
    refine S.skip ?_
    simp (disch := first | omega | (simp only [add_nx, upd_nx] <;> omega) | decide) only [rUz, ↓reduceIte, Nat.reduceEqDiff, Nat.reduceAdd]
    repeat refine S.seq ?_
    refine S.block ?_
    repeat refine S.seq ?_
    refine S.region ?_
    simp (disch := first | omega | (simp only [add_nx, upd_nx] <;> omega) | decide) only [rUz, ↓reduceIte, Nat.reduceEqDiff, Nat.reduceAdd, t18]
    repeat refine S.seq ?_
    refine S.region ?_
    simp (disch := first | omega | (simp only [add_nx, upd_nx] <;> omega) | decide) only [rUz, ↓reduceIte, Nat.reduceEqDiff, Nat.reduceAdd, t0, t1, t2, t7, rd_build, List.map_cons, List.map_nil, bP]
    refine wr_bringsX (fid := 49) (first := #[]) (captured := #[]) (Post := AtPost h Bw r st dv lv pv rv D L Ts rt M x k) rfl (hoff _ _ _ rfl) (by simp (disch := first | omega | (simp only [add_nx, upd_nx] <;> omega) | decide) only [rUz, ↓reduceIte, Nat.reduceEqDiff, Nat.reduceAdd]; exact at_y S hoff Bw r st dv lv pv rv D L Ts rt hv htr i x hx k hkn h M w) ?_
    rintro u g ⟨rfl, frg, M', wg, _⟩
    simp (disch := first | omega | (simp only [add_nx, upd_nx] <;> omega) | decide) only [rUz, ↓reduceIte, Nat.reduceEqDiff, Nat.reduceAdd]
    refine wr_brings (fid := G) (first := #[]) (captured := #[]) (Post := fun u _ => u = iv (q k)) (by simp (disch := first | omega | (simp only [add_nx, upd_nx] <;> omega) | decide) only [rUz, ↓reduceIte, Nat.reduceEqDiff, Nat.reduceAdd]) (hoff _ _ _ hG) (by simp (disch := first | omega | (simp only [add_nx, upd_nx] <;> omega) | decide) only [rUz, ↓reduceIte, Nat.reduceEqDiff, Nat.reduceAdd]; exact hq g k hkn) ?_
    rintro u g2 hkg2 rfl
    have own2 := own_fr own (frg.kp hkg2) h7r
    have w2 := wg.kp hkg2
    have fr2 : Fr h0 r g2 := fr.trans (frg.kp hkg2)
    have hl7' : k < ((fillK vals k).map iv).length := by rw [List.length_map]; omega
    have s7 : ((fillK vals k).map iv).set k (iv (q k)) = (fillK vals (k + 1)).map iv := by rw [← e7, List.map_set]
    generalize q k = z at e7 s7
    simp (disch := first | omega | (simp only [add_nx, upd_nx] <;> omega) | decide) only [rUz, ↓reduceIte, Nat.reduceEqDiff, Nat.reduceAdd, i7]
    refine wr_store s3' ?_
    simp (disch := first | omega | (simp only [add_nx, upd_nx] <;> omega) | decide) only [rUz, ↓reduceIte, Nat.reduceEqDiff, Nat.reduceAdd, own2.2.1, own2.2.2, hl7']
    rw [s7]
    repeat refine S.seq ?_
    refine S.region ?_
    simp (disch := first | omega | (simp only [add_nx, upd_nx] <;> omega) | decide) only [rUz, ↓reduceIte, Nat.reduceEqDiff, Nat.reduceAdd, t18]
    refine hn (k + 1) _ _ (by omega) ⟨fr_updN fr2 h7, ⟨M', w2.updN hw fr2 h7⟩, ⟨own2.1, upd_eq _ _ _, own2.2.2⟩, ?_, ?_, ?_, ?_, ?_, ?_, by omega⟩
    all_goals (first | rfl | (simp (disch := first | omega | (simp only [add_nx, upd_nx] <;> omega) | decide) only [rUz, ↓reduceIte, Nat.reduceEqDiff, Nat.reduceAdd, t0, t1, t2, t7, t17]; done) | (simp (disch := first | omega | (simp only [add_nx, upd_nx] <;> omega) | decide) only [rUz, ↓reduceIte, Nat.reduceEqDiff, Nat.reduceAdd, t0, t1, t2, t7, t17]; rfl))
  have hkn : k = D.length := by have := of_decide_eq_false e; omega
  subst hkn
  rw [← hvl, fillK_full] at own
  refine S.exit (he _ _ _ _ (fun e => by cases e) ?_)
  simp (disch := first | omega | (simp only [add_nx, upd_nx] <;> omega) | decide) only [rUz, ↓reduceIte, Nat.reduceEqDiff, Nat.reduceAdd]
  repeat refine S.seq ?_
  refine S.region ?_
  simp (disch := first | omega | (simp only [add_nx, upd_nx] <;> omega) | decide) only [rUz, ↓reduceIte, Nat.reduceEqDiff, Nat.reduceAdd, t7]
  refine S.ret ?_
  try simp only [seqK_ret, blockK_ret]
  subst hF
  simp only [finish, endMarks]
  rw [show Try.f54.results.toList = [.tmp 6] from rfl]
  simp (disch := first | omega | (simp only [add_nx, upd_nx] <;> omega) | decide) only [resA, ev_tmp, tget_ne, tget_eq, get_ne, get_eq, upd_eq, upd_ne, ag_eq, ag_ne, result1]
  exact hK _ _ ⟨fr, ⟨M, w⟩, B7, rfl, h7, own⟩
end Go.Proofs.Mg
